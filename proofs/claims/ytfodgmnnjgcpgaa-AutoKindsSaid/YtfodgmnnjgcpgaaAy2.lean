/- Walks: how many sets are there, none alike another one (auto.kinds.count). -/
import Derived.Test.YtfodgmnnjgcpgaaAy1
import Derived.Test.YtfodgmnnjgcpgaaZIAutoKindsOwn
import Derived.Test.YtfodgmnnjgcpgaaZAutoKindsOwn
namespace Go.Proofs.Ytfodgmnnjgcpgaa
open Go.RowKit Go.Shelf
set_option linter.unusedSimpArgs false
set_option linter.unusedVariables false
set_option maxRecDepth 8000

theorem any_takeN {l : List Nat} {f : Nat → Bool} {k : Nat} (h : k < l.length) (hk : (l.take k).any f = false) (h1 : f l[k] = false) : (l.take (k + 1)).any f = false := by
  rw [List.take_succ_eq_append_getElem h, List.any_append, hk]; simp [h1]
theorem any_atN {l : List Nat} {f : Nat → Bool} {k : Nat} (h : k < l.length) (h1 : f l[k] = true) : l.any f = true := List.any_eq_true.2 ⟨_, List.getElem_mem h, h1⟩

set_option maxHeartbeats 1000000 in
theorem containsS_any (T : Nat → Nat → Bool) (a b c : Value) (K P Q s : Nat) (hs : s < 8) (l : List Nat) (hl8 : ∀ x ∈ l, x < 8) (al : Option Addr) (cl : Nat) (w : World) (X : Nat → Prop) (hv : LV stV w X (.slice al l.length cl) l) (hK : Blk w K (kdC a b c T) 106) (hP : Blk w P #[.pointer (some ⟨K, 0, none⟩)] 71) (hQ : Blk w Q #[stV s] 61) :
    Calls Try.prog 62 #[.slice al l.length cl, .func (.func 61) #[] #[.pointer (some ⟨P, 0, none⟩), .pointer (some ⟨Q, 0, none⟩)]] w fun e w' => e = .returned (.bool (l.any fun r => !T s r)) ∧ Below w.heap.size w w' := by
  have HV := hide hv
  have HK := hide hK
  have HP := hide hP
  have HQ := hide hQ
  have H8 := hide hl8
  have hl := hv
  obtain ⟨_, _, e0, hll, _⟩ := hl
  cases e0
  have hlen := hll.1
  clear hv hK hP hQ hl8 hll
  have CF : Calls Try.prog 81 #[.slice al l.length cl, .func (.func 61) #[] #[.pointer (some ⟨P, 0, none⟩), .pointer (some ⟨Q, 0, none⟩)]] w fun e w' => ∃ z : Int, e = .returned (.int .i64 z) ∧ decide (0 ≤ z) = (l.any fun r => !T s r) ∧ Below w.heap.size w w' := by
    go_enter Try.func81, Try.ntmps81
    go_wp2_with fail
    go_loopw [8] (fun i wr => ∃ k : Nat, k ≤ l.length ∧ i = .int .i64 (k : Int) ∧ ((l.take k).any fun r => !T s r) = false ∧ Below w.heap.size w wr) (fun i wr => l.length - (intOf i).toNat)
    case atStart => exact ⟨0, Nat.zero_le _, rfl, by simp, Below.refl _ _⟩
    case round =>
      obtain ⟨k, hk, rfl, hno, hbr⟩ := hrel
      have HNO := hide hno
      have HBR := hide hbr
      clear hno hbr
      by_cases hlt : k < l.length
      · have hki : (k : Int) < (l.length : Int) := by omega
        obtain ⟨bb, oo, rfl, hbb, hcc⟩ := HV.out.at HBR.out k hlt
        unfold stV at hcc
        have HX8 := hide (H8.out _ (List.getElem_mem hlt))
        go_wp2_with fail
        refine (count1_any T a b c K P Q s l[k] hs HX8.out _ (HK.out.below HBR.out HK.out.lt) (HP.out.below HBR.out HP.out.lt) (HQ.out.below HBR.out HQ.out.lt)).mono ?_
        rintro e w2 ⟨rfl, hw2⟩
        have HB2 : Hid (Below w.heap.size w w2) := by rw [hw2]; exact HBR.out.drew
        clear hw2 hcc
        cases ho : (!T s l[k]) with
        | true =>
          have HA := hide (any_atN (f := fun r => !T s r) hlt ho)
          clear ho
          go_wp2_with fail
          go_ret
          exact ⟨_, rfl, by rw [HA.out]; simp, HB2.out⟩
        | false =>
          have HA := hide (any_takeN (f := fun r => !T s r) hlt HNO.out ho)
          clear ho
          go_wp2_with fail
          go_roundw
          case rel => exact ⟨k + 1, by omega, by go_num, HA.out, HB2.out⟩
          case measure => simp [intOf]; omega
      · have hki : ¬ (k : Int) < (l.length : Int) := by omega
        have HA : Hid ((l.any fun r => !T s r) = false) := by have h := HNO.out; rw [List.take_of_length_le (by omega)] at h; exact h
        go_wp2_with fail
        go_ret
        exact ⟨-1, rfl, by rw [HA.out]; rfl, HBR.out⟩
  go_enter Try.func62, Try.ntmps62
  go_wp2_with fail
  refine CF.mono ?_
  rintro e w' ⟨z, rfl, hz, hb⟩
  have HZ := hide hz
  have HB := hide hb
  clear hz hb
  go_wp2_with fail
  go_ret
  exact ⟨by rw [← HZ.out]; rfl, HB.out⟩

/-- The sets that lie ahead of one. -/
theorem LV.front {w : World} {X : Nat → Prop} {a : Option Addr} {c : Nat} {l : List Nat} (h : LV stV w X (.slice a l.length c) l) (k : Nat) (hk : k ≤ l.length) : LV stV w X (.slice a (l.take k).length c) (l.take k) := by
  obtain ⟨a', c', e, hl, h⟩ := h
  cases e
  refine ⟨a, c, rfl, by simp; omega, ?_⟩
  rcases h with h | ⟨b, o, e, hb, h⟩
  · left; rw [h]; simp
  · exact Or.inr ⟨b, o, e, hb, fun i hi => by rw [List.getElem_take]; exact h i (by simp at hi; omega)⟩

set_option maxHeartbeats 2000000 in
theorem kCount_any (T : Nat → Nat → Bool) (a b : Value) (K : Nat) (all : List Nat) (h8 : ∀ x ∈ all, x < 8) (hal : all.length ≤ 64) (sa : Option Addr) (cs : Nat) (w : World) (X : Nat → Prop) (hv : LV stV w X (.slice sa all.length cs) all) (hK : Blk w K (kdC a b (.slice sa all.length cs) T) 106) :
    Calls Try.prog 35 #[.pointer (some ⟨K, 0, none⟩)] w fun e w' => e = .returned (.int .i64 (cntK (fun s r => !T s r) all : Int)) ∧ Below w.heap.size w w' := by
  have hmf : ∀ (fn : Fn) (first cap : Array Value) (w : World), (Instr.makeFunc fn first cap).run Try.prog w = .ok (.func fn first cap) w := fun _ _ _ _ => rfl
  have B1 := hide (one1 w (.cells #[.pointer (some ⟨K, 0, none⟩)] 71))
  have P1 : Hid (Blk (w.alloc (.cells #[.pointer (some ⟨K, 0, none⟩)] 71)) w.heap.size #[.pointer (some ⟨K, 0, none⟩)] 71) := Blk.new _ _ _
  have HK := hide hK
  have HV := hide hv
  have H8 := hide h8
  obtain ⟨_, _, e0, hll, _⟩ := id hv
  cases e0
  have k2 : (w.alloc (.cells #[.pointer (some ⟨K, 0, none⟩)] 71)).cell? ⟨K, 2, none⟩ = some (.slice sa all.length cs) := (hK.alloc _).cell 2
  have hKl := hK.lt
  have p0 := P1.out.cell 0
  clear hK hv h8
  go_enter Try.func35, Try.ntmps35
  go_wp2_with fail
  generalize (w.alloc (.cells #[.pointer (some ⟨K, 0, none⟩)] 71)) = w1 at *
  obtain ⟨P, hP⟩ : ∃ P, P = w.heap.size := ⟨_, rfl⟩
  rw [← hP] at P1 ⊢
  clear hP k2 p0
  go_loopw [3, 12] (fun q i wr => ∃ k : Nat, k ≤ all.length ∧ i = .int .i64 (k : Int) ∧ q = .int .i64 (cntK (fun s r => !T s r) (all.take k) : Int) ∧ Below w.heap.size w wr ∧ Blk wr P #[.pointer (some ⟨K, 0, none⟩)] 71) (fun q i wr => all.length - (intOf i).toNat)
  case atStart => exact ⟨0, Nat.zero_le _, rfl, by simp [cntK_nil], B1.out, P1.out⟩
  case round =>
    obtain ⟨k, hk, rfl, rfl, hbr, hpr⟩ := hrel
    have HBR := hide hbr
    have HPR := hide hpr
    clear hbr hpr
    by_cases hlt : k < all.length
    · have hki : (k : Int) < (all.length : Int) := by omega
      have hkn : ¬ (k : Int) < 0 := by omega
      have hkc : (k : Int) ≤ (cs : Int) := by omega
      obtain ⟨bb, oo, rfl, hbb, hcc⟩ := HV.out.at HBR.out k hlt
      unfold stV at hcc
      have HX8 := hide (H8.out _ (List.getElem_mem hlt))
      have HSN := hide (cntK_snoc (fun s r => !T s r) (all.take k) all[k])
      have HTK : Hid (all.take (k + 1) = all.take k ++ [all[k]]) := List.take_succ_eq_append_getElem hlt
      have hcb : cntK (fun s r => !T s r) (all.take k) ≤ 64 := by
        have h : ∀ l : List Nat, cntK (fun s r => !T s r) l ≤ l.length := fun l => by
          unfold cntK
          have h2 : ∀ m : List Nat, (repR (fun s r => !T s r) m).length ≤ m.length := fun m => by
            induction m with
            | nil => simp [repR]
            | cons x m ih =>
              rw [repR]
              split
              · simp; omega
              · simp; omega
          have := h2 l.reverse
          simpa using this
        have := h (all.take k)
        simp at this
        omega
      obtain ⟨x, hx⟩ : ∃ x, x = all[k] := ⟨_, rfl⟩
      rw [← hx] at hcc HX8 HSN HTK
      clear hx
      have B3 := hide (HBR.out.trans ((one1 wr (.cells #[.int .u64 (x : Int)] 61)).mono HBR.out.size))
      have Q3 : Hid (Blk (wr.alloc (.cells #[.int .u64 (x : Int)] 61)) wr.heap.size #[stV x] 61) := Blk.new _ _ _
      have P3 : Hid (Blk (wr.alloc (.cells #[.int .u64 (x : Int)] 61)) P #[.pointer (some ⟨K, 0, none⟩)] 71) := HPR.out.alloc _
      have p0 : (wr.alloc (.cells #[.int .u64 (x : Int)] 61)).cell? ⟨P, 0, none⟩ = some (.pointer (some ⟨K, 0, none⟩)) := P3.out.cell 0
      have k2 : (wr.alloc (.cells #[.int .u64 (x : Int)] 61)).cell? ⟨K, 2, none⟩ = some (.slice (some ⟨bb, oo, none⟩) all.length cs) := (HK.out.below B3.out HK.out.lt).cell 2
      obtain ⟨C, hC⟩ : ∃ C : Nat, C = cntK (fun s r => !T s r) (all.take k) := ⟨_, rfl⟩
      rw [← hC] at hcb HSN ⊢
      clear hC
      go_upto_region 6 with fail
      generalize (wr.alloc (.cells #[.int .u64 (x : Int)] 61)) = w3 at *
      generalize wr.heap.size = Q at *
      clear hcc
      have CT := containsS_any T a b _ K P Q x HX8.out (all.take k) (fun y hy => H8.out y (List.mem_of_mem_take hy)) (some ⟨bb, oo, none⟩) cs w3 X ((HV.out.later B3.out).front k (by omega)) (HK.out.below B3.out HK.out.lt) P3.out Q3.out
      rw [List.length_take, Nat.min_eq_left (by omega)] at CT
      have HCT := hide CT
      clear CT
      go_wp2_with fail
      refine HCT.out.mono ?_
      rintro e w4 ⟨rfl, hb4⟩
      have B4 := hide (B3.out.trans (hb4.mono B3.out.size))
      have P4 := hide (P3.out.below hb4 P3.out.lt)
      clear hb4 HCT p0 k2 P3 Q3 B3
      cases ho : ((all.take k).any fun r => !T x r) with
      | true =>
        rw [ho, if_pos rfl] at HSN
        clear ho
        go_wp2_with fail
        go_roundw
        case rel => exact ⟨k + 1, by omega, by go_num, by rw [HTK.out, HSN.out]; rfl, B4.out, P4.out⟩
        case measure => simp [intOf]; omega
      | false =>
        rw [ho, if_neg (by decide)] at HSN
        clear ho
        go_wp2_with fail
        go_roundw
        case rel => exact ⟨k + 1, by omega, by go_num, by rw [HTK.out, HSN.out]; go_num, B4.out, P4.out⟩
        case measure => simp [intOf]; omega
    · have hki : ¬ (k : Int) < (all.length : Int) := by omega
      have htk : all.take k = all := List.take_of_length_le (by omega)
      rw [htk]
      go_wp2_with fail
      go_ret
      exact ⟨rfl, HBR.out⟩
end Go.Proofs.Ytfodgmnnjgcpgaa
