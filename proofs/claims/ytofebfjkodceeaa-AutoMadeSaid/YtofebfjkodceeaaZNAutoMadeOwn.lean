/- Several texts in one. -/
import Derived.Test.YtofebfjkodceeaaAx3
import Derived.Test.YtofebfjkodceeaaZIAutoMadeOwn
import Derived.Ground.SlgnProg
import Derived.Shelf.SlicesE.Clone
import Derived.Deep.RegionHeld3
import Derived.Test.YtofebfjkodceeaaZAutoMadeOwn
namespace Go.Proofs.Ytofebfjkodceeaa
open Go.RowKit Go.Shelf
set_option linter.unusedSimpArgs false
set_option linter.unusedVariables false
set_option maxRecDepth 8000
def cls_ren : Go.Shelf.Ren := ⟨fun | 41 => 93 | n => n, fun | 22 => 95 | 23 => 71 | 4 => 4 | n => n, fun | n => n⟩
theorem cls_lays : Go.Proofs.SlLaysE0.n41 Try.prog cls_ren := {
 mixed := by kernel_rfl
 f41 := ⟨Try.f93.name, by decide, Try.func93.trans (congrArg some (by kernel_rfl))⟩
 t4 := Try.underlying4
 a4 := Try.isAgg4
 z4 := Try.sizeOf4
 v4 := Try.zeroValue4
 t22 := Try.underlying95
 a22 := Try.isAgg95
 z22 := Try.sizeOf95
 v22 := Try.zeroValue95 }
theorem cloneS_any (b off c : Nat) (xs : List Nat) (w : World) (hn : xs.length ≤ 1000000) (hc : ∀ i (h : i < xs.length), w.cell? ⟨b, off + i, none⟩ = some (stV xs[i])) :
  Calls Try.prog 93 #[.slice (some ⟨b, off, none⟩) xs.length c] w fun e w' => ∃ v', e = .returned v' ∧ w'.ownsRow w.heap.size 71 1 v' xs.length (xs.map stV) ∧ v' ≠ .slice none 0 0 ∧ Below w.heap.size w w' := by
 obtain ⟨i0, hi, hz0, hz1, hz2⟩ := info_parts infoSetX
 refine AnyE.slices_Clone cls_lays i0 _ 1 8 hi hz0 hz1 hz2 rfl (by decide) Try.sizeOf71 b off xs.length c (xs.map stV) w (by simp) (by unfold maxLen; omega) (by omega) (fun j u hj => ?_) (fun u hu => ?_)
 ·have hjl : j < xs.length := by
   apply Classical.byContradiction
   intro h
   rw [List.getElem?_eq_none (by simp; omega)] at hj
   cases hj
  rw [List.getElem?_map, List.getElem?_eq_getElem hjl] at hj
  simp at hj
  subst hj
  exact hc j hjl
 ·obtain ⟨x, _, rfl⟩ := List.mem_map.1 hu
  rfl
def kdC (a b c : Value) (T : Nat → Nat → Bool) : Array Value := (a :: b :: c :: (List.range 64).map fun (i : Nat) => Value.bool (T (i / 8) (i % 8))).toArray
theorem kd_cell {a b c : Value} {T : Nat → Nat → Bool} {s r : Nat} (hs : s < 8) (hr : r < 8) : (kdC a b c T)[3 + s * 8 + r]? = some (.bool (T s r)) := by
 unfold kdC
 have e : 3 + s * 8 + r = s * 8 + r + 1 + 1 + 1 := by omega
 rw [e]
 simp only [List.getElem?_toArray, List.getElem?_cons_succ]
 rw [List.getElem?_map, List.getElem?_range (by omega)]
 have h1 : (s * 8 + r) / 8 = s := by omega
 have h2 : (s * 8 + r) % 8 = r := by omega
 simp only [Option.map_some, h1, h2]
def setTx (T : Nat → Nat → Bool) (s r : Nat) (z : Bool) : Nat → Nat → Bool := fun x y => if x = s ∧ y = r then z else T x y
theorem kd_put {a b c : Value} {T : Nat → Nat → Bool} {s r : Nat} (hs : s < 8) (hr : r < 8) (z : Bool) : (kdC a b c T).setIfInBounds (3 + s * 8 + r) (.bool z) = kdC a b c (setTx T s r z) := by
 unfold kdC
 have e : 3 + s * 8 + r = s * 8 + r + 1 + 1 + 1 := by omega
 rw [e, List.setIfInBounds_toArray]
 simp only [List.set_cons_succ]
 congr 4
 apply List.ext_getElem
 ·simp
 ·intro i h1 h2
  simp only [List.length_set, List.length_map, List.length_range] at h1
  rw [List.getElem_set]
  simp only [List.getElem_map, List.getElem_range, setTx]
  by_cases h : s * 8 + r = i
  ·have h3 : i / 8 = s ∧ i % 8 = r := by omega
   rw [if_pos h, if_pos h3]
  ·have h3 : ¬ (i / 8 = s ∧ i % 8 = r) := by omega
   rw [if_neg h, if_neg h3]
theorem Blk.kdPut {w : World} {K : Nat} {a b c : Value} {T : Nat → Nat → Bool} {Y : Nat} (h : Blk w K (kdC a b c T) Y) {s r : Nat} (hs : s < 8) (hr : r < 8) (z : Bool) : Blk (w.setCell ⟨K, 3 + s * 8 + r, none⟩ (.bool z)) K (kdC a b c (setTx T s r z)) Y := by
 have := h.set (3 + s * 8 + r) (.bool z)
 rw [kd_put hs hr] at this
 exact this
set_option maxHeartbeats 1000000 in
theorem count1_any (T : Nat → Nat → Bool) (a b c : Value) (K P Q s r : Nat) (hs : s < 8) (hr : r < 8) (w : World) (hK : Blk w K (kdC a b c T) 119) (hP : Blk w P #[.pointer (some ⟨K, 0, none⟩)] 97) (hQ : Blk w Q #[stV s] 71) :
  Calls Try.prog 76 #[stV r, .pointer (some ⟨P, 0, none⟩), .pointer (some ⟨Q, 0, none⟩)] w fun e w' => e = .returned (.bool (!T s r)) ∧ w' = w.drew := by
 unfold stV at *
 have c0 : w.cell? ⟨P, 0, none⟩ = some (.pointer (some ⟨K, 0, none⟩)) := hP.cell 0
 have c1 : w.cell? ⟨Q, 0, none⟩ = some (.int .u64 (s : Int)) := hQ.cell 0
 have c2 : w.cell? ⟨K, 3 + s * 8 + r, none⟩ = some (.bool (T s r)) := (hK.cell (3 + s * 8 + r)).trans (kd_cell hs hr)
 have hsi : (s : Int) < 8 := by omega
 have hri : (r : Int) < 8 := by omega
 have hKl := hK.lt
 clear hK hP hQ
 go_enter Try.func76, Try.ntmps76
 go_wp2_with fail
 go_region_held3 (fun w' => w'.cell? ⟨P, 0, none⟩ = some (.pointer (some ⟨K, 0, none⟩)) ∧ w'.cell? ⟨Q, 0, none⟩ = some (.int .u64 (s : Int)) ∧ w'.cell? ⟨K, 3 + s * 8 + r, none⟩ = some (.bool (T s r))) (go_keep) (fail)
 go_wp2_with fail
 go_ret
 exact ⟨rfl, rfl⟩
theorem any_takeN {l : List Nat} {f : Nat → Bool} {k : Nat} (h : k < l.length) (hk : (l.take k).any f = false) (h1 : f l[k] = false) : (l.take (k + 1)).any f = false := by
 rw [List.take_succ_eq_append_getElem h, List.any_append, hk]; simp [h1]
theorem any_atN {l : List Nat} {f : Nat → Bool} {k : Nat} (h : k < l.length) (h1 : f l[k] = true) : l.any f = true := List.any_eq_true.2 ⟨_, List.getElem_mem h, h1⟩
set_option maxHeartbeats 1000000 in
theorem containsS_any (T : Nat → Nat → Bool) (a b c : Value) (K P Q s : Nat) (hs : s < 8) (l : List Nat) (hl8 : ∀ x ∈ l, x < 8) (al : Option Addr) (cl : Nat) (w : World) (X : Nat → Prop) (hv : LV stV w X (.slice al l.length cl) l) (hK : Blk w K (kdC a b c T) 119) (hP : Blk w P #[.pointer (some ⟨K, 0, none⟩)] 97) (hQ : Blk w Q #[stV s] 71) :
  Calls Try.prog 77 #[.slice al l.length cl, .func (.func 76) #[] #[.pointer (some ⟨P, 0, none⟩), .pointer (some ⟨Q, 0, none⟩)]] w fun e w' => e = .returned (.bool (l.any fun r => !T s r)) ∧ Below w.heap.size w w' := by
 have HV := hide hv
 have HK := hide hK
 have HP := hide hP
 have HQ := hide hQ
 have H8 := hide hl8
 have hl := hv
 obtain ⟨_, _, e0, hll, _⟩ := hl
 cases e0
 have hlen := hll.1
 clear hv hK hP hQ hl8 hll
 have CF : Calls Try.prog 89 #[.slice al l.length cl, .func (.func 76) #[] #[.pointer (some ⟨P, 0, none⟩), .pointer (some ⟨Q, 0, none⟩)]] w fun e w' => ∃ z : Int, e = .returned (.int .i64 z) ∧ decide (0 ≤ z) = (l.any fun r => !T s r) ∧ Below w.heap.size w w' := by
  go_enter Try.func89, Try.ntmps89
  go_wp2_with fail
  go_loopw [8] (fun i wr => ∃ k : Nat, k ≤ l.length ∧ i = .int .i64 (k : Int) ∧ ((l.take k).any fun r => !T s r) = false ∧ Below w.heap.size w wr) (fun i wr => l.length - (intOf i).toNat)
  case atStart => exact ⟨0, Nat.zero_le _, rfl, by simp, Below.refl _ _⟩
  case round =>
   obtain ⟨k, hk, rfl, hno, hbr⟩ := hrel
   have HNO := hide hno
   have HBR := hide hbr
   clear hno hbr
   by_cases hlt : k < l.length
   ·have hki : (k : Int) < (l.length : Int) := by omega
    obtain ⟨bb, oo, rfl, hbb, hcc⟩ := HV.out.at HBR.out k hlt
    unfold stV at hcc
    have HX8 := hide (H8.out _ (List.getElem_mem hlt))
    go_wp2_with fail
    refine (count1_any T a b c K P Q s l[k] hs HX8.out _ (HK.out.below HBR.out HK.out.lt) (HP.out.below HBR.out HP.out.lt) (HQ.out.below HBR.out HQ.out.lt)).mono ?_
    rintro e w2 ⟨rfl, hw2⟩
    have HB2 : Hid (Below w.heap.size w w2) := by rw [hw2]; exact HBR.out.drew
    clear hw2 hcc
    cases ho : (!T s l[k]) with
    | true =>
     have HA := hide (any_atN (f := fun r => !T s r) hlt ho)
     clear ho
     go_wp2_with fail
     go_ret
     exact ⟨_, rfl, by rw [HA.out]; simp, HB2.out⟩
    | false =>
     have HA := hide (any_takeN (f := fun r => !T s r) hlt HNO.out ho)
     clear ho
     go_wp2_with fail
     go_roundw
     case rel => exact ⟨k + 1, by omega, by go_num, HA.out, HB2.out⟩
     case measure => simp [intOf]; omega
   ·have hki : ¬ (k : Int) < (l.length : Int) := by omega
    have HA : Hid ((l.any fun r => !T s r) = false) := by have h := HNO.out; rw [List.take_of_length_le (by omega)] at h; exact h
    go_wp2_with fail
    go_ret
    exact ⟨-1, rfl, by rw [HA.out]; rfl, HBR.out⟩
 go_enter Try.func77, Try.ntmps77
 go_wp2_with fail
 refine CF.mono ?_
 rintro e w' ⟨z, rfl, hz, hb⟩
 have HZ := hide hz
 have HB := hide hb
 clear hz hb
 go_wp2_with fail
 go_ret
 exact ⟨by rw [← HZ.out]; rfl, HB.out⟩
theorem LV.front {w : World} {X : Nat → Prop} {a : Option Addr} {c : Nat} {l : List Nat} (h : LV stV w X (.slice a l.length c) l) (k : Nat) (hk : k ≤ l.length) : LV stV w X (.slice a (l.take k).length c) (l.take k) := by
 obtain ⟨a', c', e, hl, h⟩ := h
 cases e
 refine ⟨a, c, rfl, by simp; omega, ?_⟩
 rcases h with h | ⟨b, o, e, hb, h⟩
 ·left; rw [h]; simp
 ·exact Or.inr ⟨b, o, e, hb, fun i hi => by rw [List.getElem_take]; exact h i (by simp at hi; omega)⟩
set_option maxHeartbeats 2000000 in
theorem kCount_any (T : Nat → Nat → Bool) (a b : Value) (K : Nat) (all : List Nat) (h8 : ∀ x ∈ all, x < 8) (hal : all.length ≤ 64) (sa : Option Addr) (cs : Nat) (w : World) (X : Nat → Prop) (hv : LV stV w X (.slice sa all.length cs) all) (hK : Blk w K (kdC a b (.slice sa all.length cs) T) 119) :
  Calls Try.prog 59 #[.pointer (some ⟨K, 0, none⟩)] w fun e w' => e = .returned (.int .i64 (cntK (fun s r => !T s r) all : Int)) ∧ Below w.heap.size w w' := by
 have hmf : ∀ (fn : Fn) (first cap : Array Value) (w : World), (Instr.makeFunc fn first cap).run Try.prog w = .ok (.func fn first cap) w := fun _ _ _ _ => rfl
 have B1 := hide (one1 w (.cells #[.pointer (some ⟨K, 0, none⟩)] 97))
 have P1 : Hid (Blk (w.alloc (.cells #[.pointer (some ⟨K, 0, none⟩)] 97)) w.heap.size #[.pointer (some ⟨K, 0, none⟩)] 97) := Blk.new _ _ _
 have HK := hide hK
 have HV := hide hv
 have H8 := hide h8
 obtain ⟨_, _, e0, hll, _⟩ := id hv
 cases e0
 have k2 : (w.alloc (.cells #[.pointer (some ⟨K, 0, none⟩)] 97)).cell? ⟨K, 2, none⟩ = some (.slice sa all.length cs) := (hK.alloc _).cell 2
 have hKl := hK.lt
 have p0 := P1.out.cell 0
 clear hK hv h8
 go_enter Try.func59, Try.ntmps59
 go_wp2_with fail
 generalize (w.alloc (.cells #[.pointer (some ⟨K, 0, none⟩)] 97)) = w1 at *
 obtain ⟨P, hP⟩ : ∃ P, P = w.heap.size := ⟨_, rfl⟩
 rw [← hP] at P1 ⊢
 clear hP k2 p0
 go_loopw [3, 12] (fun q i wr => ∃ k : Nat, k ≤ all.length ∧ i = .int .i64 (k : Int) ∧ q = .int .i64 (cntK (fun s r => !T s r) (all.take k) : Int) ∧ Below w.heap.size w wr ∧ Blk wr P #[.pointer (some ⟨K, 0, none⟩)] 97) (fun q i wr => all.length - (intOf i).toNat)
 case atStart => exact ⟨0, Nat.zero_le _, rfl, by simp [cntK_nil], B1.out, P1.out⟩
 case round =>
  obtain ⟨k, hk, rfl, rfl, hbr, hpr⟩ := hrel
  have HBR := hide hbr
  have HPR := hide hpr
  clear hbr hpr
  by_cases hlt : k < all.length
  ·have hki : (k : Int) < (all.length : Int) := by omega
   have hkn : ¬ (k : Int) < 0 := by omega
   have hkc : (k : Int) ≤ (cs : Int) := by omega
   obtain ⟨bb, oo, rfl, hbb, hcc⟩ := HV.out.at HBR.out k hlt
   unfold stV at hcc
   have HX8 := hide (H8.out _ (List.getElem_mem hlt))
   have HSN := hide (cntK_snoc (fun s r => !T s r) (all.take k) all[k])
   have HTK : Hid (all.take (k + 1) = all.take k ++ [all[k]]) := List.take_succ_eq_append_getElem hlt
   have hcb : cntK (fun s r => !T s r) (all.take k) ≤ 64 := by
    have h : ∀ l : List Nat, cntK (fun s r => !T s r) l ≤ l.length := fun l => by
     unfold cntK
     have h2 : ∀ m : List Nat, (repR (fun s r => !T s r) m).length ≤ m.length := fun m => by
      induction m with
      | nil => simp [repR]
      | cons x m ih =>
       rw [repR]
       split
       ·simp; omega
       ·simp; omega
     have := h2 l.reverse
     simpa using this
    have := h (all.take k)
    simp at this
    omega
   obtain ⟨x, hx⟩ : ∃ x, x = all[k] := ⟨_, rfl⟩
   rw [← hx] at hcc HX8 HSN HTK
   clear hx
   have B3 := hide (HBR.out.trans ((one1 wr (.cells #[.int .u64 (x : Int)] 71)).mono HBR.out.size))
   have Q3 : Hid (Blk (wr.alloc (.cells #[.int .u64 (x : Int)] 71)) wr.heap.size #[stV x] 71) := Blk.new _ _ _
   have P3 : Hid (Blk (wr.alloc (.cells #[.int .u64 (x : Int)] 71)) P #[.pointer (some ⟨K, 0, none⟩)] 97) := HPR.out.alloc _
   have p0 : (wr.alloc (.cells #[.int .u64 (x : Int)] 71)).cell? ⟨P, 0, none⟩ = some (.pointer (some ⟨K, 0, none⟩)) := P3.out.cell 0
   have k2 : (wr.alloc (.cells #[.int .u64 (x : Int)] 71)).cell? ⟨K, 2, none⟩ = some (.slice (some ⟨bb, oo, none⟩) all.length cs) := (HK.out.below B3.out HK.out.lt).cell 2
   obtain ⟨C, hC⟩ : ∃ C : Nat, C = cntK (fun s r => !T s r) (all.take k) := ⟨_, rfl⟩
   rw [← hC] at hcb HSN ⊢
   clear hC
   go_upto_region 6 with fail
   generalize (wr.alloc (.cells #[.int .u64 (x : Int)] 71)) = w3 at *
   generalize wr.heap.size = Q at *
   clear hcc
   have CT := containsS_any T a b _ K P Q x HX8.out (all.take k) (fun y hy => H8.out y (List.mem_of_mem_take hy)) (some ⟨bb, oo, none⟩) cs w3 X ((HV.out.later B3.out).front k (by omega)) (HK.out.below B3.out HK.out.lt) P3.out Q3.out
   rw [List.length_take, Nat.min_eq_left (by omega)] at CT
   have HCT := hide CT
   clear CT
   go_wp2_with fail
   refine HCT.out.mono ?_
   rintro e w4 ⟨rfl, hb4⟩
   have B4 := hide (B3.out.trans (hb4.mono B3.out.size))
   have P4 := hide (P3.out.below hb4 P3.out.lt)
   clear hb4 HCT p0 k2 P3 Q3 B3
   cases ho : ((all.take k).any fun r => !T x r) with
   | true =>
    rw [ho, if_pos rfl] at HSN
    clear ho
    go_wp2_with fail
    go_roundw
    case rel => exact ⟨k + 1, by omega, by go_num, by rw [HTK.out, HSN.out]; rfl, B4.out, P4.out⟩
    case measure => simp [intOf]; omega
   | false =>
    rw [ho, if_neg (by decide)] at HSN
    clear ho
    go_wp2_with fail
    go_roundw
    case rel => exact ⟨k + 1, by omega, by go_num, by rw [HTK.out, HSN.out]; go_num, B4.out, P4.out⟩
    case measure => simp [intOf]; omega
  ·have hki : ¬ (k : Int) < (all.length : Int) := by omega
   have htk : all.take k = all := List.take_of_length_le (by omega)
   rw [htk]
   go_wp2_with fail
   go_ret
   exact ⟨rfl, HBR.out⟩
end Go.Proofs.Ytofebfjkodceeaa
