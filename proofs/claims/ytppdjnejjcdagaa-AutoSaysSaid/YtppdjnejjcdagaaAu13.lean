/- Walks: where a term may end, as the document says. -/
import Derived.Test.YtppdjnejjcdagaaAu12
import Derived.Test.YtppdjnejjcdagaaAu10a
import Derived.Test.YtppdjnejjcdagaaZAutoSaysOwn
import Derived.Test.YtppdjnejjcdagaaL4
import Derived.Laws.OwnMore
import Derived.Deep.RegionHeld3
namespace Go.Proofs.Ytppdjnejjcdagaa
open Go.RowKit
set_option linter.unusedSimpArgs false
set_option linter.unusedVariables false
set_option maxRecDepth 8000

theorem LV.at {α : Type} {f : α → Value} {w wr : World} {X : Nat → Prop} {a : Option Addr} {n c : Nat} {l : List α} (h : LV f w X (.slice a n c) l) (hb : Below w.heap.size w wr) (k : Nat) (hk : k < l.length) : ∃ b o, a = some ⟨b, o, none⟩ ∧ b < w.heap.size ∧ wr.cell? ⟨b, o + k, none⟩ = some (f l[k]) := by
  obtain ⟨a', c', e, _, h⟩ := h
  simp only [Value.slice.injEq] at e
  obtain ⟨rfl, rfl, rfl⟩ := e
  rcases h with h0 | ⟨b, o, e, hx, h1⟩
  · subst h0; simp at hk
  · have hl := cell_ltA (h1 k hk)
    exact ⟨b, o, e, hl, (hb.cell (p := ⟨b, o + k, none⟩) hl).trans (h1 k hk)⟩
/-- Rows of answers in memory. -/
def BLs (w : World) (X : Nat → Prop) (v : Value) (bs : List (List Bool)) : Prop := ∃ a c, v = .slice a bs.length c ∧ bs.length ≤ 9223372036854775807 ∧ (bs = [] ∨ ∃ b o, a = some ⟨b, o, none⟩ ∧ ∀ i (h : i < bs.length), ∃ a' c', w.cell? ⟨b, o + i, none⟩ = some (.slice a' bs[i].length c') ∧ LV Value.bool w X (.slice a' bs[i].length c') bs[i])
theorem BLs.get {w wr : World} {X : Nat → Prop} {a : Option Addr} {n c : Nat} {bs : List (List Bool)} (h : BLs w X (.slice a n c) bs) (hb : Below w.heap.size w wr) (k : Nat) (hk : k < bs.length) : ∃ b o a' c', a = some ⟨b, o, none⟩ ∧ b < w.heap.size ∧ wr.cell? ⟨b, o + k, none⟩ = some (.slice a' bs[k].length c') ∧ LV Value.bool wr X (.slice a' bs[k].length c') bs[k] := by
  obtain ⟨a0, c0, e, _, h⟩ := h
  simp only [Value.slice.injEq] at e
  obtain ⟨rfl, rfl, rfl⟩ := e
  rcases h with h0 | ⟨b, o, e, h1⟩
  · subst h0; simp at hk
  · obtain ⟨a', c', h2, h3⟩ := h1 k hk
    exact ⟨b, o, a', c', e, cell_ltA h2, (hb.cell (p := ⟨b, o + k, none⟩) (cell_ltA h2)).trans h2, h3.later hb⟩
theorem BLs.later {w w' : World} {X : Nat → Prop} {v : Value} {bs : List (List Bool)} (h : BLs w X v bs) (hb : Below w.heap.size w w') : BLs w' X v bs := by
  obtain ⟨a, c, e, hl, h⟩ := h
  refine ⟨a, c, e, hl, ?_⟩
  rcases h with h | ⟨b, o, e, h⟩
  · exact Or.inl h
  · refine Or.inr ⟨b, o, e, fun i hi => ?_⟩
    obtain ⟨a', c', h1, h2⟩ := h i hi
    exact ⟨a', c', (hb.cell (p := ⟨b, o + i, none⟩) (cell_ltA h1)).trans h1, h2.later hb⟩

theorem infoBoA : (Try.prog.info? 4).map (fun i => (i.zero, i.size, i.bytes)) = some (some (.bool false), 1, 1) := by kernel_rfl
theorem infoBsA : (Try.prog.info? 52).map (fun i => (i.zero, i.size, i.bytes)) = some (some (.slice none 0 0), 1, 24) := by kernel_rfl
theorem make_boolsA (n : Nat) (hn : n ≤ 20000) (w : World) : (Instr.makeSlice 52 (.int .i64 (n : Int)) (.int .i64 (n : Int))).run Try.prog w = .ok (.slice (some ⟨w.heap.size, 0, none⟩) n n) (w.alloc (.cells (Array.replicate n (Value.bool false)) 4)) := by
  obtain ⟨i0, hi, hz0, hz1, hz2⟩ := info_parts infoBoA
  have hr := run_make (P := Try.prog) w 52 4 i0 _ Try.underlying52 hi hz0 .i64 .i64 n n (by omega) (by omega) (by rw [hz2]; omega) (by omega)
  have h2 : madeCells (Value.bool false).cells n = Array.replicate n (Value.bool false) := by
    have h3 := toList_madeCells_one (.bool false) n
    apply Array.ext'
    rw [Array.toList_replicate, ← h3]
    rfl
  rw [hz1, Nat.mul_one] at hr
  simp only [Int.toNat_natCast] at hr
  rw [h2] at hr
  exact hr
/-- What stands there, by some moves. -/
def arrB (ms : List Mv) (name : ByteArray) (bs : List (List Bool)) (n : Nat) : List Bool := (List.range n).map (endB ms name bs)
theorem arrB_nil (name : ByteArray) (bs : List (List Bool)) (n : Nat) : arrB [] name bs n = List.replicate n false := by
  unfold arrB endB
  simp [List.map_const']
theorem endB_snoc (ms : List Mv) (m : Mv) (name : ByteArray) (bs : List (List Bool)) (s : Nat) : endB (ms ++ [m]) name bs s = (endB ms name bs s || (mvB name bs m && decide (m.to = (s : Int)))) := by
  unfold endB
  rw [List.any_append]
  simp
theorem arrB_no {ms : List Mv} {m : Mv} {name : ByteArray} {bs : List (List Bool)} {n : Nat} (h : mvB name bs m = false) : arrB (ms ++ [m]) name bs n = arrB ms name bs n := by
  unfold arrB
  refine List.map_congr_left fun s _ => ?_
  rw [endB_snoc, h]
  simp
theorem arrB_yes {ms : List Mv} {m : Mv} {name : ByteArray} {bs : List (List Bool)} {n t : Nat} (h : mvB name bs m = true) (ht : m.to = (t : Int)) : arrB (ms ++ [m]) name bs n = (arrB ms name bs n).set t true := by
  unfold arrB
  apply List.ext_getElem
  · simp
  · intro i h1 h2
    simp only [List.length_map, List.length_range] at h1
    rw [List.getElem_set]
    simp only [List.getElem_map, List.getElem_range]
    rw [endB_snoc, h, ht]
    by_cases e : t = i
    · subst e; simp
    · rw [if_neg e]
      have : ¬ ((t : Int) = (i : Int)) := by omega
      simp [this]
theorem goB_take {bs : List (List Bool)} {f : List Int} : ∀ {q : Nat} (h1 : q < bs.length) (h2 : q < f.length), goB (bs.take (q + 1)) (f.take (q + 1)) = (goB (bs.take q) (f.take q) && bitAt bs[q] f[q]) := by
  induction bs generalizing f with
  | nil => intro q h1; simp at h1
  | cons b r ih =>
    intro q h1 h2
    match f, h2 with
    | i :: g, h2 =>
      cases q with
      | zero => simp [goB]
      | succ q =>
        simp only [List.take_succ_cons, goB, List.getElem_cons_succ]
        rw [ih (f := g) (q := q) (by simpa using h1) (by simpa using h2), Bool.and_assoc]

set_option maxHeartbeats 4000000 in
theorem ending_any (A : Au) {S M : Nat} (hS : S ≤ 64) (hM : M ≤ 100000) (hA : OkAu S M A) (n : Nat) (hn : A.st = (n : Int)) (name : ByteArray) (bs : List (List Bool)) (hbs : ∀ b ∈ bs, b.length = n) (va vb : Value) (w : World) (X : Nat → Prop) (hva : AV w X va A) (hvb : BLs w X vb bs) :
    Calls Try.prog 36 #[va, .string name, vb] w fun e w' => ∃ a c, e = .returned (.slice a n c) ∧ LV Value.bool w' (fun b => w.heap.size ≤ b) (.slice a n c) (edgT A.mv n name bs) ∧ Below w.heap.size w w' := by
  obtain ⟨am, cm, al, cl, rfl, hm, _⟩ := hva
  obtain ⟨ab, cb, rfl, hbl, _⟩ := id hvb
  have hml := hm.1
  have hn64 : n ≤ 64 := by have := hA.st; omega
  have hmk := make_boolsA n (by omega)
  rw [hn]
  have B1 : Hid (Below w.heap.size w (w.alloc (.cells #[.int .i64 (n : Int), .slice am A.mv.length cm, .slice al A.la.length cl] 25))) := (Below.refl _ _).alloc (Nat.le_refl _) _
  have T1 : Hid (Blk (w.alloc (.cells #[.int .i64 (n : Int), .slice am A.mv.length cm, .slice al A.la.length cl] 25)) w.heap.size #[.int .i64 (n : Int), .slice am A.mv.length cm, .slice al A.la.length cl] 25) := Blk.new w _ _
  have M1 := hide (hm.later B1.out)
  have HV1 := hide (hvb.later B1.out)
  have HA := hide hA
  have HN := hide hn
  have HBS := hide hbs
  clear hm hvb hA hn hbs
  go_enter Try.func36, Try.ntmps36
  go_upto_region 1 with fail
  generalize (w.alloc (.cells #[.int .i64 (n : Int), .slice am A.mv.length cm, .slice al A.la.length cl] 25)) = w1 at *
  have c0 : w1.cell? ⟨w.heap.size, 0, none⟩ = some (.int .i64 (n : Int)) := T1.out.cell 0
  have hlt1 := T1.out.lt
  have B2 : Hid (Below w1.heap.size w1 (w1.alloc (.cells (Array.replicate n (Value.bool false)) 4))) := (Below.refl _ _).alloc (Nat.le_refl _) _
  have G2 : Hid (Blk (w1.alloc (.cells (Array.replicate n (Value.bool false)) 4)) w1.heap.size (Array.replicate n (Value.bool false)) 4) := Blk.new w1 _ _
  have T2 := hide (T1.out.alloc (.cells (Array.replicate n (Value.bool false)) 4))
  go_upto_region 2 with fail
  generalize (w1.alloc (.cells (Array.replicate n (Value.bool false)) 4)) = w2 at *
  obtain ⟨Gb, hGb⟩ : ∃ Gb, Gb = w1.heap.size := ⟨_, rfl⟩
  rw [← hGb] at G2 ⊢
  have HGB := hide hGb
  clear hGb c0 hlt1 hmk
  have c1 : w2.cell? ⟨w.heap.size, 1, none⟩ = some (.slice am A.mv.length cm) := T2.out.cell 1
  have hlt2 := T2.out.lt
  go_wp2_with fail
  go_loopw [8] (fun i wr => ∃ k : Nat, k ≤ A.mv.length ∧ i = .int .i64 (k : Int) ∧ Blk wr Gb ((arrB (A.mv.take k) name bs n).map Value.bool).toArray 4 ∧ Below w1.heap.size w1 wr) (fun i wr => A.mv.length - (intOf i).toNat)
  case atStart => exact ⟨0, Nat.zero_le _, rfl, by rw [List.take_zero, arrB_nil, List.map_replicate, List.toArray_replicate]; exact G2.out, B2.out⟩
  case round =>
    obtain ⟨k, hk, rfl, hg, hb⟩ := hrel
    obtain ⟨w3, rfl⟩ : ∃ w3, w3 = wr := ⟨_, rfl⟩
    have HG := hide hg
    have HB := hide hb
    have T3 := hide (T1.out.below hb T1.out.lt)
    clear c1 hlt2
    have c1 : w3.cell? ⟨w.heap.size, 1, none⟩ = some (.slice am A.mv.length cm) := T3.out.cell 1
    have hlt3 := T3.out.lt
    have hgl := hg.lt
    by_cases hlt : k < A.mv.length
    · have hki : (k : Int) < (A.mv.length : Int) := by omega
      obtain ⟨b, o, af, cf, rfl, hbl1, d0, d1, d2, hpf⟩ := M1.out.get hb k hlt
      obtain ⟨m, hm⟩ : ∃ m, m = A.mv[k] := ⟨_, rfl⟩
      have HOM : Hid (OkMv A.st m) := by unfold Hid; rw [hm]; exact HA.out.mv _ (List.getElem_mem hlt)
      have HTK : Hid (A.mv.take (k + 1) = A.mv.take k ++ [m]) := by unfold Hid; rw [hm]; exact List.take_succ_eq_append_getElem hlt
      rw [← hm] at d0 d1 d2 hpf
      have hbl3 : b < w3.heap.size := Nat.lt_of_lt_of_le hbl1 hb.size
      have B4 : Hid (Below w3.heap.size w3 (w3.alloc (.cells #[.string m.name, .slice af m.frm.length cf, .int .i64 m.to] 46))) := (Below.refl _ _).alloc (Nat.le_refl _) _
      have V4 : Hid (Blk (w3.alloc (.cells #[.string m.name, .slice af m.frm.length cf, .int .i64 m.to] 46)) w3.heap.size #[.string m.name, .slice af m.frm.length cf, .int .i64 m.to] 46) := Blk.new w3 _ _
      have PF := hide (hpf.later B4.out)
      have G4 := hide (hg.alloc (.cells #[.string m.name, .slice af m.frm.length cf, .int .i64 m.to] 46))
      have HB4 := hide (hb.alloc hb.size (.cells #[.string m.name, .slice af m.frm.length cf, .int .i64 m.to] 46))
      have HV4 := hide (HV1.out.later HB4.out)
      have hfl := HOM.out.len
      clear hm hpf hb hg
      go_upto_region 6 with fail
      generalize (w3.alloc (.cells #[.string m.name, .slice af m.frm.length cf, .int .i64 m.to] 46)) = w4 at *
      obtain ⟨V, hV⟩ : ∃ V, V = w3.heap.size := ⟨_, rfl⟩
      have HVG : Hid (V ≠ Gb) := by unfold Hid; omega
      rw [← hV] at V4 ⊢
      clear hV c1 d0 d1 d2 hlt3 hgl
      have v0 : w4.cell? ⟨V, 0, none⟩ = some (.string m.name) := V4.out.cell 0
      have v1 : w4.cell? ⟨V, 1, none⟩ = some (.slice af m.frm.length cf) := V4.out.cell 1
      have vl := V4.out.lt
      by_cases hnm : m.name = name
      · have hnL : m.name.toList = name.toList := by rw [hnm]
        have HNM := hide hnm
        clear hnm
        by_cases hlen : m.frm.length = bs.length
        · have hle : ((m.frm.length : Int) != (bs.length : Int)) = false := by rw [hlen]; simp
          have HLEN := hide hlen
          have hbl4 : bs.length ≤ 4 := by omega
          clear hlen
          go_wp2_with fail
          go_loopw [10, 11] (fun ok i wr => ∃ q : Nat, q ≤ bs.length ∧ i = .int .i64 (q : Int) ∧ ok = .bool (goB (bs.take q) (m.frm.take q)) ∧ Below w4.heap.size w4 wr) (fun ok i wr => bs.length - (intOf i).toNat)
          case atStart => exact ⟨0, Nat.zero_le _, rfl, by simp [goB], Below.refl _ _⟩
          case round =>
            obtain ⟨q, hq, rfl, rfl, hbq⟩ := hrel
            obtain ⟨w5, rfl⟩ : ∃ w5, w5 = wr := ⟨_, rfl⟩
            have HBQ := hide hbq
            have V5 := hide (V4.out.below hbq V4.out.lt)
            clear v0 v1 vl
            have v1 : w5.cell? ⟨V, 1, none⟩ = some (.slice af m.frm.length cf) := V5.out.cell 1
            have v2 : w5.cell? ⟨V, 2, none⟩ = some (.int .i64 m.to) := V5.out.cell 2
            have vl := V5.out.lt
            by_cases hqlt : q < bs.length
            · have hqi : (q : Int) < (bs.length : Int) := by omega
              have hqf : q < m.frm.length := by rw [HLEN.out]; exact hqlt
              have hqfi : (q : Int) < (m.frm.length : Int) := by omega
              have HGT : Hid (goB (bs.take (q + 1)) (m.frm.take (q + 1)) = (goB (bs.take q) (m.frm.take q) && bitAt bs[q] m.frm[q])) := goB_take hqlt hqf
              cases hok : goB (bs.take q) (m.frm.take q) with
              | false =>
                have HNX : Hid (goB (bs.take (q + 1)) (m.frm.take (q + 1)) = false) := by unfold Hid; rw [HGT.out, hok]; rfl
                clear hok hbq
                go_wp2_with fail
                go_quiet (fail)
                go_wp2_with fail
                go_roundw
                case rel => exact ⟨q + 1, by omega, by go_num, by rw [HNX.out], below_drewN HBQ.out _⟩
                case measure => simp [intOf]; omega
              | true =>
                obtain ⟨bf, of, rfl, hbf, hcf⟩ := PF.out.at hbq q hqf
                obtain ⟨bb, ob, ax, cx, rfl, hbb, hcb, hlx⟩ := HV4.out.get hbq q hqlt
                obtain ⟨t, ht⟩ : ∃ t : Nat, m.frm[q] = (t : Int) := ⟨m.frm[q].toNat, by have := HOM.out.frm _ (List.getElem_mem hqf); omega⟩
                have hln : bs[q].length = n := HBS.out _ (List.getElem_mem hqlt)
                have htn : t < bs[q].length := by rw [hln]; have := HOM.out.frm _ (List.getElem_mem hqf); have := HN.out; omega
                obtain ⟨bx, ox, rfl, hbx, hcx⟩ := hlx.at (Below.refl w5.heap.size w5) t htn
                have HNX : Hid (goB (bs.take (q + 1)) (m.frm.take (q + 1)) = bs[q][t]) := by
                  unfold Hid
                  rw [HGT.out, hok, ht]
                  unfold bitAt
                  rw [Int.toNat_natCast, List.getElem?_eq_getElem htn]
                  rfl
                rw [ht] at hcf
                rw [hln] at hcb
                have htni : (t : Int) < (n : Int) := by rw [hln] at htn; omega
                generalize bs[q][t] = bit at *
                have hbf5 : bf < w5.heap.size := Nat.lt_of_lt_of_le hbf hbq.size
                have hbb5 : bb < w5.heap.size := Nat.lt_of_lt_of_le hbb hbq.size
                clear ht hln htn hok hbq hlx HGT
                go_wp2_with fail
                go_quiet (fail)
                go_wp2_with fail
                go_roundw
                case rel => exact ⟨q + 1, by omega, by go_num, by rw [HNX.out], below_drewN HBQ.out _⟩
                case measure => simp [intOf]; omega
            · have hqi : ¬ (q : Int) < (bs.length : Int) := by omega
              have HMV : Hid (mvB name bs m = goB (bs.take q) (m.frm.take q)) := by
                unfold Hid mvB
                rw [List.take_of_length_le (by omega), List.take_of_length_le (by rw [HLEN.out]; omega)]
                simp [HNM.out, HLEN.out]
              have G5 := hide (G4.out.below hbq G4.out.lt)
              have HB5 := hide (HB4.out.trans (hbq.mono HB4.out.size))
              clear hbq
              cases hok : goB (bs.take q) (m.frm.take q) with
              | false =>
                have HNX : Hid (arrB (A.mv.take (k + 1)) name bs n = arrB (A.mv.take k) name bs n) := by unfold Hid; rw [HTK.out]; exact arrB_no (by rw [HMV.out]; exact hok)
                clear hok
                go_wp2_with fail
                go_roundw
                case rel => exact ⟨k + 1, by omega, by go_num, by rw [HNX.out]; exact G5.out, HB5.out⟩
                case measure => simp [intOf]; omega
              | true =>
                obtain ⟨t, ht⟩ : ∃ t : Nat, m.to = (t : Int) := ⟨m.to.toNat, by have := HOM.out.to; omega⟩
                have htn : t < n := by have := HOM.out.to; have := HN.out; omega
                have HNX : Hid (arrB (A.mv.take (k + 1)) name bs n = (arrB (A.mv.take k) name bs n).set t true) := by unfold Hid; rw [HTK.out]; exact arrB_yes (by rw [HMV.out]; exact hok) ht
                have htl : t < (arrB (A.mv.take k) name bs n).length := by simp [arrB]; exact htn
                have g5 : w5.cell? ⟨Gb, t, none⟩ = some (.bool ((arrB (A.mv.take k) name bs n)[t])) := by rw [G5.out.cell t]; simp [htl]
                have gf := G5.out.frozen t
                have gl := G5.out.lt
                have htni : (t : Int) < (n : Int) := by omega
                rw [ht] at v2
                generalize (arrB (A.mv.take k) name bs n)[t] = old at *
                have HT0 := hide ht
                clear hok ht htl htn
                go_wp2_with fail
                go_roundw
                case rel =>
                  refine ⟨k + 1, by omega, by go_num, ?_, HB5.out.setCell (by have := HGB.out; simp; omega) _⟩
                  have h9 := G5.out.set t (.bool true)
                  rw [HNX.out, List.map_set]
                  simpa using h9
                case measure => simp [intOf]; omega
        · have hle : ((m.frm.length : Int) != (bs.length : Int)) = true := by simp; omega
          have HNX : Hid (arrB (A.mv.take (k + 1)) name bs n = arrB (A.mv.take k) name bs n) := by unfold Hid; rw [HTK.out]; exact arrB_no (by rw [Bool.eq_false_iff]; intro h; exact hlen (mvB_iff.1 h).2.1)
          clear hlen
          go_wp2_with fail
          go_roundw
          case rel => exact ⟨k + 1, by omega, by go_num, by rw [HNX.out]; exact G4.out, HB4.out⟩
          case measure => simp [intOf]; omega
      · have hnL : ¬ m.name.toList = name.toList := fun h => hnm (name_inj h)
        have HNX : Hid (arrB (A.mv.take (k + 1)) name bs n = arrB (A.mv.take k) name bs n) := by unfold Hid; rw [HTK.out]; exact arrB_no (by rw [Bool.eq_false_iff]; intro h; exact hnm (mvB_iff.1 h).1)
        clear hnm
        go_wp2_with fail
        go_roundw
        case rel => exact ⟨k + 1, by omega, by go_num, by rw [HNX.out]; exact G4.out, HB4.out⟩
        case measure => simp [intOf]; omega
    · have hki : ¬ (k : Int) < (A.mv.length : Int) := by omega
      have HTK : Hid (A.mv.take k = A.mv) := List.take_of_length_le (by omega)
      clear hb hg
      go_wp2_with fail
      go_ret
      have h9 := HG.out
      rw [HTK.out] at h9
      refine ⟨_, _, rfl, ⟨_, _, by rw [edgT_len], by rw [edgT_len]; omega, Or.inr ⟨Gb, 0, rfl, by have := B1.out.size; have := HGB.out; omega, fun i hi => ?_⟩⟩, B1.out.trans (HB.out.mono B1.out.size)⟩
      rw [Nat.zero_add, h9.cell i]
      unfold edgT at hi ⊢
      unfold arrB
      simp only [List.length_map, List.length_range] at hi
      simp [hi]
end Go.Proofs.Ytppdjnejjcdagaa
