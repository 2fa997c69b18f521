/- Several texts in one. -/
import Derived.Test.YtofebfjkodceeaaAu12
import Derived.Test.YtofebfjkodceeaaAu10a
import Derived.Test.YtofebfjkodceeaaZAutoMadeOwn
import Derived.Test.YtofebfjkodceeaaL4
import Derived.Laws.OwnMore
import Derived.Deep.RegionHeld3
import Derived.Test.YtofebfjkodceeaaSq
namespace Go.Proofs.Ytofebfjkodceeaa
open Go.RowKit
set_option linter.unusedSimpArgs false
set_option linter.unusedVariables false
set_option maxRecDepth 8000
theorem LV.at {α : Type} {f : α → Value} {w wr : World} {X : Nat → Prop} {a : Option Addr} {n c : Nat} {l : List α} (h : LV f w X (.slice a n c) l) (hb : Below w.heap.size w wr) (k : Nat) (hk : k < l.length) : ∃ b o, a = some ⟨b, o, none⟩ ∧ b < w.heap.size ∧ wr.cell? ⟨b, o + k, none⟩ = some (f l[k]) := by
 obtain ⟨a', c', e, _, h⟩ := h
 simp only [Value.slice.injEq] at e
 obtain ⟨rfl, rfl, rfl⟩ := e
 rcases h with h0 | ⟨b, o, e, hx, h1⟩
 ·subst h0; simp at hk
 ·have hl := cell_ltA (h1 k hk)
  exact ⟨b, o, e, hl, (hb.cell (p := ⟨b, o + k, none⟩) hl).trans (h1 k hk)⟩
def BLs (w : World) (X : Nat → Prop) (v : Value) (bs : List (List Bool)) : Prop := ∃ a c, v = .slice a bs.length c ∧ bs.length ≤ 9223372036854775807 ∧ (bs = [] ∨ ∃ b o, a = some ⟨b, o, none⟩ ∧ ∀ i (h : i < bs.length), ∃ a' c', w.cell? ⟨b, o + i, none⟩ = some (.slice a' bs[i].length c') ∧ LV Value.bool w X (.slice a' bs[i].length c') bs[i])
theorem BLs.get {w wr : World} {X : Nat → Prop} {a : Option Addr} {n c : Nat} {bs : List (List Bool)} (h : BLs w X (.slice a n c) bs) (hb : Below w.heap.size w wr) (k : Nat) (hk : k < bs.length) : ∃ b o a' c', a = some ⟨b, o, none⟩ ∧ b < w.heap.size ∧ wr.cell? ⟨b, o + k, none⟩ = some (.slice a' bs[k].length c') ∧ LV Value.bool wr X (.slice a' bs[k].length c') bs[k] := by
 obtain ⟨a0, c0, e, _, h⟩ := h
 simp only [Value.slice.injEq] at e
 obtain ⟨rfl, rfl, rfl⟩ := e
 rcases h with h0 | ⟨b, o, e, h1⟩
 ·subst h0; simp at hk
 ·obtain ⟨a', c', h2, h3⟩ := h1 k hk
  exact ⟨b, o, a', c', e, cell_ltA h2, (hb.cell (p := ⟨b, o + k, none⟩) (cell_ltA h2)).trans h2, h3.later hb⟩
theorem BLs.later {w w' : World} {X : Nat → Prop} {v : Value} {bs : List (List Bool)} (h : BLs w X v bs) (hb : Below w.heap.size w w') : BLs w' X v bs := by
 obtain ⟨a, c, e, hl, h⟩ := h
 refine ⟨a, c, e, hl, ?_⟩
 rcases h with h | ⟨b, o, e, h⟩
 ·exact Or.inl h
 ·refine Or.inr ⟨b, o, e, fun i hi => ?_⟩
  obtain ⟨a', c', h1, h2⟩ := h i hi
  exact ⟨a', c', (hb.cell (p := ⟨b, o + i, none⟩) (cell_ltA h1)).trans h1, h2.later hb⟩
theorem infoBoA : (Try.prog.info? 4).map (fun i => (i.zero, i.size, i.bytes)) = some (some (.bool false), 1, 1) := by kernel_rfl
theorem infoBsA : (Try.prog.info? 67).map (fun i => (i.zero, i.size, i.bytes)) = some (some (.slice none 0 0), 1, 24) := by kernel_rfl
theorem make_boolsA (n : Nat) (hn : n ≤ 20000) (w : World) : (Instr.makeSlice 67 (.int .i64 (n : Int)) (.int .i64 (n : Int))).run Try.prog w = .ok (.slice (some ⟨w.heap.size, 0, none⟩) n n) (w.alloc (.cells (Array.replicate n (Value.bool false)) 4)) := by
 obtain ⟨i0, hi, hz0, hz1, hz2⟩ := info_parts infoBoA
 have hr := run_make (P := Try.prog) w 67 4 i0 _ Try.underlying67 hi hz0 .i64 .i64 n n (by omega) (by omega) (by rw [hz2]; omega) (by omega)
 have h2 : madeCells (Value.bool false).cells n = Array.replicate n (Value.bool false) := by
  have h3 := toList_madeCells_one (.bool false) n
  apply Array.ext'
  rw [Array.toList_replicate, ← h3]
  rfl
 rw [hz1, Nat.mul_one] at hr
 simp only [Int.toNat_natCast] at hr
 rw [h2] at hr
 exact hr
def arrB (ms : List Mv) (name : ByteArray) (bs : List (List Bool)) (n : Nat) : List Bool := (List.range n).map (endB ms name bs)
theorem arrB_nil (name : ByteArray) (bs : List (List Bool)) (n : Nat) : arrB [] name bs n = List.replicate n false := by
 unfold arrB endB
 simp [List.map_const']
theorem endB_snoc (ms : List Mv) (m : Mv) (name : ByteArray) (bs : List (List Bool)) (s : Nat) : endB (ms ++ [m]) name bs s = (endB ms name bs s || (mvB name bs m && decide (m.to = (s : Int)))) := by
 unfold endB
 rw [List.any_append]
 simp
theorem arrB_no {ms : List Mv} {m : Mv} {name : ByteArray} {bs : List (List Bool)} {n : Nat} (h : mvB name bs m = false) : arrB (ms ++ [m]) name bs n = arrB ms name bs n := by
 unfold arrB
 refine List.map_congr_left fun s _ => ?_
 rw [endB_snoc, h]
 simp
theorem arrB_yes {ms : List Mv} {m : Mv} {name : ByteArray} {bs : List (List Bool)} {n t : Nat} (h : mvB name bs m = true) (ht : m.to = (t : Int)) : arrB (ms ++ [m]) name bs n = (arrB ms name bs n).set t true := by
 unfold arrB
 apply List.ext_getElem
 ·simp
 ·intro i h1 h2
  simp only [List.length_map, List.length_range] at h1
  rw [List.getElem_set]
  simp only [List.getElem_map, List.getElem_range]
  rw [endB_snoc, h, ht]
  by_cases e : t = i
  ·subst e; simp
  ·rw [if_neg e]
   have : ¬ ((t : Int) = (i : Int)) := by omega
   simp [this]
theorem goB_take {bs : List (List Bool)} {f : List Int} : ∀ {q : Nat} (h1 : q < bs.length) (h2 : q < f.length), goB (bs.take (q + 1)) (f.take (q + 1)) = (goB (bs.take q) (f.take q) && bitAt bs[q] f[q]) := by
 induction bs generalizing f with
 | nil => intro q h1; simp at h1
 | cons b r ih =>
  intro q h1 h2
  match f, h2 with
  | i :: g, h2 =>
   cases q with
   | zero => simp [goB]
   | succ q =>
    simp only [List.take_succ_cons, goB, List.getElem_cons_succ]
    rw [ih (f := g) (q := q) (by simpa using h1) (by simpa using h2), Bool.and_assoc]
set_option maxHeartbeats 4000000 in
theorem ending_any (A : Au) {S M : Nat} (hS : S ≤ 64) (hM : M ≤ 100000) (hA : OkAu S M A) (n : Nat) (hn : A.st = (n : Int)) (name : ByteArray) (bs : List (List Bool)) (hbs : ∀ b ∈ bs, b.length = n) (va vb : Value) (w : World) (X : Nat → Prop) (hva : AV w X va A) (hvb : BLs w X vb bs) :
  Calls Try.prog 61 #[va, .string name, vb] w fun e w' => ∃ a c, e = .returned (.slice a n c) ∧ LV Value.bool w' (fun b => w.heap.size ≤ b) (.slice a n c) (edgT A.mv n name bs) ∧ Below w.heap.size w w' := by
 obtain ⟨am, cm, al, cl, rfl, hm, _⟩ := hva
 obtain ⟨ab, cb, rfl, hbl, _⟩ := id hvb
 have hml := hm.1
 have hn64 : n ≤ 64 := by have := hA.st; omega
 have hmk := make_boolsA n (by omega)
 rw [hn]
 have B1 : Hid (Below w.heap.size w (w.alloc (.cells #[.int .i64 (n : Int), .slice am A.mv.length cm, .slice al A.la.length cl] 25))) := (Below.refl _ _).alloc (Nat.le_refl _) _
 have T1 : Hid (Blk (w.alloc (.cells #[.int .i64 (n : Int), .slice am A.mv.length cm, .slice al A.la.length cl] 25)) w.heap.size #[.int .i64 (n : Int), .slice am A.mv.length cm, .slice al A.la.length cl] 25) := Blk.new w _ _
 have M1 := hide (hm.later B1.out)
 have HV1 := hide (hvb.later B1.out)
 have HA := hide hA
 have HN := hide hn
 have HBS := hide hbs
 clear hm hvb hA hn hbs
 go_enter Try.func61, Try.ntmps61
 go_upto_region 1 with fail
 generalize (w.alloc (.cells #[.int .i64 (n : Int), .slice am A.mv.length cm, .slice al A.la.length cl] 25)) = w1 at *
 have c0 : w1.cell? ⟨w.heap.size, 0, none⟩ = some (.int .i64 (n : Int)) := T1.out.cell 0
 have hlt1 := T1.out.lt
 have B2 : Hid (Below w1.heap.size w1 (w1.alloc (.cells (Array.replicate n (Value.bool false)) 4))) := (Below.refl _ _).alloc (Nat.le_refl _) _
 have G2 : Hid (Blk (w1.alloc (.cells (Array.replicate n (Value.bool false)) 4)) w1.heap.size (Array.replicate n (Value.bool false)) 4) := Blk.new w1 _ _
 have T2 := hide (T1.out.alloc (.cells (Array.replicate n (Value.bool false)) 4))
 go_upto_region 2 with fail
 generalize (w1.alloc (.cells (Array.replicate n (Value.bool false)) 4)) = w2 at *
 obtain ⟨Gb, hGb⟩ : ∃ Gb, Gb = w1.heap.size := ⟨_, rfl⟩
 rw [← hGb] at G2 ⊢
 have HGB := hide hGb
 clear hGb c0 hlt1 hmk
 have c1 : w2.cell? ⟨w.heap.size, 1, none⟩ = some (.slice am A.mv.length cm) := T2.out.cell 1
 have hlt2 := T2.out.lt
 go_wp2_with fail
 go_loopw [8] (fun i wr => ∃ k : Nat, k ≤ A.mv.length ∧ i = .int .i64 (k : Int) ∧ Blk wr Gb ((arrB (A.mv.take k) name bs n).map Value.bool).toArray 4 ∧ Below w1.heap.size w1 wr) (fun i wr => A.mv.length - (intOf i).toNat)
 case atStart => exact ⟨0, Nat.zero_le _, rfl, by rw [List.take_zero, arrB_nil, List.map_replicate, List.toArray_replicate]; exact G2.out, B2.out⟩
 case round =>
  obtain ⟨k, hk, rfl, hg, hb⟩ := hrel
  obtain ⟨w3, rfl⟩ : ∃ w3, w3 = wr := ⟨_, rfl⟩
  have HG := hide hg
  have HB := hide hb
  have T3 := hide (T1.out.below hb T1.out.lt)
  clear c1 hlt2
  have c1 : w3.cell? ⟨w.heap.size, 1, none⟩ = some (.slice am A.mv.length cm) := T3.out.cell 1
  have hlt3 := T3.out.lt
  have hgl := hg.lt
  by_cases hlt : k < A.mv.length
  ·have hki : (k : Int) < (A.mv.length : Int) := by omega
   obtain ⟨b, o, af, cf, rfl, hbl1, d0, d1, d2, hpf⟩ := M1.out.get hb k hlt
   obtain ⟨m, hm⟩ : ∃ m, m = A.mv[k] := ⟨_, rfl⟩
   have HOM : Hid (OkMv A.st m) := by unfold Hid; rw [hm]; exact HA.out.mv _ (List.getElem_mem hlt)
   have HTK : Hid (A.mv.take (k + 1) = A.mv.take k ++ [m]) := by unfold Hid; rw [hm]; exact List.take_succ_eq_append_getElem hlt
   rw [← hm] at d0 d1 d2 hpf
   have hbl3 : b < w3.heap.size := Nat.lt_of_lt_of_le hbl1 hb.size
   have B4 : Hid (Below w3.heap.size w3 (w3.alloc (.cells #[.string m.name, .slice af m.frm.length cf, .int .i64 m.to] 40))) := (Below.refl _ _).alloc (Nat.le_refl _) _
   have V4 : Hid (Blk (w3.alloc (.cells #[.string m.name, .slice af m.frm.length cf, .int .i64 m.to] 40)) w3.heap.size #[.string m.name, .slice af m.frm.length cf, .int .i64 m.to] 40) := Blk.new w3 _ _
   have PF := hide (hpf.later B4.out)
   have G4 := hide (hg.alloc (.cells #[.string m.name, .slice af m.frm.length cf, .int .i64 m.to] 40))
   have HB4 := hide (hb.alloc hb.size (.cells #[.string m.name, .slice af m.frm.length cf, .int .i64 m.to] 40))
   have HV4 := hide (HV1.out.later HB4.out)
   have hfl := HOM.out.len
   clear hm hpf hb hg
   go_upto_region 6 with fail
   generalize (w3.alloc (.cells #[.string m.name, .slice af m.frm.length cf, .int .i64 m.to] 40)) = w4 at *
   obtain ⟨V, hV⟩ : ∃ V, V = w3.heap.size := ⟨_, rfl⟩
   have HVG : Hid (V ≠ Gb) := by unfold Hid; omega
   rw [← hV] at V4 ⊢
   clear hV c1 d0 d1 d2 hlt3 hgl
   have v0 : w4.cell? ⟨V, 0, none⟩ = some (.string m.name) := V4.out.cell 0
   have v1 : w4.cell? ⟨V, 1, none⟩ = some (.slice af m.frm.length cf) := V4.out.cell 1
   have vl := V4.out.lt
   by_cases hnm : m.name = name
   ·have hnL : m.name.toList = name.toList := by rw [hnm]
    have HNM := hide hnm
    clear hnm
    by_cases hlen : m.frm.length = bs.length
    ·have hle : ((m.frm.length : Int) != (bs.length : Int)) = false := by rw [hlen]; simp
     have HLEN := hide hlen
     have hbl4 : bs.length ≤ 4 := by omega
     clear hlen
     go_wp2_with fail
     go_loopw [10, 11] (fun ok i wr => ∃ q : Nat, q ≤ bs.length ∧ i = .int .i64 (q : Int) ∧ ok = .bool (goB (bs.take q) (m.frm.take q)) ∧ Below w4.heap.size w4 wr) (fun ok i wr => bs.length - (intOf i).toNat)
     case atStart => exact ⟨0, Nat.zero_le _, rfl, by simp [goB], Below.refl _ _⟩
     case round =>
      obtain ⟨q, hq, rfl, rfl, hbq⟩ := hrel
      obtain ⟨w5, rfl⟩ : ∃ w5, w5 = wr := ⟨_, rfl⟩
      have HBQ := hide hbq
      have V5 := hide (V4.out.below hbq V4.out.lt)
      clear v0 v1 vl
      have v1 : w5.cell? ⟨V, 1, none⟩ = some (.slice af m.frm.length cf) := V5.out.cell 1
      have v2 : w5.cell? ⟨V, 2, none⟩ = some (.int .i64 m.to) := V5.out.cell 2
      have vl := V5.out.lt
      by_cases hqlt : q < bs.length
      ·have hqi : (q : Int) < (bs.length : Int) := by omega
       have hqf : q < m.frm.length := by rw [HLEN.out]; exact hqlt
       have hqfi : (q : Int) < (m.frm.length : Int) := by omega
       have HGT : Hid (goB (bs.take (q + 1)) (m.frm.take (q + 1)) = (goB (bs.take q) (m.frm.take q) && bitAt bs[q] m.frm[q])) := goB_take hqlt hqf
       cases hok : goB (bs.take q) (m.frm.take q) with
       | false =>
        have HNX : Hid (goB (bs.take (q + 1)) (m.frm.take (q + 1)) = false) := by unfold Hid; rw [HGT.out, hok]; rfl
        clear hok hbq
        go_wp2_with fail
        go_quiet (fail)
        go_wp2_with fail
        go_roundw
        case rel => exact ⟨q + 1, by omega, by go_num, by rw [HNX.out], below_drewN HBQ.out _⟩
        case measure => simp [intOf]; omega
       | true =>
        obtain ⟨bf, of, rfl, hbf, hcf⟩ := PF.out.at hbq q hqf
        obtain ⟨bb, ob, ax, cx, rfl, hbb, hcb, hlx⟩ := HV4.out.get hbq q hqlt
        obtain ⟨t, ht⟩ : ∃ t : Nat, m.frm[q] = (t : Int) := ⟨m.frm[q].toNat, by have := HOM.out.frm _ (List.getElem_mem hqf); omega⟩
        have hln : bs[q].length = n := HBS.out _ (List.getElem_mem hqlt)
        have htn : t < bs[q].length := by rw [hln]; have := HOM.out.frm _ (List.getElem_mem hqf); have := HN.out; omega
        obtain ⟨bx, ox, rfl, hbx, hcx⟩ := hlx.at (Below.refl w5.heap.size w5) t htn
        have HNX : Hid (goB (bs.take (q + 1)) (m.frm.take (q + 1)) = bs[q][t]) := by
         unfold Hid
         rw [HGT.out, hok, ht]
         unfold bitAt
         rw [Int.toNat_natCast, List.getElem?_eq_getElem htn]
         rfl
        rw [ht] at hcf
        rw [hln] at hcb
        have htni : (t : Int) < (n : Int) := by rw [hln] at htn; omega
        generalize bs[q][t] = bit at *
        have hbf5 : bf < w5.heap.size := Nat.lt_of_lt_of_le hbf hbq.size
        have hbb5 : bb < w5.heap.size := Nat.lt_of_lt_of_le hbb hbq.size
        clear ht hln htn hok hbq hlx HGT
        go_wp2_with fail
        go_quiet (fail)
        go_wp2_with fail
        go_roundw
        case rel => exact ⟨q + 1, by omega, by go_num, by rw [HNX.out], below_drewN HBQ.out _⟩
        case measure => simp [intOf]; omega
      ·have hqi : ¬ (q : Int) < (bs.length : Int) := by omega
       have HMV : Hid (mvB name bs m = goB (bs.take q) (m.frm.take q)) := by
        unfold Hid mvB
        rw [List.take_of_length_le (by omega), List.take_of_length_le (by rw [HLEN.out]; omega)]
        simp [HNM.out, HLEN.out]
       have G5 := hide (G4.out.below hbq G4.out.lt)
       have HB5 := hide (HB4.out.trans (hbq.mono HB4.out.size))
       clear hbq
       cases hok : goB (bs.take q) (m.frm.take q) with
       | false =>
        have HNX : Hid (arrB (A.mv.take (k + 1)) name bs n = arrB (A.mv.take k) name bs n) := by unfold Hid; rw [HTK.out]; exact arrB_no (by rw [HMV.out]; exact hok)
        clear hok
        go_wp2_with fail
        go_roundw
        case rel => exact ⟨k + 1, by omega, by go_num, by rw [HNX.out]; exact G5.out, HB5.out⟩
        case measure => simp [intOf]; omega
       | true =>
        obtain ⟨t, ht⟩ : ∃ t : Nat, m.to = (t : Int) := ⟨m.to.toNat, by have := HOM.out.to; omega⟩
        have htn : t < n := by have := HOM.out.to; have := HN.out; omega
        have HNX : Hid (arrB (A.mv.take (k + 1)) name bs n = (arrB (A.mv.take k) name bs n).set t true) := by unfold Hid; rw [HTK.out]; exact arrB_yes (by rw [HMV.out]; exact hok) ht
        have htl : t < (arrB (A.mv.take k) name bs n).length := by simp [arrB]; exact htn
        have g5 : w5.cell? ⟨Gb, t, none⟩ = some (.bool ((arrB (A.mv.take k) name bs n)[t])) := by rw [G5.out.cell t]; simp [htl]
        have gf := G5.out.frozen t
        have gl := G5.out.lt
        have htni : (t : Int) < (n : Int) := by omega
        rw [ht] at v2
        generalize (arrB (A.mv.take k) name bs n)[t] = old at *
        have HT0 := hide ht
        clear hok ht htl htn
        go_wp2_with fail
        go_roundw
        case rel =>
         refine ⟨k + 1, by omega, by go_num, ?_, HB5.out.setCell (by have := HGB.out; simp; omega) _⟩
         have h9 := G5.out.set t (.bool true)
         rw [HNX.out, List.map_set]
         simpa using h9
        case measure => simp [intOf]; omega
    ·have hle : ((m.frm.length : Int) != (bs.length : Int)) = true := by simp; omega
     have HNX : Hid (arrB (A.mv.take (k + 1)) name bs n = arrB (A.mv.take k) name bs n) := by unfold Hid; rw [HTK.out]; exact arrB_no (by rw [Bool.eq_false_iff]; intro h; exact hlen (mvB_iff.1 h).2.1)
     clear hlen
     go_wp2_with fail
     go_roundw
     case rel => exact ⟨k + 1, by omega, by go_num, by rw [HNX.out]; exact G4.out, HB4.out⟩
     case measure => simp [intOf]; omega
   ·have hnL : ¬ m.name.toList = name.toList := fun h => hnm (name_inj h)
    have HNX : Hid (arrB (A.mv.take (k + 1)) name bs n = arrB (A.mv.take k) name bs n) := by unfold Hid; rw [HTK.out]; exact arrB_no (by rw [Bool.eq_false_iff]; intro h; exact hnm (mvB_iff.1 h).1)
    clear hnm
    go_wp2_with fail
    go_roundw
    case rel => exact ⟨k + 1, by omega, by go_num, by rw [HNX.out]; exact G4.out, HB4.out⟩
    case measure => simp [intOf]; omega
  ·have hki : ¬ (k : Int) < (A.mv.length : Int) := by omega
   have HTK : Hid (A.mv.take k = A.mv) := List.take_of_length_le (by omega)
   clear hb hg
   go_wp2_with fail
   go_ret
   have h9 := HG.out
   rw [HTK.out] at h9
   refine ⟨_, _, rfl, ⟨_, _, by rw [edgT_len], by rw [edgT_len]; omega, Or.inr ⟨Gb, 0, rfl, by have := B1.out.size; have := HGB.out; omega, fun i hi => ?_⟩⟩, B1.out.trans (HB.out.mono B1.out.size)⟩
   rw [Nat.zero_add, h9.cell i]
   unfold edgT at hi ⊢
   unfold arrB
   simp only [List.length_map, List.length_range] at hi
   simp [hi]
def RowTB (w : World) (X : Nat → Prop) : List (List Bool) → List Value → Prop
 | [], xs => xs = []
 | l :: r, xs => ∃ a c q, xs = .slice a l.length c :: q ∧ LV Value.bool w X (.slice a l.length c) l ∧ RowTB w X r q
theorem RowTB.append {w : World} {X : Nat → Prop} : ∀ {l k : List (List Bool)} {xs ys : List Value}, RowTB w X l xs → RowTB w X k ys → RowTB w X (l ++ k) (xs ++ ys)
 | [], k, xs, ys, h, h' => by simp [RowTB] at h; subst h; simpa using h'
 | t :: l, k, xs, ys, h, h' => by
  obtain ⟨a, c, r, rfl, hs, h⟩ := h
  exact ⟨a, c, r ++ ys, rfl, hs, RowTB.append h h'⟩
theorem RowTB.imp {w w' : World} {X Y : Nat → Prop} (hs : ∀ v (l : List Bool), LV Value.bool w X v l → LV Value.bool w' Y v l) : ∀ {l : List (List Bool)} {xs : List Value}, RowTB w X l xs → RowTB w' Y l xs
 | [], xs, h => h
 | t :: l, xs, h => by
  obtain ⟨a, c, r, e, h1, h⟩ := h
  exact ⟨a, c, r, e, hs _ _ h1, RowTB.imp hs h⟩
theorem RowTB.get {w : World} {X : Nat → Prop} : ∀ {l : List (List Bool)} {xs : List Value}, RowTB w X l xs → ∀ (k : Nat) (h : k < l.length), ∃ a c, xs[k]? = some (.slice a l[k].length c) ∧ LV Value.bool w X (.slice a l[k].length c) l[k]
 | t :: l, xs, h, 0, _ => by
  obtain ⟨a, c, r, rfl, hs, _⟩ := h
  exact ⟨a, c, rfl, hs⟩
 | t :: l, xs, h, k + 1, hk => by
  obtain ⟨a, c, r, rfl, _, h⟩ := h
  obtain ⟨a', c', h1, h2⟩ := RowTB.get h k (by simpa using hk)
  exact ⟨a', c', by simpa using h1, by simpa using h2⟩
structure RowB (w : World) (N : Nat) (v : Value) (l : List (List Bool)) (xs : List Value) : Prop where
 own : w.ownsRow N 67 1 v l.length xs
 row : RowTB w (fun b => N ≤ b ∧ some b ≠ v.ownBlock) l xs
theorem RowB.below {w w' : World} {N : Nat} {v : Value} {l : List (List Bool)} {xs : List Value} (h : RowB w N v l xs) (hb : Below w.heap.size w w') : RowB w' N v l xs :=
 ⟨owns_keptA h.own fun b e => hb.block b (h.own.lt b e).2, h.row.imp fun v l hl => hl.later hb⟩
theorem rowB_push {W : World} {N P : Nat} {v : Value} {l : List (List Bool)} {xs : List Value} {t : List Bool} {a : Option Addr} {c : Nat} (h : RowB W N v l xs) (hN : N ≤ W.heap.size) (hP : Blk W P #[.slice a t.length c] 67) (hs : LV Value.bool W (fun b => N ≤ b ∧ some b ≠ v.ownBlock) (.slice a t.length c) t) (hl : l.length ≤ 100000) :
  ∃ g n cap W1 ys, (Builtin.append_ #[93, 93] 93 #[v, .slice (some ⟨P, 0, none⟩) 1 1]).run Try.prog W = .ok (.slice (some ⟨g, 0, none⟩) n cap) W1 ∧ RowB W1 N (.slice (some ⟨g, 0, none⟩) n cap) (l ++ [t]) ys ∧ W.grownBy W1 v.ownBlock := by
 obtain ⟨i0, hi, hz0, hz1, hz2⟩ := info_parts infoBsA
 have hlt := h.own.lt
 obtain ⟨g, cap, W1, hr, ho, hg, hat, hgl⟩ := run_append_lies (P := Try.prog) (w := W) 93 93 N 67 i0 _ 1 24 Try.underlying93 hi hz0 hz1 hz2 rfl (by decide) v l.length xs h.own
  ⟨P, 0, none⟩ 1 1 [.slice a t.length c] rfl (fun j u hj => by
   rw [add_at, hP.cell j]
   simpa using hj) (fun u hu => by simp at hu; subst hu; rfl) (by decide) (by unfold maxLen; omega) (by omega) hN _ rfl
 have key : ∀ u (k : List Bool), LV Value.bool W (fun b => N ≤ b ∧ some b ≠ v.ownBlock) u k → LV Value.bool W1 (fun b => N ≤ b ∧ some b ≠ (Value.slice (some ⟨g, 0, none⟩) (l.length + 1) cap).ownBlock) u k := fun u k hk => by
  have h1 : LV Value.bool W (fun b => (N ≤ b ∧ some b ≠ v.ownBlock) ∧ b < W.heap.size) u k := hk.mono fun b h1 h2 => ⟨h1, h2⟩
  refine (h1.kept fun b hx => hg.block b hx.2 hx.1.2).mono fun b hx _ => ⟨hx.1.1, fun e => ?_⟩
  simp [Value.ownBlock] at e
  rcases hat with e' | e'
  ·exact hx.1.2 (by rw [e', e])
  ·omega
 exact ⟨g, _, cap, W1, _, hr, ⟨by simpa using ho, RowTB.append (h.row.imp key) ⟨a, c, [], rfl, key _ _ hs, rfl⟩⟩, hg⟩
theorem RowB.bls {w : World} {N : Nat} {v : Value} {l : List (List Bool)} {xs : List Value} (h : RowB w N v l xs) : BLs w (fun _ => True) v l := by
 have hml : l.length ≤ 9223372036854775807 := by
  rcases h.own.2 with ⟨_, h0⟩ | ⟨g, cap, cur, _, _, _, h1, h2, _⟩
  ·omega
  ·unfold maxLen at h2; omega
 by_cases h0 : 0 < l.length
 ·obtain ⟨g, cap, rfl, hg, hlt, hc⟩ := owned_val h.own h0
  refine ⟨_, _, rfl, hml, Or.inr ⟨g, 0, rfl, fun i hi => ?_⟩⟩
  obtain ⟨a, c, h1, h2⟩ := h.row.get i hi
  rw [Nat.zero_add]
  exact ⟨a, c, hc _ _ h1, h2.mono fun _ _ _ => trivial⟩
 ·have e : l = [] := List.length_eq_zero_iff.1 (by omega)
  subst e
  rcases h.own.2 with ⟨hv, _⟩ | ⟨g, cap, cur, hv, _⟩
  ·exact ⟨none, 0, hv, hml, Or.inl rfl⟩
  ·exact ⟨_, _, hv, hml, Or.inl rfl⟩
theorem endsL_take {ms : List Mv} {n : Nat} {l : List Tm} {k : Nat} (h : k < l.length) : endsL ms n (l.take (k + 1)) = endsL ms n (l.take k) ++ [edgT ms n l[k].name (endsL ms n l[k].args)] := by
 rw [endsL_map, endsL_map, List.take_succ_eq_append_getElem h, List.map_append]
 rfl
theorem args_small {t y : Tm} (h : y ∈ t.args) (hz : sizeL [t] ≤ 200) : sizeL [y] ≤ 200 := by
 obtain ⟨s, l⟩ := t
 simp only [sizeL] at hz
 obtain ⟨p, q, rfl⟩ := List.append_of_mem h
 rw [sizeL_append, show y :: q = [y] ++ q from rfl, sizeL_append] at hz
 omega
theorem args_len {t : Tm} (hz : sizeL [t] ≤ 200) : t.args.length ≤ 200 := by
 obtain ⟨s, l⟩ := t
 have h : ∀ l : List Tm, l.length ≤ sizeL l := by
  intro l
  induction l with
  | nil => simp
  | cons a r ih => obtain ⟨s, k⟩ := a; simp only [List.length_cons, sizeL]; omega
 simp only [sizeL] at hz
 have := h l
 show l.length ≤ 200
 omega
inductive Wid : Tm → Prop
 | mk {s : ByteArray} {l : List Tm} (hl : l.length ≤ 200) (h : ∀ x ∈ l, Wid x) : Wid ⟨s, l⟩
theorem Wid.arg {t y : Tm} (h : Wid t) (hy : y ∈ t.args) : Wid y := by
 cases h with
 | mk hl h => exact h y hy
theorem Wid.len {t : Tm} (h : Wid t) : t.args.length ≤ 200 := by
 cases h with
 | mk hl h => exact hl
theorem wid_size (t : Tm) : sizeL [t] ≤ 200 → Wid t := by
 induction t using Tm.ind with
 | h s l ih => exact fun hz => .mk (args_len (t := ⟨s, l⟩) hz) fun x hx => ih x hx (args_small (t := ⟨s, l⟩) hx hz)
set_option maxHeartbeats 4000000 in
theorem endsInW_any (A : Au) {S M : Nat} (hS : S ≤ 64) (hM : M ≤ 100000) (hA : OkAu S M A) (nn : Nat) (hn : A.st = (nn : Int)) (t : Tm) : ∀ (va vt : Value) (w : World) (X : Nat → Prop), Wid t → AV w X va A → TV w X vt t →
  Calls Try.prog 36 #[va, vt] w fun e w' => ∃ a c, e = .returned (.slice a nn c) ∧ LV Value.bool w' (fun b => w.heap.size ≤ b) (.slice a nn c) (endT A t) ∧ Below w.heap.size w w' := by
 induction t using Tm.ind with
 | h s l ih =>
  intro va vt w X hsz hva hvt
  have IH : Hid (∀ y : Tm, y ∈ l → ∀ (va vt : Value) (w : World) (X : Nat → Prop), AV w X va A → TV w X vt y → Calls Try.prog 36 #[va, vt] w fun e w' => ∃ a c, e = .returned (.slice a nn c) ∧ LV Value.bool w' (fun b => w.heap.size ≤ b) (.slice a nn c) (endT A y) ∧ Below w.heap.size w w') := fun y hy va vt w X h1 h2 => ih y hy va vt w X (Wid.arg (t := ⟨s, l⟩) hsz hy) h1 h2
  have hl100 : l.length ≤ 200 := Wid.len (t := ⟨s, l⟩) hsz
  have HAV := hide hva
  obtain ⟨am, cm, al, cl, rfl, _, _⟩ := hva
  obtain ⟨at0, ct, rfl, hsl⟩ := hvt
  have hll := hsl.1
  simp only at hll
  have HNT : Hid (A.st.toNat = nn) := by unfold Hid; omega
  generalize hW : ((w.alloc (.cells #[.int .i64 A.st, .slice am A.mv.length cm, .slice al A.la.length cl] 25)).alloc (.cells #[.string s, .slice at0 l.length ct] 30)) = w2
  have B2 : Hid (Below w.heap.size w w2) := by unfold Hid; rw [← hW]; exact ((Below.refl _ _).alloc (Nat.le_refl _) _).alloc (by simp) _
  have A2 : Hid (Blk w2 w.heap.size #[.int .i64 A.st, .slice am A.mv.length cm, .slice al A.la.length cl] 25) := by unfold Hid; rw [← hW]; exact (Blk.new w _ _).alloc _
  have T2 : Hid (Blk w2 (w.heap.size + 1) #[.string s, .slice at0 l.length ct] 30) := by
   unfold Hid; rw [← hW]
   have h := Blk.new (w.alloc (.cells #[.int .i64 A.st, .slice am A.mv.length cm, .slice al A.la.length cl] 25)) #[.string s, .slice at0 l.length ct] 30
   rw [World.size_alloc] at h
   exact h
  have HW := hide hW
  have SL2 := hide (hsl.later B2.out)
  have HA := hide hA
  have HN := hide hn
  clear hW hsl hA hn ih hsz
  go_enter Try.func36, Try.ntmps36
  go_upto_region 1 with fail
  rw [HW.out]
  clear HW
  obtain ⟨T, hT⟩ : ∃ T, T = w.heap.size + 1 := ⟨_, rfl⟩
  rw [← hT] at T2 ⊢
  clear hT
  have t1 : w2.cell? ⟨T, 1, none⟩ = some (.slice at0 l.length ct) := T2.out.cell 1
  have tl := T2.out.lt
  go_wp2_with fail
  go_loopw [5, 6] (fun q i wr => ∃ (k : Nat) (xs : List Value), k ≤ l.length ∧ i = .int .i64 (k : Int) ∧ RowB wr w2.heap.size q (endsL A.mv nn (l.take k)) xs ∧ Below w2.heap.size w2 wr) (fun q i wr => l.length - (intOf i).toNat)
  case atStart => exact ⟨0, [], Nat.zero_le _, rfl, ⟨by simpa [endsL] using World.ownsRow_nil _ _ _ _, by simp [endsL, RowTB]⟩, Below.refl _ _⟩
  case round =>
   obtain ⟨k, xs, hk, rfl, hrow, hb3⟩ := hrel
   obtain ⟨w3, rfl⟩ : ∃ w3, w3 = wr := ⟨_, rfl⟩
   have HROW := hide hrow
   have HB3 := hide hb3
   have HN3 := hide hb3.size
   have T3 := hide (T2.out.below hb3 T2.out.lt)
   have A3 := hide (A2.out.below hb3 A2.out.lt)
   obtain ⟨qa, qc, hq, _⟩ := hrow.bls
   obtain ⟨qn, hqn⟩ : ∃ qn, qn = (endsL A.mv nn (l.take k)).length := ⟨_, rfl⟩
   rw [← hqn] at hq
   subst hq
   have HQN := hide hqn
   clear hqn
   clear t1 tl
   have t0 : w3.cell? ⟨T, 0, none⟩ = some (.string s) := T3.out.cell 0
   have t1 : w3.cell? ⟨T, 1, none⟩ = some (.slice at0 l.length ct) := T3.out.cell 1
   have tl := T3.out.lt
   by_cases hlt : k < l.length
   ·have hki : (k : Int) < (l.length : Int) := by omega
    obtain ⟨b, o, ay, cy, rfl, d0, d1, hy⟩ := SL2.out.get (Below.refl w2.heap.size w2) (fun b _ h => h) k hlt
    obtain ⟨y, hyy⟩ : ∃ y, y = l[k] := ⟨_, rfl⟩
    have HYM : Hid (y ∈ l) := by unfold Hid; rw [hyy]; exact List.getElem_mem hlt
    have HST : Hid (endsL A.mv nn (l.take (k + 1)) = endsL A.mv nn (l.take k) ++ [endT A y]) := by unfold Hid endT; rw [hyy, HNT.out]; exact endsL_take hlt
    have HTL : Hid ((endT A y).length = nn) := by unfold Hid endT; rw [edgT_len, HNT.out]
    have HLE : Hid ((endsL A.mv nn (l.take k)).length ≤ 100000) := by unfold Hid; rw [endsL_len, List.length_take]; omega
    rw [← hyy] at d0 d1 hy
    have KP2 : Hid (∀ w', Below w2.heap.size w2 w' → w'.cell? ⟨w.heap.size, 0, none⟩ = some (.int .i64 A.st) ∧ w'.cell? ⟨w.heap.size, 1, none⟩ = some (.slice am A.mv.length cm) ∧ w'.cell? ⟨w.heap.size, 2, none⟩ = some (.slice al A.la.length cl) ∧ w'.cell? ⟨T, 1, none⟩ = some (.slice (some ⟨b, o, none⟩) l.length ct) ∧ w'.cell? ⟨b, o + k * 2, none⟩ = some (.string y.name) ∧ w'.cell? ⟨b, o + k * 2 + 1, none⟩ = some (.slice ay y.args.length cy)) := fun w' hb => ⟨(A2.out.below hb A2.out.lt).cell 0, (A2.out.below hb A2.out.lt).cell 1, (A2.out.below hb A2.out.lt).cell 2, (T2.out.below hb T2.out.lt).cell 1, (hb.cell (p := ⟨b, o + k * 2, none⟩) (cell_ltA d0)).trans d0, (hb.cell (p := ⟨b, o + k * 2 + 1, none⟩) (cell_ltA d1)).trans d1⟩
    have KP : Hid (∀ w', Below w3.heap.size w3 w' → w'.cell? ⟨w.heap.size, 0, none⟩ = some (.int .i64 A.st) ∧ w'.cell? ⟨w.heap.size, 1, none⟩ = some (.slice am A.mv.length cm) ∧ w'.cell? ⟨w.heap.size, 2, none⟩ = some (.slice al A.la.length cl) ∧ w'.cell? ⟨T, 1, none⟩ = some (.slice (some ⟨b, o, none⟩) l.length ct) ∧ w'.cell? ⟨b, o + k * 2, none⟩ = some (.string y.name) ∧ w'.cell? ⟨b, o + k * 2 + 1, none⟩ = some (.slice ay y.args.length cy)) := fun w' hb => KP2.out w' (HB3.out.trans (hb.mono HB3.out.size))
    have VA : Hid (∀ w', Below w3.heap.size w3 w' → AV w' X (.agg #[.int .i64 A.st, .slice am A.mv.length cm, .slice al A.la.length cl]) A) := fun w' hb => HAV.out.later (B2.out.trans ((HB3.out.trans (hb.mono HB3.out.size)).mono B2.out.size))
    have VY : Hid (∀ w', Below w3.heap.size w3 w' → TV w' X (.agg #[.string y.name, .slice ay y.args.length cy]) y) := fun w' hb => hy.later (HB3.out.trans (hb.mono HB3.out.size))
    have k3d : Below w3.heap.size w3 w3.drew := (Below.refl _ _).drew
    have HS5 := hide (KP.out _ k3d)
    have hbl3 : b < w3.heap.size := Nat.lt_of_lt_of_le (cell_ltA d0) HB3.out.size
    have al3 := A3.out.lt
    clear hyy d0 d1 hy hrow hb3 t0
    go_upto_region 5 with fail
    clear t1
    refine wp_region_held_drew (S := (fun w' => w'.cell? ⟨w.heap.size, 0, none⟩ = some (.int .i64 A.st) ∧ w'.cell? ⟨w.heap.size, 1, none⟩ = some (.slice am A.mv.length cm) ∧ w'.cell? ⟨w.heap.size, 2, none⟩ = some (.slice al A.la.length cl) ∧ w'.cell? ⟨T, 1, none⟩ = some (.slice (some ⟨b, o, none⟩) l.length ct) ∧ w'.cell? ⟨b, o + k * 2, none⟩ = some (.string y.name) ∧ w'.cell? ⟨b, o + k * 2 + 1, none⟩ = some (.slice ay y.args.length cy))) (by kernel_rfl) HS5.out (fun hHeld => ?_)
    refine tkq (v := ?_) 0 rfl ?_ ?_
    rotate_left
    ·intro w' hSw
     go_simp <;> with_reducible rfl
    try simp only [Act.put, sqA, sqB, sqC, sqD, sqE, sqF]
    refine tkq (v := ?_) 1 rfl ?_ ?_
    rotate_left
    ·intro w' hSw
     obtain ⟨e0, e1, e2, e3, e4, e5⟩ := hSw
     go_simp <;> with_reducible rfl
    try simp only [Act.put, sqA, sqB, sqC, sqD, sqE, sqF]
    refine tkq (v := ?_) 2 rfl ?_ ?_
    rotate_left
    ·intro w' hSw
     go_simp <;> with_reducible rfl
    try simp only [Act.put, sqA, sqB, sqC, sqD, sqE, sqF]
    refine tkq (v := ?_) 3 rfl ?_ ?_
    rotate_left
    ·intro w' hSw
     obtain ⟨e0, e1, e2, e3, e4, e5⟩ := hSw
     go_simp <;> with_reducible rfl
    try simp only [Act.put, sqA, sqB, sqC, sqD, sqE, sqF]
    refine tkq (v := ?_) 4 rfl ?_ ?_
    rotate_left
    ·intro w' hSw
     go_simp <;> with_reducible rfl
    try simp only [Act.put, sqA, sqB, sqC, sqD, sqE, sqF]
    refine tkq (v := ?_) 5 rfl ?_ ?_
    rotate_left
    ·intro w' hSw
     go_simp <;> with_reducible rfl
    try simp only [Act.put, sqA, sqB, sqC, sqD, sqE, sqF]
    refine tkq (v := ?_) 6 rfl ?_ ?_
    rotate_left
    ·intro w' hSw
     obtain ⟨e0, e1, e2, e3, e4, e5⟩ := hSw
     go_simp <;> with_reducible rfl
    try simp only [Act.put, sqA, sqB, sqC, sqD, sqE, sqF]
    refine rdq 7 rfl fun K hK => ?_
    go_simp
    go_at_call 36
    refine (IH.out y HYM.out _ _ _ X (by exact VA.out _ k3d) (by exact VY.out _ k3d)).mono ?_
    rintro e w4 ⟨a4, c4, rfl, hl4, hb4⟩
    have k4 : Below w3.heap.size w3 w4 := k3d.trans (hb4.mono k3d.size)
    have L4 := hide hl4
    clear hl4 hb4
    go_simp
    refine hK.out _ _ (by exact KP.out _ k4) (fun hHeld => ?_)
    clear hK K
    try simp only [Act.put, sqA, sqB, sqC, sqD, sqE, sqF]
    have ka : Below w3.heap.size w3 (w4.alloc (.cells #[.slice a4 nn c4] 67)) := k4.alloc k4.size _
    have kb : Below w4.heap.size w4 (w4.alloc (.cells #[.slice a4 nn c4] 67)) := (Below.refl _ _).alloc (Nat.le_refl _) _
    obtain ⟨g, n', cap, W1, ys, hr, hrow, hg⟩ := rowB_push (P := w4.heap.size) (W := (w4.alloc (.cells #[.slice a4 nn c4] 67))) (t := endT A y) (HROW.out.below ka) (by have := HN3.out; have := ka.size; omega) (by rw [HTL.out]; exact Blk.new w4 _ _) (by rw [HTL.out]; exact (L4.out.later kb).mono fun b h1 _ => ⟨by have := HN3.out; have h2 : w3.drew.heap.size = w3.heap.size := rfl; omega, fun e => by have := (HROW.out.own.lt b e.symm).2; have h2 : w3.drew.heap.size = w3.heap.size := rfl; omega⟩) HLE.out
    have HRUN := hide hr
    have HRW := hide hrow
    have HBW : Hid (Below w2.heap.size w2 W1) := (HB3.out.trans (ka.mono HB3.out.size)).grown hg (by have := HB3.out.size; have := ka.size; omega) (fun q hq => (HROW.out.own.lt q hq).1)
    clear hr hrow hg
    refine rdq 8 rfl fun K hK => ?_
    go_simp
    refine hK.out _ _ (by exact KP.out _ ka) (fun hHeld => ?_)
    clear hK K
    try simp only [Act.put, sqA, sqB, sqC, sqD, sqE, sqF]
    refine rdq 9 rfl fun K hK => ?_
    refine step_append_eqM rfl _ _ _ _ rfl rfl rfl HRUN.out ?_
    refine hK.out _ _ (by exact KP2.out _ HBW.out) (fun hHeld => ?_)
    clear hK K
    try simp only [Act.put, sqA, sqB, sqC, sqD, sqE, sqF]
    refine tkq (v := ?_) 10 rfl ?_ ?_
    rotate_left
    ·intro w' hSw
     go_simp <;> with_reducible rfl
    try simp only [Act.put, sqA, sqB, sqC, sqD, sqE, sqF]
    refine wpAnyH_done (by kernel_rfl) ?_ _
    go_wp2_with fail
    go_roundw
    case rel => exact ⟨k + 1, ys, by omega, by go_num, by rw [HST.out]; exact HRW.out, HBW.out⟩
    case measure => simp [intOf]; omega
   ·have hki : ¬ (k : Int) < (l.length : Int) := by omega
    have HTK : Hid (l.take k = l) := List.take_of_length_le (by omega)
    have HBL : Hid (BLs w3 (fun _ => True) (.slice qa qn qc) (endsL A.mv nn l)) := by have h9 := hrow.bls; rw [HTK.out] at h9; exact h9
    have HBN : Hid (∀ b ∈ endsL A.mv nn l, b.length = nn) := by
     intro b hb
     rw [endsL_map] at hb
     obtain ⟨y, _, rfl⟩ := List.mem_map.1 hb
     exact edgT_len _ _ _ _
    have HAV3 := hide ((HAV.out.later (B2.out.trans (hb3.mono B2.out.size))).mono (Y := fun _ => True) fun _ _ _ => trivial)
    have a0 : w3.cell? ⟨w.heap.size, 0, none⟩ = some (.int .i64 A.st) := A3.out.cell 0
    have a1 : w3.cell? ⟨w.heap.size, 1, none⟩ = some (.slice am A.mv.length cm) := A3.out.cell 1
    have a2 : w3.cell? ⟨w.heap.size, 2, none⟩ = some (.slice al A.la.length cl) := A3.out.cell 2
    have al3 := A3.out.lt
    clear hrow hb3
    go_wp2_with fail
    refine (ending_any A hS hM HA.out nn HN.out s (endsL A.mv nn l) HBN.out _ _ _ (fun _ => True) (by exact HAV3.out) (by exact HBL.out)).mono ?_
    rintro e w4 ⟨a4, c4, rfl, hl4, hb4⟩
    have L4 : Hid (LV Value.bool w4 (fun b => w.heap.size ≤ b) (.slice a4 nn c4) (endT A ⟨s, l⟩)) := by
     unfold Hid endT
     rw [HNT.out]
     exact hl4.mono fun b h _ => Nat.le_trans B2.out.size (Nat.le_trans HB3.out.size h)
    have HB4 := hide (B2.out.trans ((HB3.out.trans (hb4.mono HB3.out.size)).mono B2.out.size))
    clear hl4 hb4
    go_wp2_with fail
    go_ret
    exact ⟨a4, c4, rfl, L4.out, HB4.out⟩
theorem any_take {l : List Int} {f : Int → Bool} {k : Nat} (h : k < l.length) (hk : (l.take k).any f = false) (h1 : f l[k] = false) : (l.take (k + 1)).any f = false := by
 rw [List.take_succ_eq_append_getElem h, List.any_append, hk]
 simp [h1]
set_option maxHeartbeats 1000000 in
theorem lasts_any (A : Au) {S M : Nat} (hA : OkAu S M A) (nn : Nat) (hn : A.st = (nn : Int)) (bs : List Bool) (hbl : bs.length = nn) (va : Value) (ab : Option Addr) (cb : Nat) (w : World) (X : Nat → Prop) (hva : AV w X va A) (hvb : LV Value.bool w X (.slice ab nn cb) bs) :
  Calls Try.prog 35 #[va, .slice ab nn cb] w fun e w' => e = .returned (.bool (lasB A bs)) ∧ Below w.heap.size w w' := by
 obtain ⟨am, cm, al, cl, rfl, _, hp⟩ := hva
 have hpl := hp.len.1
 have B1 : Hid (Below w.heap.size w (w.alloc (.cells #[.int .i64 A.st, .slice am A.mv.length cm, .slice al A.la.length cl] 25))) := (Below.refl _ _).alloc (Nat.le_refl _) _
 have T1 : Hid (Blk (w.alloc (.cells #[.int .i64 A.st, .slice am A.mv.length cm, .slice al A.la.length cl] 25)) w.heap.size #[.int .i64 A.st, .slice am A.mv.length cm, .slice al A.la.length cl] 25) := Blk.new w _ _
 have P1 := hide (hp.later B1.out)
 have L1 := hide (hvb.later B1.out)
 have HA := hide hA
 have HN := hide hn
 have HBL := hide hbl
 clear hp hvb hA hn hbl
 generalize hE : lasB A bs = E
 unfold lasB at hE
 have HE := hide hE
 clear hE
 go_enter Try.func35, Try.ntmps35
 go_upto_region 1 with fail
 generalize (w.alloc (.cells #[.int .i64 A.st, .slice am A.mv.length cm, .slice al A.la.length cl] 25)) = w1 at *
 have c2 : w1.cell? ⟨w.heap.size, 2, none⟩ = some (.slice al A.la.length cl) := T1.out.cell 2
 have hlt1 := T1.out.lt
 go_wp2_with fail
 go_loopw [5] (fun i wr => ∃ k : Nat, k ≤ A.la.length ∧ i = .int .i64 (k : Int) ∧ ((A.la.take k).any fun i => bitAt bs i) = false ∧ wr = w1) (fun i wr => A.la.length - (intOf i).toNat)
 case atStart => exact ⟨0, Nat.zero_le _, rfl, rfl, rfl⟩
 case round =>
  obtain ⟨k, hk, rfl, hok, rfl⟩ := hrel
  have HOK := hide hok
  clear hok
  by_cases hlt : k < A.la.length
  ·have hki : (k : Int) < (A.la.length : Int) := by omega
   obtain ⟨b, o, rfl, hb, hc⟩ := P1.out.at (Below.refl wr.heap.size wr) k hlt
   have hr := HA.out.la _ (List.getElem_mem hlt)
   obtain ⟨t, ht⟩ : ∃ t : Nat, A.la[k] = (t : Int) := ⟨A.la[k].toNat, by omega⟩
   have htn : t < bs.length := by rw [HBL.out]; have := HN.out; omega
   obtain ⟨bx, ox, rfl, hbx, hcx⟩ := L1.out.at (Below.refl wr.heap.size wr) t htn
   have HBIT : Hid (bitAt bs A.la[k] = bs[t]) := by unfold Hid bitAt; rw [ht, Int.toNat_natCast, List.getElem?_eq_getElem htn]; rfl
   rw [ht] at hc
   have htni : (t : Int) < (nn : Int) := by rw [HBL.out] at htn; omega
   obtain ⟨bit, hbit⟩ : ∃ bit, bit = bs[t] := ⟨_, rfl⟩
   have HBB : Hid (bitAt bs A.la[k] = bit) := by unfold Hid; rw [HBIT.out, hbit]
   rw [← hbit] at hcx
   clear ht hr htn hbit HBIT
   cases bit with
   | true =>
    have hE : E = true := by
     have h6 : (A.la.any fun i => bitAt bs i) = true := List.any_eq_true.2 ⟨A.la[k], List.getElem_mem hlt, HBB.out⟩
     rw [← HE.out, h6]
    subst hE
    go_wp2_with fail
    go_ret
    exact ⟨rfl, B1.out⟩
   | false =>
    have HNX := hide (any_take hlt HOK.out HBB.out)
    go_wp2_with fail
    go_roundw
    case rel => exact ⟨k + 1, by omega, by go_num, HNX.out, trivial⟩
    case measure => simp [intOf]; omega
  ·have hki : ¬ (k : Int) < (A.la.length : Int) := by omega
   have hE : E = false := by
    have h6 := HOK.out
    rw [List.take_of_length_le (by omega)] at h6
    rw [← HE.out, h6]
   subst hE
   go_wp2_with fail
   go_ret
   exact ⟨rfl, B1.out⟩
set_option maxHeartbeats 2000000 in
theorem acceptsOfW_any (A : Au) {S M : Nat} (hS : S ≤ 64) (hM : M ≤ 100000) (hA : OkAu S M A) (t : Tm) (hsz : Wid t) (va vt : Value) (w : World) (X : Nat → Prop) (hva : AV w X va A) (hvt : TV w X vt t) :
  Calls Try.prog 17 #[va, vt] w fun e w' => e = .returned (.bool (accB A t)) ∧ Below w.heap.size w w' := by
 obtain ⟨nn, hn⟩ : ∃ nn : Nat, A.st = (nn : Int) := ⟨A.st.toNat, by have := hA.pos; omega⟩
 have HAV := hide hva
 have HTV := hide hvt
 obtain ⟨am, cm, al, cl, rfl, _, _⟩ := hva
 obtain ⟨at0, ct, rfl, _⟩ := hvt
 have HNT : Hid (A.st.toNat = nn) := by unfold Hid; omega
 generalize hW : ((w.alloc (.cells #[.int .i64 A.st, .slice am A.mv.length cm, .slice al A.la.length cl] 25)).alloc (.cells #[.string t.name, .slice at0 t.args.length ct] 30)) = w2
 have B2 : Hid (Below w.heap.size w w2) := by unfold Hid; rw [← hW]; exact ((Below.refl _ _).alloc (Nat.le_refl _) _).alloc (by simp) _
 have A2 : Hid (Blk w2 w.heap.size #[.int .i64 A.st, .slice am A.mv.length cm, .slice al A.la.length cl] 25) := by unfold Hid; rw [← hW]; exact (Blk.new w _ _).alloc _
 have T2 : Hid (Blk w2 (w.heap.size + 1) #[.string t.name, .slice at0 t.args.length ct] 30) := by
  unfold Hid; rw [← hW]
  have h := Blk.new (w.alloc (.cells #[.int .i64 A.st, .slice am A.mv.length cm, .slice al A.la.length cl] 25)) #[.string t.name, .slice at0 t.args.length ct] 30
  rw [World.size_alloc] at h
  exact h
 have HW := hide hW
 have HA := hide hA
 have HN := hide hn
 clear hW hA hn
 go_enter Try.func17, Try.ntmps17
 go_upto_region 1 with fail
 rw [HW.out]
 clear HW
 obtain ⟨T, hT⟩ : ∃ T, T = w.heap.size + 1 := ⟨_, rfl⟩
 rw [← hT] at T2 ⊢
 clear hT
 have KP : Hid (∀ w', Below w2.heap.size w2 w' → w'.cell? ⟨w.heap.size, 0, none⟩ = some (.int .i64 A.st) ∧ w'.cell? ⟨w.heap.size, 1, none⟩ = some (.slice am A.mv.length cm) ∧ w'.cell? ⟨w.heap.size, 2, none⟩ = some (.slice al A.la.length cl) ∧ w'.cell? ⟨T, 0, none⟩ = some (.string t.name) ∧ w'.cell? ⟨T, 1, none⟩ = some (.slice at0 t.args.length ct)) := fun w' hb => ⟨(A2.out.below hb A2.out.lt).cell 0, (A2.out.below hb A2.out.lt).cell 1, (A2.out.below hb A2.out.lt).cell 2, (T2.out.below hb T2.out.lt).cell 0, (T2.out.below hb T2.out.lt).cell 1⟩
 have VA : Hid (∀ w', Below w2.heap.size w2 w' → AV w' X (.agg #[.int .i64 A.st, .slice am A.mv.length cm, .slice al A.la.length cl]) A) := fun w' hb => HAV.out.later (B2.out.trans (hb.mono B2.out.size))
 have VT : Hid (∀ w', Below w2.heap.size w2 w' → TV w' X (.agg #[.string t.name, .slice at0 t.args.length ct]) t) := fun w' hb => HTV.out.later (B2.out.trans (hb.mono B2.out.size))
 have k2d : Below w2.heap.size w2 w2.drew := (Below.refl _ _).drew
 have HS := hide (KP.out _ k2d)
 have al2 := A2.out.lt
 have tl2 := T2.out.lt
 refine wp_region_held_drew (S := (fun w' => w'.cell? ⟨w.heap.size, 0, none⟩ = some (.int .i64 A.st) ∧ w'.cell? ⟨w.heap.size, 1, none⟩ = some (.slice am A.mv.length cm) ∧ w'.cell? ⟨w.heap.size, 2, none⟩ = some (.slice al A.la.length cl) ∧ w'.cell? ⟨T, 0, none⟩ = some (.string t.name) ∧ w'.cell? ⟨T, 1, none⟩ = some (.slice at0 t.args.length ct))) (by kernel_rfl) HS.out (fun hHeld => ?_)
 refine tkq (v := ?_) 0 rfl ?_ ?_
 rotate_left
 ·intro w' hSw
  obtain ⟨e0, e1, e2, e3, e4⟩ := hSw
  go_simp <;> with_reducible rfl
 try simp only [Act.put, sqA, sqB, sqC, sqD, sqE, sqF]
 refine tkq (v := ?_) 1 rfl ?_ ?_
 rotate_left
 ·intro w' hSw
  obtain ⟨e0, e1, e2, e3, e4⟩ := hSw
  go_simp <;> with_reducible rfl
 try simp only [Act.put, sqA, sqB, sqC, sqD, sqE, sqF]
 refine tkq (v := ?_) 2 rfl ?_ ?_
 rotate_left
 ·intro w' hSw
  obtain ⟨e0, e1, e2, e3, e4⟩ := hSw
  go_simp <;> with_reducible rfl
 try simp only [Act.put, sqA, sqB, sqC, sqD, sqE, sqF]
 refine rdq 3 rfl fun K hK => ?_
 go_simp
 go_at_call 36
 refine (endsInW_any A hS hM HA.out nn HN.out t _ _ _ X hsz (by exact VA.out _ k2d) (by exact VT.out _ k2d)).mono ?_
 rintro e w4 ⟨a4, c4, rfl, hl4, hb4⟩
 have k4 : Below w2.heap.size w2 w4 := k2d.trans (hb4.mono k2d.size)
 have L4 := hide (hl4.mono (Y := fun _ => True) fun _ _ _ => trivial)
 clear hl4 hb4
 go_simp
 refine hK.out _ _ (by exact KP.out _ k4) (fun hHeld => ?_)
 clear hK K
 try simp only [Act.put, sqA, sqB, sqC, sqD, sqE, sqF]
 refine rdq 4 rfl fun K hK => ?_
 go_simp
 go_at_call 35
 refine (lasts_any A HA.out nn HN.out (endT A t) (by unfold endT; rw [edgT_len, HNT.out]) _ _ _ _ (fun _ => True) (by exact (VA.out _ k4).mono fun _ _ _ => trivial) (by exact L4.out)).mono ?_
 rintro e w5 ⟨rfl, hb5⟩
 have k5 : Below w2.heap.size w2 w5 := k4.trans (hb5.mono k4.size)
 clear hb5
 go_simp
 refine hK.out _ _ (by exact KP.out _ k5) (fun hHeld => ?_)
 clear hK K
 try simp only [Act.put, sqA, sqB, sqC, sqD, sqE, sqF]
 refine tkq (v := ?_) 5 rfl ?_ ?_
 rotate_left
 ·intro w' hSw
  go_simp <;> with_reducible rfl
 try simp only [Act.put, sqA, sqB, sqC, sqD, sqE, sqF]
 refine wpAnyH_done (by kernel_rfl) ?_ _
 go_wp2_with fail
 go_ret
 exact ⟨rfl, B2.out.trans (k5.mono B2.out.size)⟩
theorem acceptsOf_any (A : Au) {S M : Nat} (hS : S ≤ 64) (hM : M ≤ 100000) (hA : OkAu S M A) (t : Tm) (hsz : sizeL [t] ≤ 200) (va vt : Value) (w : World) (X : Nat → Prop) (hva : AV w X va A) (hvt : TV w X vt t) :
  Calls Try.prog 17 #[va, vt] w fun e w' => e = .returned (.bool (accB A t)) ∧ Below w.heap.size w w' := acceptsOfW_any A hS hM hA t (wid_size t hsz) va vt w X hva hvt
end Go.Proofs.Ytofebfjkodceeaa
