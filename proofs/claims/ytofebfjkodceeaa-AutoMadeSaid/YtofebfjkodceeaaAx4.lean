import Derived.Test.YtofebfjkodceeaaZGAutoMadeOwn
import Derived.Test.YtofebfjkodceeaaZAutoMadeOwn
namespace Go.Proofs.Ytofebfjkodceeaa
open Go.RowKit
set_option linter.unusedSimpArgs false
set_option linter.unusedVariables false
set_option maxRecDepth 8000
def fewM (ms : List Mv) : Bool := ms.all fun m => decide (m.frm.length ≤ 2)
def smB (A : Au) : Bool := decide (A.st ≤ 3) && fewM A.mv
theorem few_take {ms : List Mv} {k : Nat} (h : k < ms.length) (hk : fewM (ms.take k) = true) (h1 : ms[k].frm.length ≤ 2) : fewM (ms.take (k + 1)) = true := by
 unfold fewM at *
 rw [List.take_succ_eq_append_getElem h, List.all_append, hk]
 simp [h1]
theorem few_no {ms : List Mv} {k : Nat} (h : k < ms.length) (h1 : ¬ ms[k].frm.length ≤ 2) : fewM ms = false := by
 unfold fewM
 rw [List.all_eq_false]
 exact ⟨ms[k], List.getElem_mem h, by simpa using h1⟩
set_option maxHeartbeats 1000000 in
theorem isSmall_any (A : Au) (v : Value) (w : World) (X : Nat → Prop) (hv : AV w X v A) :
  Calls Try.prog 73 #[v] w fun e w' => e = .returned (.bool (smB A)) ∧ Below w.heap.size w w' := by
 obtain ⟨am, cm, al, cl, rfl, hm, hp⟩ := hv
 have B1 := hide (one1 w (.cells #[.int .i64 A.st, .slice am A.mv.length cm, .slice al A.la.length cl] 25))
 have K1 : Hid (Blk (w.alloc (.cells #[.int .i64 A.st, .slice am A.mv.length cm, .slice al A.la.length cl] 25)) w.heap.size #[.int .i64 A.st, .slice am A.mv.length cm, .slice al A.la.length cl] 25) := Blk.new _ _ _
 have HM := hide hm
 have hml := hm.1
 have c0 := K1.out.cell 0
 have c1 := K1.out.cell 1
 clear hm hp
 by_cases h3 : (3 : Int) < A.st
 ·have HE : Hid (smB A = false) := by unfold Hid smB; rw [decide_eq_false (by omega)]; rfl
  go_enter Try.func73, Try.ntmps73
  go_wp2_with fail
  go_ret
  exact ⟨by rw [HE.out]; rfl, B1.out⟩
 ·have HE : Hid (smB A = fewM A.mv) := by unfold Hid smB; rw [decide_eq_true (by omega)]; rfl
  go_enter Try.func73, Try.ntmps73
  go_wp2_with fail
  generalize (w.alloc (.cells #[.int .i64 A.st, .slice am A.mv.length cm, .slice al A.la.length cl] 25)) = w1 at *
  clear c0 c1
  go_loopw [11] (fun i wr => ∃ k : Nat, k ≤ A.mv.length ∧ i = .int .i64 (k : Int) ∧ fewM (A.mv.take k) = true ∧ Below w.heap.size w wr) (fun i wr => A.mv.length - (intOf i).toNat)
  case atStart => exact ⟨0, Nat.zero_le _, rfl, by simp [fewM], B1.out⟩
  case round =>
   obtain ⟨k, hk, rfl, hfew, hbr⟩ := hrel
   have HF := hide hfew
   have HBR := hide hbr
   clear hfew hbr
   by_cases hlt : k < A.mv.length
   ·have hki : (k : Int) < (A.mv.length : Int) := by omega
    obtain ⟨b, o, af, cf, rfl, hb, x0, x1, x2, hpv⟩ := HM.out.get HBR.out k hlt
    have B3 := hide (HBR.out.trans ((one1 wr (.cells #[.string A.mv[k].name, .slice af A.mv[k].frm.length cf, .int .i64 A.mv[k].to] 40)).mono HBR.out.size))
    have K3 : Hid (Blk (wr.alloc (.cells #[.string A.mv[k].name, .slice af A.mv[k].frm.length cf, .int .i64 A.mv[k].to] 40)) wr.heap.size #[.string A.mv[k].name, .slice af A.mv[k].frm.length cf, .int .i64 A.mv[k].to] 40) := Blk.new _ _ _
    have hpl := hpv.len.1
    clear hpv
    go_upto_region 6 with fail
    generalize (wr.alloc (.cells #[.string A.mv[k].name, .slice af A.mv[k].frm.length cf, .int .i64 A.mv[k].to] 40)) = w3 at *
    generalize wr.heap.size = Q at *
    clear x0 x1 x2
    have d1 := K3.out.cell 1
    by_cases h2 : A.mv[k].frm.length ≤ 2
    ·have HREL := hide (few_take hlt HF.out h2)
     have h2i : ¬ (2 : Int) < (A.mv[k].frm.length : Int) := by omega
     clear h2
     go_wp2_with fail
     go_roundw
     case rel => exact ⟨k + 1, by omega, by go_num, HREL.out, B3.out⟩
     case measure => simp [intOf]; omega
    ·have HREL := hide (few_no hlt h2)
     have h2i : (2 : Int) < (A.mv[k].frm.length : Int) := by omega
     clear h2
     go_wp2_with fail
     go_ret
     exact ⟨by rw [HE.out, HREL.out]; rfl, B3.out⟩
   ·have hki : ¬ (k : Int) < (A.mv.length : Int) := by omega
    have htk : A.mv.take k = A.mv := List.take_of_length_le (by omega)
    rw [htk] at HF
    go_wp2_with fail
    go_ret
    exact ⟨by rw [HE.out, HF.out]; rfl, HBR.out⟩
set_option maxHeartbeats 1000000 in
theorem smallAuto_any (A : Au) (v : Value) (w : World) (X : Nat → Prop) (hv : AV w X v A) :
  Calls Try.prog 26 #[v] w fun e w' => e = .returned (.bool (smB A)) ∧ Below w.heap.size w w' := by
 obtain ⟨am, cm, al, cl, rfl, hm, hp⟩ := hv
 have B1 := hide (one1 w (.cells #[.int .i64 A.st, .slice am A.mv.length cm, .slice al A.la.length cl] 25))
 have K1 : Hid (Blk (w.alloc (.cells #[.int .i64 A.st, .slice am A.mv.length cm, .slice al A.la.length cl] 25)) w.heap.size #[.int .i64 A.st, .slice am A.mv.length cm, .slice al A.la.length cl] 25) := Blk.new _ _ _
 have HM := hide hm
 have hml := hm.1
 clear hm hp
 go_enter Try.func26, Try.ntmps26
 go_wp2_with fail
 generalize (w.alloc (.cells #[.int .i64 A.st, .slice am A.mv.length cm, .slice al A.la.length cl] 25)) = w1 at *
 go_loopw [3] (fun i wr => ∃ k : Nat, k ≤ A.mv.length ∧ i = .int .i64 (k : Int) ∧ fewM (A.mv.take k) = true ∧ wr = w1) (fun i wr => A.mv.length - (intOf i).toNat)
 case atStart => exact ⟨0, Nat.zero_le _, rfl, by simp [fewM], rfl⟩
 case round =>
  obtain ⟨k, hk, rfl, hfew, rfl⟩ := hrel
  have HF := hide hfew
  clear hfew
  have c0 := K1.out.cell 0
  have c1 := K1.out.cell 1
  by_cases hlt : k < A.mv.length
  ·have hki : (k : Int) < (A.mv.length : Int) := by omega
   obtain ⟨b, o, af, cf, rfl, hb, x0, x1, x2, hpv⟩ := HM.out.get B1.out k hlt
   have hpl := hpv.len.1
   clear hpv x0 x2
   by_cases h2 : A.mv[k].frm.length ≤ 2
   ·have HREL := hide (few_take hlt HF.out h2)
    have h2i : ¬ (2 : Int) < (A.mv[k].frm.length : Int) := by omega
    clear h2
    go_wp2_with fail
    go_roundw
    case rel => exact ⟨k + 1, by omega, by go_num, HREL.out, by trivial⟩
    case measure => simp [intOf]; omega
   ·have HREL := hide (few_no hlt h2)
    have h2i : (2 : Int) < (A.mv[k].frm.length : Int) := by omega
    clear h2
    go_wp2_with fail
    go_ret
    exact ⟨by unfold smB; rw [HREL.out, Bool.and_false]; rfl, B1.out⟩
  ·have hki : ¬ (k : Int) < (A.mv.length : Int) := by omega
   have htk : A.mv.take k = A.mv := List.take_of_length_le (by omega)
   rw [htk] at HF
   go_wp2_with fail
   go_ret
   exact ⟨by unfold smB; rw [HF.out, Bool.and_true]; rfl, B1.out⟩
def AuRow (w : World) (X : Nat → Prop) (P : Nat) (l : List Au) : Prop := ∀ i (h : i < l.length), ∃ am cm al cl, w.cell? ⟨P, i * 3, none⟩ = some (.int .i64 l[i].st) ∧ w.cell? ⟨P, i * 3 + 1, none⟩ = some (.slice am l[i].mv.length cm) ∧ w.cell? ⟨P, i * 3 + 2, none⟩ = some (.slice al l[i].la.length cl) ∧ SlV w X am l[i].mv ∧ PV w X (.slice al l[i].la.length cl) l[i].la
theorem AuRow.later {w w' : World} {X : Nat → Prop} {P : Nat} {l : List Au} (h : AuRow w X P l) (hb : Below w.heap.size w w') : AuRow w' X P l := fun i hi => by
 obtain ⟨am, cm, al, cl, h0, h1, h2, h3, h4⟩ := h i hi
 exact ⟨am, cm, al, cl, (hb.cell (p := ⟨P, i * 3, none⟩) (cell_ltA h0)).trans h0, (hb.cell (p := ⟨P, i * 3 + 1, none⟩) (cell_ltA h1)).trans h1, (hb.cell (p := ⟨P, i * 3 + 2, none⟩) (cell_ltA h2)).trans h2, h3.later hb, h4.later hb⟩
def eachL : List Au → Int
 | [] => 0
 | A :: r => if auE 8 40 A = 0 then eachL r else auE 8 40 A
theorem eachL_at : ∀ {l : List Au} {k : Nat} (h : k < l.length), (∀ A ∈ l.take k, auE 8 40 A = 0) → auE 8 40 l[k] ≠ 0 → eachL l = auE 8 40 l[k]
 | A :: r, 0, _, _, hn => by
  rw [eachL, if_neg (show ¬ auE 8 40 A = 0 from hn)]
  rfl
 | A :: r, k + 1, h, h0, hn => by
  rw [eachL, if_pos (h0 A (by simp))]
  exact eachL_at (by simpa using h) (fun B hB => h0 B (by simp [hB])) hn
theorem eachL_ok : ∀ {l : List Au}, (∀ A ∈ l, auE 8 40 A = 0) → eachL l = 0
 | [], _ => rfl
 | A :: r, h => by rw [eachL, if_pos (h A (by simp))]; exact eachL_ok fun B hB => h B (by simp [hB])
theorem eachL_zero : ∀ {l : List Au}, eachL l = 0 → ∀ A ∈ l, auE 8 40 A = 0
 | [], _, A, hA => by cases hA
 | B :: r, h, A, hA => by
  rw [eachL] at h
  by_cases h0 : auE 8 40 B = 0
  ·rw [if_pos h0] at h
   rcases List.mem_cons.1 hA with rfl | hA
   ·exact h0
   ·exact eachL_zero h A hA
  ·rw [if_neg h0] at h
   exact absurd h h0
theorem take_all {α : Type} {l : List α} {P : α → Prop} {k : Nat} (h : k < l.length) (h0 : ∀ A ∈ l.take k, P A) (h1 : P l[k]) : ∀ A ∈ l.take (k + 1), P A := fun A hA => by
 rw [List.take_succ_eq_append_getElem h] at hA
 rcases List.mem_append.1 hA with hA | hA
 ·exact h0 A hA
 ·simp at hA; subst hA; exact h1
set_option maxHeartbeats 1000000 in
theorem checkEachL_any (l : List Au) (hl : l.length ≤ 100) (P : Nat) (w : World) (X : Nat → Prop) (hP : AuRow w X P l) (hPl : P < w.heap.size) :
  Calls Try.prog 50 #[.slice (some ⟨P, 0, none⟩) l.length l.length] w fun e w' => e = .returned (.int .i64 (eachL l)) ∧ Below w.heap.size w w' := by
 have HP := hide hP
 clear hP
 go_enter Try.func50, Try.ntmps50
 go_wp2_with fail
 go_loopw [8] (fun i wr => ∃ k : Nat, k ≤ l.length ∧ i = .int .i64 (k : Int) ∧ (∀ A ∈ l.take k, auE 8 40 A = 0) ∧ Below w.heap.size w wr) (fun i wr => l.length - (intOf i).toNat)
 case atStart => exact ⟨0, Nat.zero_le _, rfl, by simp, Below.refl _ _⟩
 case round =>
  obtain ⟨k, hk, rfl, h0, hb⟩ := hrel
  have H0 := hide h0
  have HB := hide hb
  clear h0 hb
  by_cases hlt : k < l.length
  ·have hki : (k : Int) < (l.length : Int) := by omega
   obtain ⟨am, cm, al, cl, x0, x1, x2, h3, h4⟩ := HP.out.later HB.out k hlt
   have V3 : Hid (AV (wr.alloc (.cells #[.int .i64 l[k].st, .slice am l[k].mv.length cm, .slice al l[k].la.length cl] 25)) X (.agg #[.int .i64 l[k].st, .slice am l[k].mv.length cm, .slice al l[k].la.length cl]) l[k]) := ⟨am, cm, al, cl, rfl, h3.later (one1 _ _), h4.later (one1 _ _)⟩
   have B3 := hide (HB.out.trans ((one1 wr (.cells #[.int .i64 l[k].st, .slice am l[k].mv.length cm, .slice al l[k].la.length cl] 25)).mono HB.out.size))
   clear h3 h4
   go_wp2_with fail
   refine (aCheck_any l[k] _ _ _ (by exact V3.out)).mono ?_
   rintro e w3 ⟨rfl, hb3⟩
   have HB3 := hide (B3.out.trans (hb3.mono B3.out.size))
   clear hb3 x0 x1 x2 V3 B3
   by_cases h0 : auE 8 40 l[k] = 0
   ·have HREL := hide (take_all hlt H0.out h0)
    rw [h0]
    clear h0
    go_wp2_with fail
    go_roundw
    case rel => exact ⟨k + 1, by omega, by go_num, HREL.out, HB3.out⟩
    case measure => simp [intOf]; omega
   ·have HREL := hide (eachL_at hlt H0.out h0)
    obtain ⟨E, hE⟩ : ∃ E, E = auE 8 40 l[k] := ⟨_, rfl⟩
    rw [← hE] at h0 HREL ⊢
    have hne : (E == 0) = false := by simpa using h0
    have hne2 : (E != 0) = true := by simpa using h0
    clear h0 hE
    go_wp2_with fail
    go_ret
    exact ⟨by rw [HREL.out]; rfl, HB3.out⟩
  ·have hki : ¬ (k : Int) < (l.length : Int) := by omega
   have htk : l.take k = l := List.take_of_length_le (by omega)
   rw [htk] at H0
   go_wp2_with fail
   go_ret
   exact ⟨by rw [eachL_ok H0.out]; rfl, HB.out⟩
def fewL (l : List Au) : Int := if eachL l = 0 then (if l.all smB = true then 0 else 3) else eachL l
theorem fewL_zero {l : List Au} (h : fewL l = 0) : ∀ A ∈ l, OkAu 8 40 A ∧ smB A = true := by
 unfold fewL at h
 by_cases h0 : eachL l = 0
 ·rw [if_pos h0] at h
  by_cases h1 : l.all smB = true
  ·exact fun A hA => ⟨auE_zero.1 (eachL_zero h0 A hA), List.all_eq_true.1 h1 A hA⟩
  ·rw [if_neg h1] at h; cases h
 ·rw [if_neg h0] at h; exact absurd h h0
set_option maxHeartbeats 1000000 in
theorem checkFew_any (l : List Au) (hl : l.length ≤ 100) (P : Nat) (w : World) (X : Nat → Prop) (hP : AuRow w X P l) (hPl : P < w.heap.size) :
  Calls Try.prog 56 #[.slice (some ⟨P, 0, none⟩) l.length l.length] w fun e w' => e = .returned (.int .i64 (fewL l)) ∧ Below w.heap.size w w' := by
 have HP := hide hP
 clear hP
 generalize hE : fewL l = E
 unfold fewL at hE
 have HE := hide hE
 clear hE
 go_enter Try.func56, Try.ntmps56
 go_wp2_with fail
 refine (checkEachL_any l hl P w X HP.out hPl).mono ?_
 rintro e w1 ⟨rfl, hb1⟩
 have B1 := hide hb1
 have hP1 : P < w1.heap.size := Nat.lt_of_lt_of_le hPl hb1.size
 clear hb1
 by_cases h0 : eachL l = 0
 ·have HE1 : Hid ((if l.all smB = true then (0 : Int) else 3) = E) := by have h := HE.out; rw [if_pos h0] at h; exact h
  rw [h0]
  clear h0 HE
  go_wp2_with fail
  go_loopw [13] (fun i wr => ∃ k : Nat, k ≤ l.length ∧ i = .int .i64 (k : Int) ∧ (∀ A ∈ l.take k, smB A = true) ∧ Below w.heap.size w wr) (fun i wr => l.length - (intOf i).toNat)
  case atStart => exact ⟨0, Nat.zero_le _, rfl, by simp, B1.out⟩
  case round =>
   obtain ⟨k, hk, rfl, h0, hb⟩ := hrel
   have H0 := hide h0
   have HB := hide hb
   clear h0 hb
   by_cases hlt : k < l.length
   ·have hki : (k : Int) < (l.length : Int) := by omega
    obtain ⟨am, cm, al, cl, x0, x1, x2, h3, h4⟩ := HP.out.later HB.out k hlt
    have V3 : Hid (AV (wr.alloc (.cells #[.int .i64 l[k].st, .slice am l[k].mv.length cm, .slice al l[k].la.length cl] 25)) X (.agg #[.int .i64 l[k].st, .slice am l[k].mv.length cm, .slice al l[k].la.length cl]) l[k]) := ⟨am, cm, al, cl, rfl, h3.later (one1 _ _), h4.later (one1 _ _)⟩
    have B3 := hide (HB.out.trans ((one1 wr (.cells #[.int .i64 l[k].st, .slice am l[k].mv.length cm, .slice al l[k].la.length cl] 25)).mono HB.out.size))
    clear h3 h4
    go_wp2_with fail
    refine (isSmall_any l[k] _ _ _ (by exact V3.out)).mono ?_
    rintro e w3 ⟨rfl, hb3⟩
    have HB3 := hide (B3.out.trans (hb3.mono B3.out.size))
    clear hb3 x0 x1 x2 V3 B3
    cases hs : smB l[k] with
    | true =>
     have HREL := hide (take_all (P := fun A => smB A = true) hlt H0.out hs)
     clear hs
     go_wp2_with fail
     go_roundw
     case rel => exact ⟨k + 1, by omega, by go_num, HREL.out, HB3.out⟩
     case measure => simp [intOf]; omega
    | false =>
     have HREL : Hid (E = 3) := by
      have h := HE1.out
      rw [if_neg (by intro h2; rw [List.all_eq_true.1 h2 _ (List.getElem_mem hlt)] at hs; cases hs)] at h
      exact h.symm
     clear hs
     go_wp2_with fail
     go_ret
     exact ⟨by rw [HREL.out]; rfl, HB3.out⟩
   ·have hki : ¬ (k : Int) < (l.length : Int) := by omega
    have htk : l.take k = l := List.take_of_length_le (by omega)
    rw [htk] at H0
    have HREL : Hid (E = 0) := by
     have h := HE1.out
     rw [if_pos (List.all_eq_true.2 H0.out)] at h
     exact h.symm
    go_wp2_with fail
    go_ret
    exact ⟨by rw [HREL.out]; rfl, HB.out⟩
 ·have HE1 : Hid (eachL l = E) := by have h := HE.out; rw [if_neg h0] at h; exact h
  rw [HE1.out] at h0 ⊢
  have hne : (E == 0) = false := by simpa using h0
  have hne2 : (E != 0) = true := by simpa using h0
  clear h0
  go_wp2_with fail
  go_ret
  exact ⟨rfl, B1.out⟩
end Go.Proofs.Ytofebfjkodceeaa
