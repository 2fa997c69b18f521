/- Walks: bindings of which nothing is said. -/
import Derived.Test.YtmkomemjhfafnaaBnd
import Derived.Test.YtmkomemjhfafnaaZSubstMadeOwn
namespace Go.Proofs.Ytmkomemjhfafnaa
open Go.RowKit
set_option linter.unusedSimpArgs false
set_option linter.unusedVariables false
set_option maxRecDepth 8000

def hugeL (l : List Bd) : Bool := l.any fun d => decide (3000 < sizeL [d.t])
def hugeB (ls : List Bd) : Bool := hugeL ls || decide (100 < ls.length)
theorem hugeL_take {l : List Bd} {k : Nat} (h : k < l.length) : hugeL (l.take (k + 1)) = (hugeL (l.take k) || decide (3000 < sizeL [l[k].t])) := by
  unfold hugeL; rw [List.take_succ_eq_append_getElem h, List.any_append]; simp
theorem hugeL_yes {l : List Bd} {k : Nat} (h : k < l.length) (h0 : decide (3000 < sizeL [l[k].t]) = true) : hugeB l = true := by
  have e : hugeL l = true := by
    unfold hugeL
    rw [List.any_eq_true]
    exact ⟨l[k], List.getElem_mem h, h0⟩
  unfold hugeB
  rw [e]; rfl
theorem hugeB_no {ls : List Bd} (h : hugeB ls = false) : ls.length ≤ 100 ∧ ∀ d ∈ ls, sizeL [d.t] ≤ 3000 := by
  unfold hugeB hugeL at h
  simp only [Bool.or_eq_false_iff, List.any_eq_false, decide_eq_true_eq, decide_eq_false_iff_not] at h
  exact ⟨by omega, fun d hd => by have := h.1 d hd; omega⟩
def HbInv (ls : List Bd) (w : World) (v : Value) (wr : World) : Prop := ∃ k : Nat, v = .int .i64 (k : Int) ∧ k ≤ ls.length ∧ hugeL (ls.take k) = false ∧ Below w.heap.size w wr

set_option maxHeartbeats 1000000 in
theorem hugeBinds_any (ls : List Bd) (u : Value) (w : World) (X : Nat → Prop) (hu : BV w X u ls) :
    Calls Try.prog 8 #[u] w fun e w' => e = .returned (.bool (hugeB ls)) ∧ Below w.heap.size w w' := by
  have HU := hide (hu.mono (Y := fun b => X b ∧ b < w.heap.size) fun b h1 h2 => ⟨h1, h2⟩)
  obtain ⟨a, c, rfl, hl, hu2⟩ := hu
  clear hu2
  go_enter Try.func8, Try.ntmps8
  go_wp2_with fail
  go_loopw [3] (fun v wr => HbInv ls w v wr) (fun v wr => ls.length - (intOf v).toNat)
  case atStart => exact ⟨0, rfl, Nat.zero_le _, rfl, Below.refl _ _⟩
  case round =>
    obtain ⟨k, rfl, hk, hT, hb⟩ := hrel
    have HB := hide hb
    have HT := hide hT
    clear hT
    by_cases hlt : k < ls.length
    · obtain ⟨b, o, a', c', rfl, d0, d1, d2, hs⟩ := (HU.out.later hb).get k hlt
      have hlt2 : (k : Int) < (ls.length : Int) := by omega
      have HX := hide hs
      have HY := hide (hugeL_yes hlt)
      have HN := hide (hugeL_take hlt)
      clear hs hb
      generalize ls[k] = d at *
      go_wp2_with fail
      refine (huge_any d.t _ _ _ ⟨a', c', rfl, HX.out⟩).mono ?_
      rintro e w1 ⟨rfl, hb1⟩
      have HB1 := hide (HB.out.trans (hb1.mono HB.out.size))
      clear hb1
      cases hq : decide (3000 < sizeL [d.t]) with
      | true =>
        have HF := hide (HY.out hq)
        clear hq
        go_wp2_with fail
        go_ret
        exact ⟨ret_bool HF.out.symm, HB1.out⟩
      | false =>
        have HF : Hid (hugeL (ls.take (k + 1)) = false) := by unfold Hid; rw [HN.out, HT.out, hq]; rfl
        clear hq
        go_wp2_with fail
        go_roundw
        case rel => exact ⟨k + 1, by go_num, by omega, HF.out, HB1.out⟩
        case measure => simp [intOf]; omega
    · have HF : Hid (decide (100 < ls.length) = hugeB ls) := by
        have h := HT.out
        rw [List.take_of_length_le (by omega)] at h
        unfold Hid hugeB
        rw [h]; rfl
      go_wp2_with fail
      go_ret
      exact ⟨ret_bool (by rw [← HF.out, Bool.eq_iff_iff]; simp; omega), HB.out⟩
#print axioms hugeBinds_any
end Go.Proofs.Ytmkomemjhfafnaa
