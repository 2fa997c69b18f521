/- Walks: whether a term may be, and where its steps end, as the program says. -/
import Derived.Test.YtcdabjekppddjaaGreatDoorCb12
import Derived.Test.YtcdabjekppddjaaGreatDoorCb6
import Derived.Test.YtcdabjekppddjaaGreatDoorCb3
namespace Go.Proofs.YtcdabjekppddjaaGreatDoor
open Go.RowKit
set_option linter.unusedSimpArgs false
set_option linter.unusedVariables false
set_option maxRecDepth 8000

set_option maxHeartbeats 1000000 in
theorem ccheck_any (t : Tm) (v : Value) (w : World) (X : Nat → Prop) (hv : TV w X v t) :
    Calls Tryz.prog 12 #[v] w fun e w' => e = .returned (.int .i64 (combE t)) ∧ Below w.heap.size w w' := by
  obtain ⟨a, c, rfl, hs⟩ := hv
  have HV : Hid (TV w X (.agg #[.string t.name, .slice a t.args.length c]) t) := ⟨a, c, rfl, hs⟩
  clear hs
  go_enter Tryz.func12, Tryz.ntmps12
  go_wp2_with fail
  refine (check_any t _ _ X (HV.out.alloc _)).mono ?_
  rintro e w1 ⟨rfl, hb1⟩
  have HB2 : Hid (Below w.heap.size w w1) := ((Below.refl _ _).alloc (Nat.le_refl _) _).trans (hb1.mono (by simp))
  have c0 : w1.cell? ⟨w.heap.size, 0, none⟩ = some (.string t.name) := by rw [hb1.cell (p := ⟨_, _, none⟩) (by simp)]; simp
  have c1 : w1.cell? ⟨w.heap.size, 1, none⟩ = some (.slice a t.args.length c) := by rw [hb1.cell (p := ⟨_, _, none⟩) (by simp)]; simp
  clear hb1
  by_cases h : mayE t = 0
  · rw [h]
    have HE : Hid (combE t = if isC t then 0 else 2) := by unfold Hid combE; rw [if_pos h]
    clear h
    go_wp2_with fail
    refine (isPut_any t _ _ X (HV.out.later HB2.out)).mono ?_
    rintro e w2 ⟨rfl, hb2⟩
    have HB3 := hide (HB2.out.trans (hb2.mono HB2.out.size))
    clear hb2
    cases hcc : isC t with
    | true =>
      have HE2 : Hid (combE t = 0) := by unfold Hid; rw [HE.out, hcc]; rfl
      clear hcc HE
      go_wp2_with fail
      go_ret
      exact ⟨ret_int HE2.out.symm, HB3.out⟩
    | false =>
      have HE2 : Hid (combE t = 2) := by unfold Hid; rw [HE.out, hcc]; rfl
      clear hcc HE
      go_wp2_with fail
      go_ret
      exact ⟨ret_int HE2.out.symm, HB3.out⟩
  · have HE : Hid (combE t = mayE t) := by unfold Hid combE; rw [if_neg h]
    have hne : (mayE t == 0) = false := beq_eq_false_iff_ne.2 h
    clear h
    go_wp2_with fail
    go_ret
    exact ⟨ret_int HE.out.symm, HB2.out⟩

set_option maxHeartbeats 1000000 in
theorem tooGreat_any (t : Tm) (v : Value) (w : World) (X : Nat → Prop) (hv : TV w X v t) :
    Calls Tryz.prog 33 #[v] w fun e w' => e = .returned (.bool (decide (2000 < sizeL [t]))) ∧ Below w.heap.size w w' := by
  obtain ⟨a, c, rfl, hs⟩ := hv
  have HV : Hid (TV w X (.agg #[.string t.name, .slice a t.args.length c]) t) := ⟨a, c, rfl, hs⟩
  clear hs
  go_enter Tryz.func33, Tryz.ntmps33
  go_wp2_with fail
  refine (count_any 2000 (by omega) (by omega) t _ _ X (HV.out.alloc _)).mono ?_
  rintro e w1 ⟨rfl, hb1⟩
  have HB2 : Hid (Below w.heap.size w w1) := ((Below.refl _ _).alloc (Nat.le_refl _) _).trans (hb1.mono (by simp))
  clear hb1
  by_cases hbig : 2000 < sizeL [t]
  · have e : min ((sizeL [t] : Int)) (2000 + 1) = 2001 := by omega
    have HD : Hid (decide (2000 < sizeL [t]) = true) := decide_eq_true hbig
    rw [e]
    go_wp2_with fail
    go_ret
    exact ⟨by rw [HD.out]; rfl, HB2.out⟩
  · have e : min ((sizeL [t] : Int)) (2000 + 1) = sizeL [t] := by omega
    have HD : Hid (decide (2000 < sizeL [t]) = false) := decide_eq_false hbig
    have e3 : decide ((sizeL [t] : Int) > 2000) = false := decide_eq_false (by omega)
    rw [e]
    go_wp2_with fail
    go_ret
    exact ⟨by rw [HD.out]; rfl, HB2.out⟩

end Go.Proofs.YtcdabjekppddjaaGreatDoor
