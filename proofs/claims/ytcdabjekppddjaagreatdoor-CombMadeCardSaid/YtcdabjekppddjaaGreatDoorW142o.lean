/- Walks: how often a name stands in a term. -/
import Derived.Test.YtcdabjekppddjaaGreatDoorOr2
import Derived.Test.YtcdabjekppddjaaGreatDoorZBCombMadeOwn
import Derived.Test.YtcdabjekppddjaaGreatDoorZCombMadeOwn
namespace Go.Proofs.YtcdabjekppddjaaGreatDoor
open Go.RowKit
set_option linter.unusedSimpArgs false
set_option linter.unusedVariables false
set_option maxRecDepth 8000

/-- The knots' names, counted. -/
def OfInv (w : World) (t : Tm) (v : ByteArray) (n i : Value) (wr : World) : Prop := ∃ k q : Nat, k ≤ (preL [t]).length ∧ i = .int .i64 (k : Int) ∧ n = .int .i64 ((((preL [t]).take k).filter fun x => decide (x.name = v)).length : Int) ∧ wr = w.drewN q
theorem oft_take (v : ByteArray) (l : List Tm) (k : Nat) (h : k < l.length) : ((l.take (k + 1)).filter fun x => decide (x.name = v)).length = ((l.take k).filter fun x => decide (x.name = v)).length + if l[k].name = v then 1 else 0 := by
  rw [List.take_succ_eq_append_getElem h, List.filter_append, List.length_append]
  by_cases e : l[k].name = v
  · simp [e]
  · simp [e]
set_option maxHeartbeats 2000000 in
theorem often_any (t : Tm) (s : ByteArray) (v : Value) (w : World) (X : Nat → Prop) (hz : sizeL [t] ≤ 20000) (hv : TV w X v t) :
    Calls Tryz.prog 28 #[v, .string s] w fun e w' => e = .returned (.int .i64 (oftL s [t] : Int)) ∧ Below w.heap.size w w' := by
  have HV := hide hv
  obtain ⟨a, c, rfl, hs⟩ := hv
  clear hs
  go_enter Tryz.func28, Tryz.ntmps28
  go_wp2_with fail
  refine (knots_any t _ _ X (by exact HV.out.alloc _) (by omega)).mono ?_
  rintro e w1 ⟨v1, xs, rfl, hown, hrow, hb1⟩
  have B1 := hide (((Below.refl w.heap.size w).alloc (Nat.le_refl _) (.cells #[.string t.name, .slice a t.args.length c] 24)).trans (hb1.mono (by simp)))
  have hpos : 0 < sizeL [t] := by obtain ⟨s0, l0⟩ := t; simp [sizeL]; omega
  obtain ⟨g, cap, rfl, hg, hglt, hc⟩ := owned_val hown hpos
  have HROW := hide hrow
  have HC := hide hc
  have hpl := preL_length [t]
  clear hown hrow hc hb1
  go_wp2_with fail
  go_loopw [6, 7] (fun n i wr => OfInv w1 t s n i wr) (fun n i wr => sizeL [t] - (intOf i).toNat)
  case atStart => exact ⟨0, 0, Nat.zero_le _, rfl, by simp, rfl⟩
  case round =>
    obtain ⟨k, q, hk, rfl, rfl, rfl⟩ := hrel
    by_cases hlt : k < (preL [t]).length
    · have hlti : (k : Int) < (sizeL [t] : Int) := by omega
      obtain ⟨d0, _⟩ := HROW.out.get k hlt
      have d1 : w1.cell? ⟨g, k * 2, none⟩ = some (.string (preL [t])[k].name) := HC.out _ _ d0
      have hot := oft_take s (preL [t]) k hlt
      have hle : ((preL [t]).take k |>.filter fun x => decide (x.name = s)).length ≤ k := by
        have := List.length_filter_le (fun x : Tm => decide (x.name = s)) ((preL [t]).take k)
        simp at this ⊢
        omega
      have HOT := hide hot
      clear hot d0
      generalize ((preL [t]).take k |>.filter fun x => decide (x.name = s)).length = nn at *
      by_cases he : (preL [t])[k].name = s
      · have hq := bytes_yes he
        have HO : Hid ((((preL [t]).take (k + 1)).filter fun x => decide (x.name = s)).length = nn + 1) := by unfold Hid; rw [HOT.out, if_pos he]
        clear he
        go_wp2_with fail
        go_roundw
        case rel => exact ⟨k + 1, _, by omega, by go_num, by rw [HO.out]; go_num, rfl⟩
        case measure => simp [intOf]; omega
      · have hq := bytes_no he
        have HO : Hid ((((preL [t]).take (k + 1)).filter fun x => decide (x.name = s)).length = nn) := by unfold Hid; rw [HOT.out, if_neg he]; rfl
        clear he
        go_wp2_with fail
        go_roundw
        case rel => exact ⟨k + 1, _, by omega, by go_num, by rw [HO.out], rfl⟩
        case measure => simp [intOf]; omega
    · have htk : (preL [t]).take k = preL [t] := List.take_of_length_le (by omega)
      have HR : Hid ((((preL [t]).take k).filter fun x => decide (x.name = s)).length = oftL s [t]) := by unfold Hid; rw [htk]; rfl
      go_wp2_with fail
      go_ret
      exact ⟨ret_int (by rw [HR.out]), below_drewN B1.out _⟩
end Go.Proofs.YtcdabjekppddjaaGreatDoor
