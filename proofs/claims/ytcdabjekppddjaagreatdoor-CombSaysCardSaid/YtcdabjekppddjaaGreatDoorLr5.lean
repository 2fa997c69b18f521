/- Walks: names gone through from the last on. -/
import Derived.Test.YtcdabjekppddjaaGreatDoorZCombSaysOwn
import Derived.Test.YtcdabjekppddjaaGreatDoorRg2
import Derived.RangeFuncNested
import Derived.RangeFuncBound
import Derived.RangeFuncCalls
import Derived.RangeFuncLeaves
import Derived.RangeFuncWrites
import Derived.Shelf.Abstract
import Derived.Shelf.RegionOpen
import Derived.OwnWalkIn
import Derived.TacticsInMore
import Derived.LoopNIn
import Derived.LoopIn
namespace Go.Proofs.YtcdabjekppddjaaGreatDoor
open Go.RowKit Go.Shelf
attribute [local go_sem] Oper.semAt_some
set_option linter.unusedSimpArgs false
set_option linter.unusedVariables false
set_option maxRecDepth 8000

set_option maxHeartbeats 1000000 in
theorem backN_any (v : Value) (w : World) (hv : ∃ a k c, v = .slice a k c) :
    Calls Tryz.prog 124 #[v] w fun e w' => e = .returned (.func (.func 134) #[] #[.pointer (some ⟨w.heap.size, 0, none⟩)]) ∧ w' = w.alloc (.cells #[v] 95) := by
  obtain ⟨a, k, c, rfl⟩ := hv
  go_enter Tryz.func124, Tryz.ntmps124
  go_wp2_with fail
  go_ret
  exact ⟨rfl, rfl⟩

set_option maxHeartbeats 1000000 in
theorem back1N_any (nm : List ByteArray) (l Bn b o c : Nat) (a : Option Addr) (ha : nm = [] ∨ a = some ⟨b, o, none⟩) (hl : nm.length ≤ 1000000) (J : Nat → World → Prop) (Jx : World → Prop)
    (hJ : ∀ k W, J k W → W.cell? ⟨Bn, 0, none⟩ = some (.slice a nm.length c) ∧ ∀ i (h : i < nm.length), W.cell? ⟨b, o + i, none⟩ = some (.string nm[i]))
    (hY : ∀ n k (hk : k < nm.length) W, J (k + 1) W → YieldAt Fence.wide n Tryz.prog l #[.int .i64 (k : Int), .string nm[k]] W fun e W' => ∃ s, e = .returned (.bool s) ∧ ((s = true ∧ J k W') ∨ (s = false ∧ Jx W')))
    (W : World) (h0 : J nm.length W) :
    Calls Tryz.prog 134 #[.func (.yield l) #[] #[], .pointer (some ⟨Bn, 0, none⟩)] W fun e W' => (∃ v, e = .returned v) ∧ (J 0 W' ∨ Jx W') := by
  have HJ := hide hJ
  have HY := hide hY
  clear hJ hY
  have c0 := (HJ.out _ _ h0).1
  refine (callsIn_wide (n := 3)).1 ?_
  refine callsIn_of_wp Tryz.func134 rfl trivial ?_ rfl
  simp only [Tryz.ntmps134, List.size_toArray, List.length_cons, List.length_nil, Nat.reduceAdd, Nat.reduceSub, Array.replicate_succ, Array.replicate_zero, List.push_toArray, List.append_toArray, List.nil_append, List.cons_append]
  gi_wp2
  gi_loopw [3] (fun i wr => ∃ k : Nat, k ≤ nm.length ∧ i = .int .i64 ((k : Int) - 1) ∧ J k wr) (fun i wr => (intOf i + 1).toNat)
  case atStart => exact ⟨nm.length, Nat.le_refl _, by go_num, h0⟩
  case round =>
    obtain ⟨k, hk, rfl, hJk⟩ := hrel
    cases k with
    | zero =>
      gi_wp2
      go_end0
      exact ⟨⟨_, rfl⟩, .inl hJk⟩
    | succ k =>
      have hkk : ((k + 1 : Nat) : Int) - 1 = k := by omega
      rw [hkk]
      obtain rfl : a = some ⟨b, o, none⟩ := ha.resolve_left (fun e => by rw [e] at hk; simp at hk)
      obtain ⟨d0, d1⟩ := HJ.out _ _ hJk
      have d2 := d1 k (by omega)
      have hkl : (k : Int) < (nm.length : Int) := by omega
      obtain ⟨fn, tmps, assign, body, hy, hR⟩ := HY.out 2 k (by omega) wr hJk
      obtain ⟨x, hx⟩ : ∃ x, nm[k] = x := ⟨_, rfl⟩
      simp only [hx] at d2 hy
      clear d1 hx
      gi_wp2
      refine hR.mono ?_
      rintro e W3 ⟨s3, rfl, (⟨rfl, hJ3⟩ | ⟨rfl, hJx3⟩)⟩
      · gi_wp2
        go_roundw
        case rel => exact ⟨k, by omega, by go_num, hJ3⟩
        case measure => simp [intOf]
      · gi_wp2
        refine bodyPost_ret (results_none rfl _ _ _) rfl ?_
        exact ⟨⟨_, rfl⟩, .inr hJx3⟩
end Go.Proofs.YtcdabjekppddjaaGreatDoor
