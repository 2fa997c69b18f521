/- Walks: a lambda term that may be is made of raw numbers. -/
import Derived.Test.YtcdabjekppddjaaGreatDoorLf1w
import Derived.Test.YtcdabjekppddjaaGreatDoorLn1
import Derived.Deep.RegionHeld
import Derived.Deep.RegionHeld3
import Derived.Deep.DeepCutAuto
namespace Go.Proofs.YtcdabjekppddjaaGreatDoor
open Go.RowKit
set_option linter.unusedSimpArgs false
set_option linter.unusedVariables false
set_option maxRecDepth 8000

/-- Some lambda term, all new, and how far was read. -/
def LfE (i m un : Nat) (w : World) (e : Ending) (w' : World) : Prop :=
  ∃ (t : Lm) (k : Nat) (a : Option Addr) (c : Nat), e = .returned (.tuple #[.agg #[.int .i64 t.kind, .int .i64 t.idx, .slice a t.subs.length c], .int .i64 (k : Int)]) ∧ i ≤ k ∧ k ≤ i + tpQ m ∧ SlM w' (fun b => w.heap.size ≤ b) a t.subs ∧ Below w.heap.size w w' ∧ errM (un : Int) 0 [t] = 0 ∧ sizeM [t] ≤ tpQ m
theorem lfE_end {w wz : World} {i m un k R : Nat} {t : Lm} {a : Option Addr} {c : Nat} (hR : w.heap.size ≤ R) (h1 : i ≤ k) (h2 : k ≤ i + tpQ m) (hb : Below w.heap.size w wz) (hs : SlM wz (fun b => w.heap.size ≤ b ∧ b ≠ R) a t.subs) (v0 v1 v2 : Value) {kk : Int} (hk : kk = (k : Int)) (hq : errM (un : Int) 0 [t] = 0 ∧ sizeM [t] ≤ tpQ m) :
    LfE i m un w (.returned (.tuple #[.agg #[.int .i64 t.kind, .int .i64 t.idx, .slice a t.subs.length c], .int .i64 kk])) (((wz.setCell ⟨R, 0, none⟩ v0).setCell ⟨R, 1, none⟩ v1).setCell ⟨R, 2, none⟩ v2) := by
  subst hk
  refine ⟨t, k, a, c, rfl, h1, h2, (hs.kept fun q hq => ?_).mono fun b h _ => h.1, ((hb.setCell (p := ⟨R, 0, none⟩) (by simpa using hR) _).setCell (p := ⟨R, 1, none⟩) (by simpa using hR) _).setCell (p := ⟨R, 2, none⟩) (by simpa using hR) _, hq⟩
  rw [Below.heap_setCell _ _ _ _ (by simpa using hq.2), Below.heap_setCell _ _ _ _ (by simpa using hq.2), Below.heap_setCell _ _ _ _ (by simpa using hq.2)]

end Go.Proofs.YtcdabjekppddjaaGreatDoor
