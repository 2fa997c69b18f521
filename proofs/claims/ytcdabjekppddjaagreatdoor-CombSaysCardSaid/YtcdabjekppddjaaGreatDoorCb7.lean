/- Walks: the row that a term is, as the program says: a closure tells its places. -/
import Derived.Test.YtcdabjekppddjaaGreatDoorCb4
import Derived.Laws.EntriesVeiled
import Derived.Laws.OwnMore
namespace Go.Proofs.YtcdabjekppddjaaGreatDoor
open Go.RowKit
set_option linter.unusedSimpArgs false
set_option linter.unusedVariables false
set_option maxRecDepth 8000

set_option maxHeartbeats 1000000 in
theorem rowOf1_any (R : List Tm) (al : Option Addr) (cl B p : Nat) (w : World) (Y : Nat → Prop) (hB : Blk w B #[.slice al R.length cl] 22) (hs : Sl w Y al R.reverse) (hp : p < R.length) :
    Calls Tryz.prog 94 #[.int .i64 (p : Int), .pointer (some ⟨B, 0, none⟩)] w fun e w' => TPost w Y R[p] e w' := by
  obtain ⟨q, hq⟩ : ∃ q, R.length = q + p + 1 := ⟨R.length - p - 1, by omega⟩
  have hql : q < R.reverse.length := by simp; omega
  obtain ⟨b, o, a', c', rfl, d0, d1, hx⟩ := hs.get (Below.refl _ _) (fun _ _ h => h) q hql
  have e1 : R.reverse[q] = R[p] := by rw [List.getElem_reverse]; congr 1; omega
  rw [e1] at d0 d1 hx
  have hl := hs.1
  simp only [List.length_reverse] at hl
  have HX := hide hx
  have c0 : ∀ o', (w.alloc o').cell? ⟨B, 0, none⟩ = some (.slice (some ⟨b, o, none⟩) R.length cl) := fun o' => (hB.alloc o').cell 0
  rw [hq] at c0 hl
  have d0 : ∀ o', (w.alloc o').cell? ⟨b, o + q * 2, none⟩ = some (.string R[p].name) := fun o' => (((Below.refl _ _).alloc (Nat.le_refl _) o').cell (p := ⟨b, o + q * 2, none⟩) (cbCell_lt d0)).trans d0
  have d1 : ∀ o', (w.alloc o').cell? ⟨b, o + q * 2 + 1, none⟩ = some (.slice a' R[p].args.length c') := fun o' => (((Below.refl _ _).alloc (Nat.le_refl _) o').cell (p := ⟨b, o + q * 2 + 1, none⟩) (cbCell_lt d1)).trans d1
  have e2 : ((q + p + 1 : Nat) : Int) - 1 - (p : Int) = (q : Int) := by omega
  generalize R[p] = x at *
  clear hs hB hx e1 hql hq hp
  have HB : Hid (Below w.heap.size w (w.alloc (.cells #[.string x.name, .slice a' x.args.length c'] 24))) := (Below.refl _ _).alloc (Nat.le_refl _) _
  go_enter Tryz.func94, Tryz.ntmps94
  go_wp2_with fail
  refine bodyPost_ret (v := .agg #[.string x.name, .slice a' x.args.length c']) (by simp [results, Tryz.results94, go_sem]) rfl ?_
  exact ⟨_, rfl, (HX.out.later HB.out).or _, HB.out⟩

end Go.Proofs.YtcdabjekppddjaaGreatDoor
