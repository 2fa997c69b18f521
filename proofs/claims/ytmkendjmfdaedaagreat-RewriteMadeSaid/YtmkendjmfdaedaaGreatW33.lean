import Derived.Test.YtmkendjmfdaedaaGreatW32
import Derived.Test.YtmkendjmfdaedaaGreatZRewriteMadeOwn
import Derived.Deep.RegionLaw
namespace Go.Proofs.YtmkendjmfdaedaaGreat
open Go.RowKit
set_option linter.unusedSimpArgs false
set_option linter.unusedVariables false
set_option maxRecDepth 8000
theorem rd_k (s : ByteArray) : ∀ f m i k, (rd s f m i k).err = 0 → k ≤ 200 → (rd s f m i k).k ≤ 200 := by
 intro f
 induction f with
 | zero => intro m i k h; simp [rd, noRd] at h
 | succ f ih =>
  intro m i k h hk
  match m with
  | none =>
   unfold rd at h ⊢
   split at h
   ·exfalso; revert h; simp only [noRd]; split <;> omega
   ·rename_i h1
    rw [if_neg h1]
    split at h
    ·exfalso; revert h; simp [noRd]
    ·rename_i h2
     rw [if_neg h2]
     split at h
     ·exfalso; revert h; simp [noRd]
     ·rename_i h3
      rw [if_neg h3]
      split at h
      ·rename_i h4
       rw [if_pos h4]
       split at h
       ·exfalso; revert h; simp [noRd]
       ·rename_i h5
        rw [if_neg h5]
        exact ih _ _ _ h (by omega)
      ·rename_i h4
       rw [if_neg h4]
       show k + 1 ≤ 200
       omega
  | some (nm, acc) =>
   unfold rd at h ⊢
   split at h
   ·rename_i h1
    exact absurd h h1
   ·rename_i h1
    rw [if_neg h1]
    simp only [ne_eq, Decidable.not_not] at h1
    have h3 := ih none (i + 1) k h1 hk
    split at h
    ·exfalso; revert h; simp [noRd]
    ·rename_i h2
     rw [if_neg h2]
     split at h
     ·rename_i h4
      rw [if_pos h4]
      exact h3
     ·rename_i h4
      rw [if_neg h4]
      split at h
      ·rename_i h5
       rw [if_pos h5]
       exact ih _ _ _ h h3
      ·exfalso; revert h; simp [noRd]
theorem sl_set2 {w w7 : World} {T : Nat} {a : Option Addr} {l : List Tm} {v0 v1 : Value} (hs : Sl w7 (fun b => T + 1 ≤ b) a l) (hT : w.heap.size < T) : Sl ((w7.setCell ⟨w.heap.size, 0, none⟩ v0).setCell ⟨w.heap.size, 1, none⟩ v1) (fun b => w.heap.size ≤ b) a l :=
 (hs.kept fun b hb => by rw [Below.heap_setCell _ _ _ _ (by simp; omega), Below.heap_setCell _ _ _ _ (by simp; omega)]).mono fun b hb _ => by omega
end Go.Proofs.YtmkendjmfdaedaaGreat
