
/- Walks: Put, and the law on it. -/
import Derived.Test.YtmgggmlgmpfedaaW13
import Derived.Test.YtmgggmlgmpfedaaW12
import Derived.Test.YtmgggmlgmpfedaaW11
namespace Go.Proofs.Ytmgggmlgmpfedaa
open Go.RowKit
set_option linter.unusedSimpArgs false
set_option linter.unusedVariables false
set_option maxRecDepth 8000

/-- What is wrong with putting. -/
def putE (t : Tm) (zs : List Int) (x : Tm) : Int := if twoE t x = 0 then (if (atT t zs).isSome = true then 0 else 10) else twoE t x

theorem may_size {t : Tm} (h : mayE t = 0) : sizeL [t] ≤ 1000000 := by
  unfold mayE at h
  split at h
  · omega
  · omega

theorem may_le {t : Tm} (h : mayE t = 0) : sizeL [t] ≤ 400 := by
  unfold mayE at h
  split at h
  · omega
  · omega
theorem size_set : ∀ (l : List Tm) (k : Nat) (h : k < l.length) (y : Tm), sizeL (l.set k y) + sizeL [l[k]] = sizeL l + sizeL [y]
  | [], k, h, y => by simp at h
  | ⟨s, a⟩ :: l, 0, h, ⟨s', a'⟩ => by simp [sizeL]; omega
  | ⟨s, a⟩ :: l, k + 1, h, y => by
    have := size_set l k (by simpa using h) y
    simp only [List.set_cons_succ, List.getElem_cons_succ]
    have e1 : sizeL (⟨s, a⟩ :: l.set k y) = 1 + sizeL a + sizeL (l.set k y) := by simp [sizeL]
    have e2 : sizeL (⟨s, a⟩ :: l) = 1 + sizeL a + sizeL l := by simp [sizeL]
    omega
theorem putT_size (x : Tm) : ∀ (zs : List Int) (t : Tm), (atT t zs).isSome = true → sizeL [putT x zs t] ≤ sizeL [t] + sizeL [x]
  | [], t, _ => by simp [putT]
  | z :: zs, ⟨s, l⟩, h => by
    rw [atT] at h
    split at h
    case isFalse => cases h
    case isTrue hz =>
    obtain ⟨k, rfl⟩ : ∃ k : Nat, z = (k : Int) := ⟨z.toNat, by omega⟩
    have hk : k < l.length := by simpa using hz.2
    have ih := putT_size x zs l[k] (by simpa using h)
    have h1 := putL_set (putT x zs) l 0 k hk
    rw [Nat.zero_add] at h1
    rw [putT, h1]
    have h2 := size_set l k hk (putT x zs l[k])
    have e1 : sizeL [(⟨s, l.set k (putT x zs l[k])⟩ : Tm)] = 1 + sizeL (l.set k (putT x zs l[k])) := by simp [sizeL]
    have e2 : sizeL [(⟨s, l⟩ : Tm)] = 1 + sizeL l := by simp [sizeL]
    simp only [e1, e2]
    omega
theorem two_left {t x : Tm} (h : mayE t = 0) : twoE t x = mayE x := by simp [twoE, h]
theorem two_bad {t x : Tm} (h : mayE t ≠ 0) : twoE t x = mayE t := by simp [twoE, h]

theorem blks3 (w : World) (c1 c2 c3 : Array Value) (T : Nat) :
    Blk (((w.alloc (.cells c1 T)).alloc (.cells c2 T)).alloc (.cells c3 T)) w.heap.size c1 T ∧ Blk (((w.alloc (.cells c1 T)).alloc (.cells c2 T)).alloc (.cells c3 T)) (w.heap.size + 1) c2 T ∧ Blk (((w.alloc (.cells c1 T)).alloc (.cells c2 T)).alloc (.cells c3 T)) (w.heap.size + 1 + 1) c3 T := by
  refine ⟨(((Blk.new w c1 T).alloc _).alloc _), ?_, ?_⟩
  · have := ((Blk.new (w.alloc (.cells c1 T)) c2 T).alloc (.cells c3 T))
    simp at this; exact this
  · have := (Blk.new ((w.alloc (.cells c1 T)).alloc (.cells c2 T)) c3 T)
    simp at this; exact this

end Go.Proofs.Ytmgggmlgmpfedaa
