import Derived.Test.YtmkendjmfdaedaaGreatZBRewriteMadeOwn
import Derived.Test.YtmkendjmfdaedaaGreatW164
import Derived.Test.YtmkendjmfdaedaaGreatZRewriteMadeOwn
namespace Go.Proofs.YtmkendjmfdaedaaGreat
open Go.RowKit
set_option linter.unusedSimpArgs false
set_option linter.unusedVariables false
set_option maxRecDepth 8000
def okAt (rs : List Pr) (inner : Bool) (x : Tm) : Bool := fitsB rs x && (!inner || ((preL [x]).drop 1).all fun y => !fitsB rs y)
def okP (rs : List Pr) (inner : Bool) (t : Tm) (p : List Int) : Bool := match atT t p with
 | some x => okAt rs inner x
 | none => false
def nextP (rs : List Pr) (inner : Bool) (t : Tm) : Option (List Int) := (plcT t).find? (okP rs inner t)
theorem find_no {f : List Int → Bool} : ∀ {ps : List (List Int)}, ps.any f = false → ps.find? f = none
 | [], _ => rfl
 | p :: ps, h => by
  rw [List.any_cons, Bool.or_eq_false_iff] at h
  rw [List.find?_cons, h.1]
  exact find_no h.2
theorem find_at {f : List Int → Bool} : ∀ {ps : List (List Int)} {i : Nat} (h : i < ps.length), (ps.take i).any f = false → f ps[i] = true → ps.find? f = some ps[i]
 | [], i, h, _, _ => by simp at h
 | p :: ps, 0, h, _, h2 => by
  simp only [List.getElem_cons_zero] at h2 ⊢
  rw [List.find?_cons, h2]
 | p :: ps, i + 1, h, h1, h2 => by
  rw [List.take_succ_cons, List.any_cons, Bool.or_eq_false_iff] at h1
  simp only [List.getElem_cons_succ] at h2 ⊢
  rw [List.find?_cons, h1.1]
  exact find_at (by simpa using h) h1.2 h2
theorem anyZ_take {l : List (List Int)} {f : List Int → Bool} {k : Nat} (h : k < l.length) : (l.take (k + 1)).any f = ((l.take k).any f || f l[k]) := by
 rw [List.take_succ_eq_append_getElem h, List.any_append]
 simp
def below1 (rs : List Pr) (l : List Tm) (k : Nat) : Bool := ((l.take k).drop 1).all fun y => !fitsB rs y
theorem below1_one (rs : List Pr) (l : List Tm) : below1 rs l 1 = true := by
 unfold below1
 cases l <;> simp
theorem below1_next {rs : List Pr} {l : List Tm} {k : Nat} (h1 : 1 ≤ k) (h : k < l.length) : below1 rs l (k + 1) = (below1 rs l k && !fitsB rs l[k]) := by
 unfold below1
 rw [List.take_succ_eq_append_getElem h, List.drop_append_of_le_length (by simp; omega), List.all_append]
 simp
theorem below1_no {rs : List Pr} {l : List Tm} {k : Nat} (h : below1 rs l k = false) : ((l.drop 1).all fun y => !fitsB rs y) = false := by
 rw [Bool.eq_false_iff]
 intro h2
 unfold below1 at h
 rw [Bool.eq_false_iff] at h
 refine h (List.all_eq_true.2 fun y hy => List.all_eq_true.1 h2 y ?_)
 rw [List.drop_take] at hy
 exact List.mem_of_mem_take hy
end Go.Proofs.YtmkendjmfdaedaaGreat
