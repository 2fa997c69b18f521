/- Several texts in one. -/
import Derived.Test.YtdebiiodhkcnkaaGreatZTopIndexOwn
import Derived.Maps.RangeRun
import Derived.DeepKeys3
import Derived.WideKeyPair
import Derived.Deep.AppendLies
import Derived.Laws.OwnMore
import Derived.Deep.RegionHeld3
import Derived.Deep.DeepCutAuto
import Derived.Laws.Cover3
import Derived.Deep.AppendSrc
import Derived.Lib.Builder
import Derived.RangeFuncNested
import Derived.RangeFuncBound
import Derived.RangeFuncCalls
import Derived.RangeFuncLeaves
import Derived.RangeFuncWrites
import Derived.Shelf.Abstract
import Derived.Shelf.RegionOpen
import Derived.OwnWalkIn
import Derived.TacticsInMore
import Derived.LoopNIn
import Derived.LoopIn
namespace Go.Proofs.YtdebiiodhkcnkaaGreat
open Go.RowKit
set_option linter.unusedSimpArgs false
set_option linter.unusedVariables false
theorem errL_cons_zero {t : Tm} {r : List Tm} : errL (t :: r) = 0 ↔ errL [t] = 0 ∧ errL r = 0 := by
 rw [errL_cons]
 by_cases h : errL [t] = 0 <;> simp [h]
theorem errL_append_zero {a b : List Tm} : errL (a ++ b) = 0 ↔ errL a = 0 ∧ errL b = 0 := by
 rw [errL_append]
 by_cases h : errL a = 0 <;> simp [h]
theorem errL_knot {s : ByteArray} {l : List Tm} (h : errL [⟨s, l⟩] = 0) : nameB s = true ∧ (varB s = true → l = []) ∧ errL l = 0 := by
 simp only [errL] at h
 split at h
 ·rename_i hn
  split at h
  ·cases h
  ·rename_i hv
   refine ⟨by simpa using hn, fun hb => ?_, ?_⟩
   ·match l with
    | [] => rfl
    | a :: b => exact absurd (by simp [hb]) hv
   ·by_cases h0 : errL l = 0
    ·exact h0
    ·simp [h0] at h
 ·cases h
abbrev Sg := ByteArray × Nat
def vsg : Sg := (⟨#[]⟩, 0)
def sgT (t : Tm) : Sg := if varB t.name = true then vsg else (t.name, t.args.length)
def wdL : List Tm → List Sg
 | [] => []
 | ⟨s, l⟩ :: r => sgT ⟨s, l⟩ :: (wdL l ++ wdL r)
theorem wdL_cons (t : Tm) (r : List Tm) : wdL (t :: r) = sgT t :: (wdL t.args ++ wdL r) := by
 obtain ⟨s, l⟩ := t
 simp only [wdL]
theorem wdL_nil : wdL [] = [] := by simp [wdL]
theorem wdL_append (a b : List Tm) : wdL (a ++ b) = wdL a ++ wdL b := by
 induction a with
 | nil => simp [wdL]
 | cons t r ih => rw [List.cons_append, wdL_cons, wdL_cons, ih]; simp
theorem sgT_var {t : Tm} (h : varB t.name = true) : sgT t = vsg := by simp [sgT, h]
theorem sgT_sym {t : Tm} (h : varB t.name = false) : sgT t = (t.name, t.args.length) := by simp [sgT, h]
inductive Many : Nat → List Sg → Prop
 | nil : Many 0 []
 | cons {n : Nat} {s : Sg} {v : List Sg} : Many (n + s.2) v → Many (n + 1) (s :: v)
theorem many_free {n : Nat} {v : List Sg} (h : Many n v) : ∀ {v' u u' : List Sg}, Many n v' → v ++ u = v' ++ u' → v = v' ∧ u = u' := by
 induction h with
 | nil =>
  intro v' u u' h' e
  cases h'
  exact ⟨rfl, by simpa using e⟩
 | cons h ih =>
  intro v' u u' h' e
  cases h' with
  | cons h2 =>
   simp only [List.cons_append, List.cons.injEq] at e
   obtain ⟨e1, e2⟩ := e
   subst e1
   obtain ⟨a, b⟩ := ih h2 e2
   exact ⟨by rw [a], b⟩
theorem many_wd (l : List Tm) : errL l = 0 → ∀ {n : Nat} {v : List Sg}, Many n v → Many (l.length + n) (wdL l ++ v) := by
 induction l using Tm.indL with
 | h0 => intro _ n v h; simpa [wdL] using h
 | h s l r ihl ihr =>
  intro he n v h
  obtain ⟨h1, h2⟩ := errL_cons_zero.1 he
  obtain ⟨_, hv, hl⟩ := errL_knot h1
  rw [wdL_cons]
  have h3 := ihl hl (ihr h2 h)
  have e : ((⟨s, l⟩ : Tm) :: r).length + n = (r.length + n) + 1 := by simp; omega
  rw [e, List.cons_append, List.append_assoc]
  refine Many.cons ?_
  have e2 : (sgT ⟨s, l⟩).2 = l.length := by
   by_cases hb : varB s = true
   ·rw [sgT_var (t := ⟨s, l⟩) hb, hv hb]; rfl
   ·rw [sgT_sym (t := ⟨s, l⟩) (by simpa using hb)]
  rw [e2, Nat.add_comm (r.length + n)]
  exact h3
inductive Rch (k : Nat) : List Tm → List Sg → Prop
 | nil : Rch k [] []
 | past {s : ByteArray} {l r : List Tm} {v1 v2 : List Sg} : varB s = true → k ≠ 0 → Many 1 v1 → Rch k r v2 → Rch k (⟨s, l⟩ :: r) (v1 ++ v2)
 | var {s : ByteArray} {l r : List Tm} {v : List Sg} : ¬ (varB s = true ∧ k ≠ 0) → k ≠ 1 → Rch k r v → Rch k (⟨s, l⟩ :: r) (vsg :: v)
 | sym {s : ByteArray} {l r : List Tm} {v : List Sg} : varB s = false → Rch k (l ++ r) v → Rch k (⟨s, l⟩ :: r) ((s, l.length) :: v)
inductive CpL (k : Nat) : List Tm → List Tm → Prop
 | nil : CpL k [] []
 | past {x : Tm} {xs : List Tm} {s : ByteArray} {l ts : List Tm} : varB s = true → k ≠ 0 → CpL k xs ts → CpL k (x :: xs) (⟨s, l⟩ :: ts)
 | var {x : Tm} {xs : List Tm} {s : ByteArray} {l ts : List Tm} : varB x.name = true → ¬ (varB s = true ∧ k ≠ 0) → k ≠ 1 → CpL k xs ts → CpL k (x :: xs) (⟨s, l⟩ :: ts)
 | sym {s : ByteArray} {a l xs ts : List Tm} : varB s = false → CpL k a l → CpL k xs ts → CpL k (⟨s, a⟩ :: xs) (⟨s, l⟩ :: ts)
theorem CpL.len {k : Nat} {xs ts : List Tm} (h : CpL k xs ts) : xs.length = ts.length := by
 induction h with
 | nil => rfl
 | past _ _ _ ih => simp [ih]
 | var _ _ _ _ ih => simp [ih]
 | sym _ _ _ _ ih => simp [ih]
theorem CpL.app {k : Nat} {xs ts ys us : List Tm} (h : CpL k xs ts) (h2 : CpL k ys us) : CpL k (xs ++ ys) (ts ++ us) := by
 induction h with
 | nil => exact h2
 | past a b _ ih => exact CpL.past a b ih
 | var a b c _ ih => exact CpL.var a b c ih
 | sym a b _ _ ih => exact CpL.sym a b ih
theorem many_one {x : Tm} (he : errL [x] = 0) : Many 1 (wdL [x]) := by
 have h := many_wd [x] he Many.nil
 simpa using h
theorem cp_rch {k : Nat} : ∀ (n : Nat) {xs ts : List Tm}, sizeL ts ≤ n → errL xs = 0 → CpL k xs ts → Rch k ts (wdL xs)
 | n, [], [], _, _, _ => by rw [wdL_nil]; exact Rch.nil
 | n, x :: xs, ⟨s, l⟩ :: ts, hn, he, h => by
  obtain ⟨h1, h2⟩ := errL_cons_zero.1 he
  have hz : sizeL ((⟨s, l⟩ : Tm) :: ts) = 1 + (sizeL l + sizeL ts) := by simp [sizeL]; omega
  obtain ⟨n, rfl⟩ : ∃ m, n = m + 1 := ⟨n - 1, by omega⟩
  have e1 : wdL (x :: xs) = wdL [x] ++ wdL xs := wdL_append [x] xs
  cases h with
  | past a b c => rw [e1]; exact Rch.past a b (many_one h1) (cp_rch n (by omega) h2 c)
  | var a b c d =>
   have e : wdL (x :: xs) = vsg :: wdL xs := by
    obtain ⟨xn, xa⟩ := x
    have hx := (errL_knot h1).2.1 a
    rw [wdL_cons, sgT_var a, hx, wdL_nil]; rfl
   rw [e]
   exact Rch.var b c (cp_rch n (by omega) h2 d)
  | sym a b c =>
   have hl := b.len
   rename_i aa
   rw [wdL_cons, sgT_sym (t := ⟨s, aa⟩) a]
   show Rch k _ ((s, aa.length) :: (wdL aa ++ wdL xs))
   rw [hl, ← wdL_append]
   refine Rch.sym a (cp_rch n (by rw [sizeL_append]; omega) ?_ (b.app c))
   exact errL_append_zero.2 ⟨(errL_knot h1).2.2, h2⟩
theorem mt_step {p t : Tm} {h h' : List Bd} (he : mtT p t h = some h') : varB p.name = true ∨ (varB p.name = false ∧ p.name = t.name ∧ p.args.length = t.args.length ∧ mtL p.args t.args h = some h') := by
 unfold mtT at he
 by_cases hv : varB p.name = true
 ·exact Or.inl hv
 ·rw [if_neg hv] at he
  split at he
  ·rename_i h2
   rw [Bool.and_eq_true] at h2
   exact Or.inr ⟨by simpa using hv, bytes_inj (by simpa using h2.1), by simpa using h2.2, he⟩
  ·cases he
theorem cp_over (l : List Tm) : ∀ {ts : List Tm} {h h' : List Bd}, l.length = ts.length → mtL l ts h = some h' → CpL 0 l ts := by
 induction l using Tm.indL with
 | h0 =>
  intro ts h h' e _
  match ts, e with
  | [], _ => exact CpL.nil
 | h s a r iha ihr =>
  intro ts h h' e he
  match ts, e with
  | ⟨s2, l2⟩ :: ts', e =>
   rw [mtL_cons] at he
   cases hm : mtT ⟨s, a⟩ ⟨s2, l2⟩ h with
   | none => rw [hm] at he; cases he
   | some g =>
    rw [hm] at he
    have h2 := ihr (by simpa using e) he
    rcases mt_step hm with hv | ⟨hv, e1, e2, e3⟩
    ·exact CpL.var hv (by simp) (by omega) h2
    ·have e1' : s = s2 := e1
     subst e1'
     exact CpL.sym hv (iha e2 e3) h2
theorem cp_under (l : List Tm) : ∀ {ts : List Tm} {h h' : List Bd}, l.length = ts.length → mtL l ts h = some h' → CpL 1 ts l := by
 induction l using Tm.indL with
 | h0 =>
  intro ts h h' e _
  match ts, e with
  | [], _ => exact CpL.nil
 | h s a r iha ihr =>
  intro ts h h' e he
  match ts, e with
  | ⟨s2, l2⟩ :: ts', e =>
   rw [mtL_cons] at he
   cases hm : mtT ⟨s, a⟩ ⟨s2, l2⟩ h with
   | none => rw [hm] at he; cases he
   | some g =>
    rw [hm] at he
    have h2 := ihr (by simpa using e) he
    rcases mt_step hm with hv | ⟨hv, e1, e2, e3⟩
    ·exact CpL.past hv (by omega) h2
    ·have e1' : s = s2 := e1
     subst e1'
     exact CpL.sym hv (iha e2 e3) h2
theorem cp_near {σ : List Bd} (hσ : ∀ d ∈ σ, varB d.nm = true) (l : List Tm) : ∀ {ts : List Tm}, onL σ ts = onL σ l → CpL 2 ts l := by
 induction l using Tm.indL with
 | h0 =>
  intro ts e
  have h := congrArg List.length e
  rw [onL_length, onL_length] at h
  match ts, h with
  | [], _ => exact CpL.nil
 | h s a r iha ihr =>
  intro ts e
  have h := congrArg List.length e
  rw [onL_length, onL_length] at h
  match ts, h with
  | ⟨s2, l2⟩ :: ts', h =>
   rw [onL_cons, onL_cons] at e
   obtain ⟨e1, e2⟩ := List.cons.inj e
   have h2 := ihr e2
   by_cases hv : varB s = true
   ·exact CpL.past hv (by omega) h2
   ·have hv' : varB s = false := by simpa using hv
    by_cases hw : varB s2 = true
    ·exact CpL.var hw (fun h => hv h.1) (by omega) h2
    ·have hw' : varB s2 = false := by simpa using hw
     rw [onT_sym2 hσ hv', onT_sym2 hσ hw'] at e1
     injection e1 with e3 e4
     subst e3
     exact CpL.sym hv' (iha e4) h2
theorem rch_nil {k : Nat} {v : List Sg} : Rch k [] v ↔ v = [] := by
 constructor
 ·intro h; cases h; rfl
 ·rintro rfl; exact Rch.nil
theorem rch_past {k : Nat} {s : ByteArray} {l r : List Tm} {v : List Sg} (hv : varB s = true) (hk : k ≠ 0) : Rch k (⟨s, l⟩ :: r) v ↔ ∃ v1 v2, Many 1 v1 ∧ Rch k r v2 ∧ v = v1 ++ v2 := by
 constructor
 ·intro h
  cases h with
  | past a b c d => exact ⟨_, _, c, d, rfl⟩
  | var a b c => exact absurd ⟨hv, hk⟩ a
  | sym a b => rw [hv] at a; cases a
 ·rintro ⟨v1, v2, a, b, rfl⟩; exact Rch.past hv hk a b
theorem rch_else {k : Nat} {s : ByteArray} {l r : List Tm} {v : List Sg} (h0 : ¬ (varB s = true ∧ k ≠ 0)) : Rch k (⟨s, l⟩ :: r) v ↔ (k ≠ 1 ∧ ∃ v2, Rch k r v2 ∧ v = vsg :: v2) ∨ (varB s = false ∧ ∃ v2, Rch k (l ++ r) v2 ∧ v = (s, l.length) :: v2) := by
 constructor
 ·intro h
  cases h with
  | past a b c d => exact absurd ⟨a, b⟩ h0
  | var a b c => exact Or.inl ⟨b, _, c, rfl⟩
  | sym a b => exact Or.inr ⟨a, _, b, rfl⟩
 ·rintro (⟨a, v2, b, rfl⟩ | ⟨a, v2, b, rfl⟩)
  ·exact Rch.var h0 a b
  ·exact Rch.sym a b
theorem many_zero {v : List Sg} : Many 0 v ↔ v = [] := by
 constructor
 ·intro h; cases h; rfl
 ·rintro rfl; exact Many.nil
theorem many_succ {n : Nat} {v : List Sg} : Many (n + 1) v ↔ ∃ s v2, v = s :: v2 ∧ Many (n + s.2) v2 := by
 constructor
 ·intro h; cases h with
  | cons h => exact ⟨_, _, rfl, h⟩
 ·rintro ⟨s, v2, rfl, h⟩; exact Many.cons h
def spL : Nat → List Tm → List (Sg × Nat)
 | _, [] => []
 | a, ⟨s, l⟩ :: r => (sgT ⟨s, l⟩, a + 1 + sizeL l) :: (spL (a + 1) l ++ spL (a + 1 + sizeL l) r)
theorem spL_nil (a : Nat) : spL a [] = [] := by simp [spL]
theorem spL_cons (a : Nat) (t : Tm) (r : List Tm) : spL a (t :: r) = (sgT t, a + 1 + sizeL t.args) :: (spL (a + 1) t.args ++ spL (a + 1 + sizeL t.args) r) := by
 obtain ⟨s, l⟩ := t
 simp only [spL]
theorem sizeI_cons (t : Tm) (r : List Tm) : sizeL (t :: r) = 1 + (sizeL t.args + sizeL r) := by
 obtain ⟨s, l⟩ := t
 simp [sizeL]; omega
theorem spL_length (l : List Tm) : ∀ a, (spL a l).length = sizeL l := by
 induction l using Tm.indL with
 | h0 => intro a; simp [spL, sizeL]
 | h s l r ihl ihr => intro a; rw [spL_cons, sizeI_cons]; simp [ihl, ihr]; omega
theorem spL_append (x y : List Tm) : ∀ a, spL a (x ++ y) = spL a x ++ spL (a + sizeL x) y := by
 induction x with
 | nil => intro a; simp [spL, sizeL]
 | cons t r ih =>
  intro a
  rw [List.cons_append, spL_cons, spL_cons, ih, sizeI_cons]
  simp only [List.cons_append, List.append_assoc]
  rw [show a + 1 + sizeL t.args + sizeL r = a + (1 + (sizeL t.args + sizeL r)) by omega]
theorem spL_words (l : List Tm) : ∀ a, (spL a l).map (·.1) = wdL l := by
 induction l using Tm.indL with
 | h0 => intro a; simp [spL, wdL]
 | h s l r ihl ihr => intro a; rw [spL_cons, wdL_cons]; simp [ihl, ihr]
def SpAt (sp : List (Sg × Nat)) (a : Nat) (ts : List Tm) : Prop := a + sizeL ts = sp.length ∧ sp.drop a = spL a ts
theorem SpAt.start (t : Tm) : SpAt (spL 0 [t]) 0 [t] := ⟨by rw [spL_length]; omega, by simp⟩
theorem SpAt.lt {sp : List (Sg × Nat)} {a : Nat} {t : Tm} {r : List Tm} (h : SpAt sp a (t :: r)) : a < sp.length := by
 have h1 := h.1; rw [sizeI_cons] at h1; omega
theorem SpAt.eq {sp : List (Sg × Nat)} {a : Nat} (h : SpAt sp a []) : a = sp.length := by
 have h1 := h.1; simp [sizeL] at h1; exact h1
theorem SpAt.get {sp : List (Sg × Nat)} {a : Nat} {t : Tm} {r : List Tm} (h : SpAt sp a (t :: r)) : sp[a]? = some (sgT t, a + 1 + sizeL t.args) := by
 have h1 := congrArg (fun l => l[0]?) h.2
 rw [spL_cons] at h1
 simpa using h1
theorem SpAt.down {sp : List (Sg × Nat)} {a : Nat} {t : Tm} {r : List Tm} (h : SpAt sp a (t :: r)) : SpAt sp (a + 1) (t.args ++ r) := by
 refine ⟨?_, ?_⟩
 ·have h1 := h.1; rw [sizeI_cons] at h1; rw [sizeL_append]; omega
 ·rw [← List.drop_drop, h.2, spL_cons, spL_append]; simp
theorem SpAt.past {sp : List (Sg × Nat)} {a : Nat} {t : Tm} {r : List Tm} (h : SpAt sp a (t :: r)) : SpAt sp (a + 1 + sizeL t.args) r := by
 refine ⟨?_, ?_⟩
 ·have h1 := h.1; rw [sizeI_cons] at h1; omega
 ·have h2 := h.down.2
  rw [← List.drop_drop, h2, spL_append, List.drop_append_of_le_length (by rw [spL_length]; exact Nat.le_refl _), List.drop_of_length_le (by rw [spL_length]; exact Nat.le_refl _)]
  simp
def Nd (L : List (List Sg)) (u : List Sg) : Prop := u = [] ∨ ∃ x ∈ L, u <+: x
theorem Nd.nil (L : List (List Sg)) : Nd L [] := Or.inl rfl
theorem Nd.up {L : List (List Sg)} {u v : List Sg} (h : Nd L (u ++ v)) : Nd L u := by
 rcases h with h | ⟨x, hx, hp⟩
 ·left; simp at h; exact h.1
 ·exact Or.inr ⟨x, hx, (List.prefix_append u v).trans hp⟩
def nmL (L : List (List Sg)) (u : List Sg) : List Nat := (List.range L.length).filter fun n => decide (L[n]? = some u)
theorem nmL_mem {L : List (List Sg)} {u : List Sg} {n : Nat} : n ∈ nmL L u ↔ L[n]? = some u := by
 unfold nmL
 simp only [List.mem_filter, List.mem_range, decide_eq_true_eq]
 exact ⟨fun h => h.2, fun h => ⟨(List.getElem?_eq_some_iff.1 h).1, h⟩⟩
theorem nmL_nodup (L : List (List Sg)) (u : List Sg) : (nmL L u).Nodup := by
 unfold nmL
 exact List.Pairwise.filter _ List.nodup_range
theorem nmL_nil (u : List Sg) : nmL [] u = [] := by simp [nmL]
theorem nmL_same (L : List (List Sg)) (u : List Sg) : nmL (L ++ [u]) u = nmL L u ++ [L.length] := by
 unfold nmL
 rw [List.length_append, List.length_singleton, List.range_succ, List.filter_append]
 congr 1
 ·refine List.filter_congr fun n hn => ?_
  rw [List.getElem?_append_left (List.mem_range.1 hn)]
 ·simp
theorem nmL_other (L : List (List Sg)) {u x : List Sg} (h : u ≠ x) : nmL (L ++ [x]) u = nmL L u := by
 unfold nmL
 rw [List.length_append, List.length_singleton, List.range_succ, List.filter_append]
 have e1 : (List.range L.length).filter (fun n => decide ((L ++ [x])[n]? = some u)) = (List.range L.length).filter fun n => decide (L[n]? = some u) := by
  refine List.filter_congr fun n hn => ?_
  rw [List.getElem?_append_left (List.mem_range.1 hn)]
 rw [e1]
 simp [Ne.symm h]
def SrP (L : List (List Sg)) (k : Nat) (u : List Sg) (ts : List Tm) (g : List Nat) : Prop := g.Nodup ∧ ∀ n, n ∈ g ↔ ∃ v, L[n]? = some (u ++ v) ∧ Rch k ts v
theorem SrP.leaf (L : List (List Sg)) (k : Nat) (u : List Sg) : SrP L k u [] (nmL L u) := by
 refine ⟨nmL_nodup L u, fun n => ?_⟩
 rw [nmL_mem]
 constructor
 ·intro h; exact ⟨[], by simpa using h, Rch.nil⟩
 ·rintro ⟨v, h, hr⟩
  rw [rch_nil.1 hr, List.append_nil] at h
  exact h
theorem SrP.none {L : List (List Sg)} {k : Nat} {u : List Sg} {ts : List Tm} (h : ¬ Nd L u) : SrP L k u ts [] := by
 refine ⟨List.nodup_nil, fun n => ?_⟩
 constructor
 ·intro h; cases h
 ·rintro ⟨v, h1, _⟩
  exact absurd (Or.inr ⟨_, List.mem_of_getElem? h1, List.prefix_append u v⟩) h
theorem SrP.join {L : List (List Sg)} {k : Nat} {u : List Sg} {s : ByteArray} {l r : List Tm} {g1 g2 : List Nat} (h0 : ¬ (varB s = true ∧ k ≠ 0)) (hs : s ≠ ⟨#[]⟩) (h1 : if k = 1 then g1 = [] else SrP L k (u ++ [vsg]) r g1) (h2 : if varB s = true then g2 = [] else SrP L k (u ++ [(s, l.length)]) (l ++ r) g2) : SrP L k u (⟨s, l⟩ :: r) (g1 ++ g2) := by
 have m1 : ∀ n, n ∈ g1 ↔ k ≠ 1 ∧ ∃ v, L[n]? = some (u ++ [vsg] ++ v) ∧ Rch k r v := fun n => by
  split at h1
  ·rename_i hk; rw [h1]; simp [hk]
  ·rename_i hk; rw [h1.2]; simp [hk]
 have m2 : ∀ n, n ∈ g2 ↔ varB s = false ∧ ∃ v, L[n]? = some (u ++ [(s, l.length)] ++ v) ∧ Rch k (l ++ r) v := fun n => by
  split at h2
  ·rename_i hk; rw [h2]; simp [hk]
  ·rename_i hk; rw [h2.2]; simp [hk]
 refine ⟨?_, fun n => ?_⟩
 ·rw [List.nodup_append]
  refine ⟨?_, ?_, ?_⟩
  ·split at h1
   ·rw [h1]; exact List.nodup_nil
   ·exact h1.1
  ·split at h2
   ·rw [h2]; exact List.nodup_nil
   ·exact h2.1
  ·intro a ha b hb e
   subst e
   obtain ⟨_, v, e1, _⟩ := (m1 a).1 ha
   obtain ⟨_, v', e2, _⟩ := (m2 a).1 hb
   rw [e1] at e2
   have e3 := Option.some.inj e2
   simp only [List.append_assoc, List.append_cancel_left_eq, List.cons_append, List.nil_append, List.cons.injEq] at e3
   exact hs (congrArg Prod.fst e3.1).symm
 ·rw [List.mem_append, m1, m2]
  constructor
  ·rintro (⟨a, v, e, hr⟩ | ⟨a, v, e, hr⟩)
   ·exact ⟨vsg :: v, by simpa using e, (rch_else h0).2 (Or.inl ⟨a, v, hr, rfl⟩)⟩
   ·exact ⟨(s, l.length) :: v, by simpa using e, (rch_else h0).2 (Or.inr ⟨a, v, hr, rfl⟩)⟩
  ·rintro ⟨v, e, hr⟩
   rcases (rch_else h0).1 hr with ⟨a, v2, hr2, rfl⟩ | ⟨a, v2, hr2, rfl⟩
   ·exact Or.inl ⟨a, v2, by simpa using e, hr2⟩
   ·exact Or.inr ⟨a, v2, by simpa using e, hr2⟩
def PsP (L : List (List Sg)) (u : List Sg) (n : Nat) (vs : List (List Sg)) : Prop := vs.Nodup ∧ ∀ x, x ∈ vs ↔ Nd L x ∧ ∃ v, Many n v ∧ x = u ++ v
theorem PsP.zero {L : List (List Sg)} {u : List Sg} (h : Nd L u) : PsP L u 0 [u] := by
 refine ⟨by simp, fun x => ?_⟩
 rw [List.mem_singleton]
 constructor
 ·rintro rfl; exact ⟨h, [], Many.nil, by simp⟩
 ·rintro ⟨_, v, hm, rfl⟩; rw [many_zero.1 hm]; simp
def PsK (L : List (List Sg)) (u : List Sg) (n : Nat) (cs : List Sg) (vs : List (List Sg)) : Prop := vs.Nodup ∧ ∀ x, x ∈ vs ↔ ∃ s ∈ cs, Nd L x ∧ ∃ v, Many (n + s.2) v ∧ x = u ++ [s] ++ v
theorem PsK.nil (L : List (List Sg)) (u : List Sg) (n : Nat) : PsK L u n [] [] := ⟨List.nodup_nil, fun x => by simp⟩
theorem PsK.ext {L : List (List Sg)} {u : List Sg} {n : Nat} {cs : List Sg} {vs : List (List Sg)} (h : PsK L u n cs vs) {x : List Sg} (hx : x ∈ vs) : u <+: x := by
 obtain ⟨s, _, _, v, _, rfl⟩ := (h.2 x).1 hx
 rw [List.append_assoc]; exact List.prefix_append _ _
theorem PsP.ext {L : List (List Sg)} {u : List Sg} {n : Nat} {vs : List (List Sg)} (h : PsP L u n vs) {x : List Sg} (hx : x ∈ vs) : u <+: x := by
 obtain ⟨_, v, _, rfl⟩ := (h.2 x).1 hx
 exact List.prefix_append _ _
theorem PsK.apart {L : List (List Sg)} {u : List Sg} {n : Nat} {cs : List Sg} {vs : List (List Sg)} (h : PsK L u n cs vs) {s : Sg} (hs : s ∉ cs) {x : List Sg} (hx : x ∈ vs) : ¬ (u ++ [s]) <+: x := by
 obtain ⟨s', hs', _, v, _, rfl⟩ := (h.2 x).1 hx
 intro hp
 rw [List.append_assoc, List.prefix_append_right_inj] at hp
 obtain ⟨q, hq⟩ := hp
 simp at hq
 exact hs (hq.1 ▸ hs')
theorem PsK.add {L : List (List Sg)} {u : List Sg} {n : Nat} {cs : List Sg} {vs ws : List (List Sg)} (h : PsK L u n cs vs) {s : Sg} (hs : s ∉ cs) (hw : PsP L (u ++ [s]) (n + s.2) ws) : PsK L u n (cs ++ [s]) (vs ++ ws) := by
 refine ⟨?_, fun x => ?_⟩
 ·rw [List.nodup_append]
  refine ⟨h.1, hw.1, fun a ha b hb e => ?_⟩
  subst e
  exact h.apart hs ha (hw.ext hb)
 ·rw [List.mem_append, h.2, hw.2]
  constructor
  ·rintro (⟨s', a, b⟩ | ⟨a, v, b, rfl⟩)
   ·exact ⟨s', List.mem_append_left _ a, b⟩
   ·exact ⟨s, by simp, a, v, b, rfl⟩
  ·rintro ⟨s', a, b, v, c, rfl⟩
   rcases List.mem_append.1 a with a | a
   ·exact Or.inl ⟨s', a, b, v, c, rfl⟩
   ·have e : s' = s := by simpa using a
    subst e
    exact Or.inr ⟨b, v, c, rfl⟩
theorem PsK.done {L : List (List Sg)} {u : List Sg} {n : Nat} {cs : List Sg} {vs : List (List Sg)} (h : PsK L u n cs vs) (hc : ∀ s, Nd L (u ++ [s]) → s ∈ cs) : PsP L u (n + 1) vs := by
 refine ⟨h.1, fun x => ?_⟩
 rw [h.2]
 constructor
 ·rintro ⟨s, a, b, v, c, rfl⟩
  exact ⟨b, s :: v, Many.cons c, by simp⟩
 ·rintro ⟨a, v, hm, rfl⟩
  obtain ⟨s, v2, rfl, hm2⟩ := many_succ.1 hm
  have a2 : Nd L (u ++ [s] ++ v2) := by simpa using a
  exact ⟨s, hc s a2.up, a, v2, hm2, by simp⟩
def SrG (L : List (List Sg)) (k : Nat) (r : List Tm) (vs : List (List Sg)) (g : List Nat) : Prop := g.Nodup ∧ ∀ n, n ∈ g ↔ ∃ x ∈ vs, ∃ v, L[n]? = some (x ++ v) ∧ Rch k r v
theorem SrG.nil (L : List (List Sg)) (k : Nat) (r : List Tm) : SrG L k r [] [] := ⟨List.nodup_nil, fun n => by simp⟩
def Bh (L : List (List Sg)) (u x : List Sg) : Prop := Nd L x ∧ ∃ v, Many 1 v ∧ x = u ++ v
theorem SrG.add {L : List (List Sg)} {k : Nat} {r : List Tm} {u : List Sg} {vs : List (List Sg)} {g g2 : List Nat} (h : SrG L k r vs g) (hv : ∀ x ∈ vs, Bh L u x) {x : List Sg} (hx : Bh L u x) (hn : x ∉ vs) (h2 : SrP L k x r g2) : SrG L k r (vs ++ [x]) (g ++ g2) := by
 refine ⟨?_, fun n => ?_⟩
 ·rw [List.nodup_append]
  refine ⟨h.1, h2.1, fun a ha b hb e => ?_⟩
  subst e
  obtain ⟨y, hy, v, e1, _⟩ := (h.2 a).1 ha
  obtain ⟨v', e2, _⟩ := (h2.2 a).1 hb
  obtain ⟨_, y1, my, ey⟩ := hv y hy
  obtain ⟨_, x1, mx, ex⟩ := hx
  rw [e1] at e2
  have e3 := Option.some.inj e2
  rw [ey, ex, List.append_assoc, List.append_assoc, List.append_cancel_left_eq] at e3
  have e4 := (many_free my mx e3).1
  exact hn (by rw [ex, ← e4, ← ey]; exact hy)
 ·rw [List.mem_append, h.2, h2.2]
  constructor
  ·rintro (⟨y, a, b⟩ | b)
   ·exact ⟨y, List.mem_append_left _ a, b⟩
   ·exact ⟨x, by simp, b⟩
  ·rintro ⟨y, a, b⟩
   rcases List.mem_append.1 a with a | a
   ·exact Or.inl ⟨y, a, b⟩
   ·have e : y = x := by simpa using a
    subst e
    exact Or.inr b
theorem SrG.done {L : List (List Sg)} {k : Nat} {u : List Sg} {s : ByteArray} {l r : List Tm} {vs : List (List Sg)} {g : List Nat} (h : SrG L k r vs g) (hp : PsP L u 1 vs) (hv : varB s = true) (hk : k ≠ 0) : SrP L k u (⟨s, l⟩ :: r) g := by
 refine ⟨h.1, fun n => ?_⟩
 rw [h.2]
 constructor
 ·rintro ⟨x, hx, v, e, hr⟩
  obtain ⟨_, v1, m1, rfl⟩ := (hp.2 x).1 hx
  exact ⟨v1 ++ v, by rw [e, List.append_assoc], (rch_past hv hk).2 ⟨v1, v, m1, hr, rfl⟩⟩
 ·rintro ⟨v, e, hr⟩
  obtain ⟨v1, v2, m1, hr2, rfl⟩ := (rch_past hv hk).1 hr
  have e2 : L[n]? = some (u ++ v1 ++ v2) := by rw [e, List.append_assoc]
  exact ⟨u ++ v1, (hp.2 _).2 ⟨Or.inr ⟨_, List.mem_of_getElem? e2, List.prefix_append _ _⟩, v1, m1, rfl⟩, v2, e2, hr2⟩
theorem told_nums {N : Nat} {g : List Nat} {met : Nat → Bool} {q : Nat → Prop} (h1 : g.Nodup) (h2 : ∀ n, n ∈ g ↔ n < N ∧ q n) (h3 : ∀ n, n < N → met n = true → q n) : (g.filter met).Perm ((List.range N).filter met) := by
 refine (List.perm_ext_iff_of_nodup (List.Pairwise.filter _ h1) (List.Pairwise.filter _ List.nodup_range)).2 fun n => ?_
 rw [List.mem_filter, List.mem_filter, h2, List.mem_range]
 constructor
 ·rintro ⟨⟨a, _⟩, c⟩; exact ⟨a, c⟩
 ·rintro ⟨a, c⟩; exact ⟨⟨a, h3 n a c⟩, c⟩
open Go.WideMaps
open Go.ChangeMaps (setBlock)
set_option maxRecDepth 8000
def sgV (s : Sg) : Value := .agg #[.string s.1, .int .i64 (s.2 : Int)]
def SgOk (s : Sg) : Prop := s.1.size ≤ 1000000 ∧ s.2 ≤ 1000000
theorem sgV_inj {p q : Sg} (h : sgV p = sgV q) : p = q := by
 obtain ⟨a, b⟩ := p
 obtain ⟨c, d⟩ := q
 simp [sgV] at h
 obtain ⟨h1, h2⟩ := h
 have e2 : b = d := by omega
 rw [h1, e2]
theorem sgLaw : KeyLaw Tryz.prog 85 := deep_law (m := 3) (by omega) (by kernel_rfl) (by kernel_rfl) (by kernel_rfl)
theorem sg_keyType : Tryz.prog.keyType 85 = true := by kernel_rfl
theorem sg_typesPos : ∃ m, Tryz.prog.types.size = m + 2 := ⟨Tryz.prog.types.size - 2, by kernel_rfl⟩
theorem sg_cells : Tryz.prog.cellsOf 85 = 2 := by kernel_rfl
theorem sg_cells1 : Tryz.prog.cellsOf 9 = 1 := by kernel_rfl
theorem sg_cells2 : Tryz.prog.cellsOf 3 = 1 := by kernel_rfl
theorem sg_key {s : Sg} (h : SgOk s) : ∃ l, keyOf Tryz.prog 85 (sgV s) = some l := by
 obtain ⟨h1, h2⟩ := h
 obtain ⟨m, hm⟩ := sg_typesPos
 have hw : (Lit.int .i64 (s.2 : Int)).wf = true := by simp [Lit.wf, IntKind.min, IntKind.max, IntKind.signed, IntKind.bits]; omega
 unfold keyOf
 simp only [Tryz.underlying85]
 rw [if_pos (by simp [sg_keyType, sgV, Value.formed, Tryz.underlying85, sg_cells]), hm]
 unfold Program.keyLits
 simp only [Tryz.underlying85, Value.cells, sgV]
 rw [if_pos (by rw [sg_cells]; exact ⟨rfl, by kernel_rfl⟩)]
 have hsz : s.1.size ≤ maxLen := by unfold maxLen; omega
 simp [sg_cells1, sg_cells2, Program.keyLits, Tryz.underlying9, Tryz.underlying3, hw, hsz]
def MapG (w : World) (r : Nat) (L : List (Sg × Value)) : Prop :=
 ∃ es clk, w.heap[r]? = some (.map es clk) ∧ es.toList.map (fun e => (e.key, e.val)) = L.map (fun p => (sgV p.1, p.2)) ∧ Stamps es clk ∧ ∀ p ∈ L, SgOk p.1
theorem MapG.new (w : World) : MapG (w.alloc (.map #[] 0)) w.heap.size [] := ⟨#[], 0, heap_alloc_new w _, rfl, by simp [Stamps], by simp⟩
theorem MapG.lt {w : World} {r : Nat} {L : List (Sg × Value)} (h : MapG w r L) : r < w.heap.size := by
 obtain ⟨es, clk, h, _⟩ := h
 exact (Array.getElem?_eq_some_iff.1 h).1
theorem MapG.kept {w w' : World} {r : Nat} {L : List (Sg × Value)} (h : MapG w r L) (hk : w'.heap[r]? = w.heap[r]?) : MapG w' r L := by
 obtain ⟨es, clk, h1, h2⟩ := h
 exact ⟨es, clk, hk.trans h1, h2⟩
theorem MapG.entry {L : List (Sg × Value)} {es : List MapEntry} (h : es.map (fun e => (e.key, e.val)) = L.map (fun p => (sgV p.1, p.2))) {x : MapEntry} (hx : x ∈ es) : ∃ p ∈ L, x.key = sgV p.1 ∧ x.val = p.2 := by
 have h1 : (x.key, x.val) ∈ L.map (fun p => (sgV p.1, p.2)) := by rw [← h]; exact List.mem_map.2 ⟨x, hx, rfl⟩
 obtain ⟨p, hp, e⟩ := List.mem_map.1 h1
 simp only [Prod.mk.injEq] at e
 exact ⟨p, hp, e.1.symm, e.2.symm⟩
theorem MapG.entry2 {L : List (Sg × Value)} {es : List MapEntry} (h : es.map (fun e => (e.key, e.val)) = L.map (fun p => (sgV p.1, p.2))) {p : Sg × Value} (hp : p ∈ L) : ∃ x ∈ es, x.key = sgV p.1 ∧ x.val = p.2 := by
 have h1 : (sgV p.1, p.2) ∈ es.map (fun e => (e.key, e.val)) := by rw [h]; exact List.mem_map.2 ⟨p, hp, rfl⟩
 obtain ⟨x, hx, e⟩ := List.mem_map.1 h1
 simp only [Prod.mk.injEq] at e
 exact ⟨x, hx, e.1, e.2⟩
theorem run_lookG {w : World} {r : Nat} {L : List (Sg × Value)} (h : MapG w r L) (s : Sg) (hs : SgOk s) :
  (∃ v, (s, v) ∈ L ∧ (Instr.lookup 55 (.map (some r)) (sgV s) false).run Tryz.prog w = .ok v w) ∨ ((∀ v, (s, v) ∉ L) ∧ (Instr.lookup 55 (.map (some r)) (sgV s) false).run Tryz.prog w = .ok (.pointer none) w) := by
 obtain ⟨es, clk, hb, hes, hst, hok⟩ := h
 obtain ⟨l, hl⟩ := sg_key hs
 have hc := fun b => sgLaw.check w b hl
 have hz : (zeroValue 83).run Tryz.prog w = .ok (.pointer none) w := by kernel_rfl
 have hall : ∀ x ∈ es.toList, ∃ l, keyOf Tryz.prog 85 x.key = some l := fun x hx => by
  obtain ⟨p, hp, hk, _⟩ := MapG.entry hes hx
  rw [hk]; exact sg_key (hok _ hp)
 rcases sgLaw.find w hl es.toList hall with ⟨hf, hno⟩ | ⟨j, x, hf, hj, hx⟩
 ·refine Or.inr ⟨fun v hm => ?_, ?_⟩
  ·obtain ⟨x, hx, hk, _⟩ := MapG.entry2 hes hm
   exact hno _ hx hk
  ·simp [Instr.lookup, run_underlying Tryz.underlying55, MapKept.run_getObj_map hb, hc, hf, Result.andThen, hz]
 ·obtain ⟨p, hp, hk, hv⟩ := MapG.entry hes (List.mem_of_getElem? hj)
  have e : p.1 = s := sgV_inj (hk.symm.trans hx)
  refine Or.inl ⟨p.2, by rw [← e]; exact hp, ?_⟩
  simp [Instr.lookup, run_underlying Tryz.underlying55, MapKept.run_getObj_map hb, hc, hf, Result.andThen, hv]
theorem run_lookN {w : World} (s : Sg) (hs : SgOk s) : (Instr.lookup 55 (.map none) (sgV s) false).run Tryz.prog w = .ok (.pointer none) w := by
 obtain ⟨l, hl⟩ := sg_key hs
 have hc := fun b => sgLaw.check w b hl
 have hz : (zeroValue 83).run Tryz.prog w = .ok (.pointer none) w := by kernel_rfl
 rcases sgLaw.find w hl [] (by simp) with ⟨hf, _⟩ | ⟨j, x, _, hj, _⟩
 ·simp [Instr.lookup, run_underlying Tryz.underlying55, hc, hf, Result.andThen, hz]
 ·simp at hj
theorem run_putG {w : World} {r : Nat} {L : List (Sg × Value)} (h : MapG w r L) (s : Sg) (hs : SgOk s) (hn : ∀ v, (s, v) ∉ L) (v : Value) :
  ∃ w', (Instr.mapUpdate 55 (.map (some r)) (sgV s) v).run Tryz.prog w = .ok () w' ∧ MapG w' r (L ++ [(s, v)]) ∧ w'.heap.size = w.heap.size ∧ w'.os = w.os ∧ w'.tape = w.tape ∧ w'.output = w.output ∧ (∀ b, b ≠ r → w'.heap[b]? = w.heap[b]?) := by
 obtain ⟨es, clk, hb, hes, hst, hok⟩ := h
 obtain ⟨l, hl⟩ := sg_key hs
 have hc := fun b => sgLaw.check w b hl
 have hall : ∀ x ∈ es.toList, ∃ l, keyOf Tryz.prog 85 x.key = some l := fun x hx => by
  obtain ⟨p, hp, hk, _⟩ := MapG.entry hes hx
  rw [hk]; exact sg_key (hok _ hp)
 rcases sgLaw.find w hl es.toList hall with ⟨hf, _⟩ | ⟨j, x, hf, hj, hx⟩
 ·refine ⟨{ w with heap := w.heap.setIfInBounds r (.map (es.push { key := sgV s, val := v, born := clk }) (clk + 1)) }, ?_, ⟨_, _, (MapKept.heap_set hb).1, ?_, hst.push _ _, fun y hy => ?_⟩, by simp, rfl, rfl, rfl, fun b hne => (MapKept.heap_set hb).2 b hne⟩
  ·simp [Instr.mapUpdate, run_underlying Tryz.underlying55, MapKept.run_getObj_map hb, hc, hf, MapKept.run_setObj_map _ hb, Result.andThen]
  ·rw [Array.toList_push, List.map_append, hes, List.map_append]
   simp
  ·rcases List.mem_append.1 hy with hy | hy
   ·exact hok y hy
   ·have e : y = (s, v) := by simpa using hy
    rw [e]; exact hs
 ·obtain ⟨p, hp, hk, hv⟩ := MapG.entry hes (List.mem_of_getElem? hj)
  have e : p.1 = s := sgV_inj (hk.symm.trans hx)
  exact absurd (by rw [← e]; exact hp) (hn p.2)
def RangeG (w : World) (b r : Nat) (L rem : List (Sg × Value)) : Prop :=
 ∃ es clk since seen c0, w.heap[b]? = some (.map es clk) ∧ es.toList.map (fun e => (e.key, e.val)) = L.map (fun p => (sgV p.1, p.2)) ∧ Stamps es clk ∧ (∀ p ∈ L, SgOk p.1) ∧
  w.heap[r]? = some (.mapIter (some b) since seen c0) ∧ (∀ x ∈ es.toList, x.born < since) ∧ since ≤ c0 ∧ since ≤ clk ∧
  (leftOf es seen).toList.map (fun e => (e.key, e.val)) = rem.map (fun p => (sgV p.1, p.2))
def leftG (w : World) (b r : Nat) : Nat :=
 match w.heap[b]?, w.heap[r]? with
 | some (.map es _), some (.mapIter _ _ seen _) => (leftOf es seen).size
 | _, _ => 0
theorem RangeG.left {w : World} {b r : Nat} {L rem : List (Sg × Value)} (h : RangeG w b r L rem) : leftG w b r = rem.length := by
 obtain ⟨es, clk, since, seen, c0, hb, _, _, _, hr, _, _, _, hl⟩ := h
 have := congrArg List.length hl
 simp only [List.length_map, Array.length_toList] at this
 simp only [leftG, hb, hr]
 exact this
theorem RangeG.map {w : World} {b r : Nat} {L rem : List (Sg × Value)} (h : RangeG w b r L rem) : MapG w b L := by
 obtain ⟨es, clk, since, seen, c0, hb, he, hs, ho, _⟩ := h
 exact ⟨es, clk, hb, he, hs, ho⟩
theorem RangeG.ne {w : World} {b r : Nat} {L rem : List (Sg × Value)} (h : RangeG w b r L rem) : r ≠ b := by
 obtain ⟨es, clk, since, seen, c0, hb, he, hs, _, hr, _⟩ := h
 intro e
 rw [e, hb] at hr
 cases hr
theorem RangeG.lt {w : World} {b r : Nat} {L rem : List (Sg × Value)} (h : RangeG w b r L rem) : r < w.heap.size := by
 obtain ⟨es, clk, since, seen, c0, hb, he, hs, _, hr, _⟩ := h
 exact (Array.getElem?_eq_some_iff.1 hr).1
theorem RangeG.kept {w w' : World} {b r : Nat} {L rem : List (Sg × Value)} (h : RangeG w b r L rem) (hb' : w'.heap[b]? = w.heap[b]?) (hr' : w'.heap[r]? = w.heap[r]?) : RangeG w' b r L rem := by
 obtain ⟨es, clk, since, seen, c0, hb, he, hs, ho, hr, rest⟩ := h
 exact ⟨es, clk, since, seen, c0, hb'.trans hb, he, hs, ho, hr'.trans hr, rest⟩
theorem RangeG.below {w w' : World} {b r B : Nat} {L rem : List (Sg × Value)} (h : RangeG w b r L rem) (hb : Below B w w') (h1 : b < B) (h2 : r < B) : RangeG w' b r L rem := h.kept (hb.block b h1) (hb.block r h2)
theorem MapG.range {P : Program} {w : World} {T kt et : TypeId} {b : Nat} {L : List (Sg × Value)} (h : MapG w b L) (hm : P.underlying T = some (.map kt et)) :
  ∃ o, (Instr.range T (.map (some b))).run P w = .ok (.pointer (some ⟨w.heap.size, 0, none⟩)) (w.alloc o) ∧ RangeG (w.alloc o) b w.heap.size L L := by
 have hlt := h.lt
 obtain ⟨es, clk, hb, he, hs, ho⟩ := h
 refine ⟨_, run_range_map w T kt et b es clk hm hb, es, clk, clk, #[], clk, (Below.heap_alloc _ _ _ hlt).trans hb, he, hs, ho, heap_alloc_new w _, hs.1, Nat.le_refl _, Nat.le_refl _, ?_⟩
 rw [← he]
 congr 1
 simp [leftOf]
theorem left_outG (seen : Array Nat) (e : MapEntry) : ∀ (l : List MapEntry) (R : List (Sg × Value)), (l.map (·.born)).Nodup → e ∈ l → seen.contains e.born = false → (l.filter fun x => !seen.contains x.born).map (fun e => (e.key, e.val)) = R.map (fun p => (sgV p.1, p.2)) →
  ∃ p R', e.key = sgV p.1 ∧ e.val = p.2 ∧ R.Perm (p :: R') ∧ (l.filter fun x => !(seen.push e.born).contains x.born).map (fun e => (e.key, e.val)) = R'.map (fun p => (sgV p.1, p.2))
 | [], R, _, he, _, _ => by cases he
 | a :: l, R, hn, he, hs, hR => by
  simp only [List.map_cons, List.nodup_cons] at hn
  obtain ⟨hn1, hn2⟩ := hn
  by_cases ha : a.born = e.born
  ·have hae : e = a := by
    rcases List.mem_cons.1 he with h | h
    ·exact h
    ·exact absurd (List.mem_map.2 ⟨e, h, ha.symm⟩) hn1
   subst hae
   have hs' : (!seen.contains e.born) = true := by rw [hs]; rfl
   rw [List.filter_cons_of_pos (by simpa using hs')] at hR
   match R, hR with
   | p :: R', hR =>
    simp only [List.map_cons, List.cons.injEq, Prod.mk.injEq] at hR
    refine ⟨p, R', hR.1.1, hR.1.2, List.Perm.refl _, ?_⟩
    rw [List.filter_cons_of_neg (by simp), ← hR.2]
    congr 1
    refine List.filter_congr fun x hx => ?_
    have hne : x.born ≠ e.born := fun h => hn1 (List.mem_map.2 ⟨x, hx, h⟩)
    simp [hne]
  ·have he' : e ∈ l := by
    rcases List.mem_cons.1 he with h | h
    ·exact absurd (by rw [h]) ha
    ·exact h
   by_cases hsa : seen.contains a.born = true
   ·rw [List.filter_cons_of_neg (by simpa using hsa)] at hR
    obtain ⟨p, R', h1, h2, h3, h4⟩ := left_outG seen e l R hn2 he' hs hR
    refine ⟨p, R', h1, h2, h3, ?_⟩
    rw [List.filter_cons_of_neg (by simp at hsa ⊢; exact fun h => absurd hsa h), h4]
   ·have hsa' : seen.contains a.born = false := by simpa using hsa
    rw [List.filter_cons_of_pos (by simpa using hsa')] at hR
    match R, hR with
    | q :: R0, hR =>
     simp only [List.map_cons, List.cons.injEq] at hR
     obtain ⟨p, R', h1, h2, h3, h4⟩ := left_outG seen e l R0 hn2 he' hs hR.2
     refine ⟨p, q :: R', h1, h2, (List.Perm.cons q h3).trans (List.Perm.swap p q R'), ?_⟩
     rw [List.filter_cons_of_pos (by simp at hsa' ⊢; exact ⟨hsa', ha⟩), List.map_cons, List.map_cons, h4, hR.1]
theorem RangeG.next {P : Program} {w : World} {b r : Nat} {L rem : List (Sg × Value)} (h : RangeG w b r L rem) (ty : TypeId) :
  (rem = [] ∧ (Instr.next (.pointer (some ⟨r, 0, none⟩)) false ty).run P w = .ok (.tuple #[.bool false]) w) ∨
  ∃ p rem' w', rem.Perm (p :: rem') ∧ (Instr.next (.pointer (some ⟨r, 0, none⟩)) false ty).run P w = .ok (.tuple #[.bool true, sgV p.1, p.2]) w' ∧ RangeG w' b r L rem' ∧
   w'.heap.size = w.heap.size ∧ w'.os = w.os ∧ w'.tape = w.tape ∧ w'.output = w.output ∧ (∀ j, j ≠ r → w'.heap[j]? = w.heap[j]?) ∧ (Instr.entry (.pointer (some ⟨r, 0, none⟩))).run P w' = .ok (.tuple #[sgV p.1, p.2]) w' := by
 have hne := h.ne
 obtain ⟨es, clk, since, seen, c0, hb, he, hs, ho, hr, hold, hsc, hsk, hl⟩ := h
 rcases run_next_at (P := P) w ty r b since c0 seen es clk hr hb hold hsc with ⟨h0, hrun⟩ | ⟨e, hem, w1, hal, hrun⟩
 ·refine Or.inl ⟨?_, hrun⟩
  have := congrArg List.length hl
  simp only [List.length_map, Array.length_toList, h0] at this
  exact List.length_eq_zero_iff.1 this.symm
 ·obtain ⟨hm1, hm2⟩ := mem_left hem
  have hl' : (es.toList.filter fun x => !seen.contains x.born).map (fun e => (e.key, e.val)) = rem.map (fun p => (sgV p.1, p.2)) := by
   rw [← hl]; unfold leftOf; rw [Array.toList_filter]
  obtain ⟨p, rem', hk, hv, hperm, hrem⟩ := left_outG seen e es.toList rem hs.2 hm1 hm2 hl'
  have hr1 : w1.heap[r]? = some (.mapIter (some b) since seen c0) := by rcases hal with rfl | rfl <;> exact hr
  have hb1 : w1.heap[b]? = some (.map es clk) := by rcases hal with rfl | rfl <;> exact hb
  have hset := MapKept.heap_set (o' := .mapIter (some b) since (seen.push e.born) clk) hr1
  have hb' : (setBlock w1 r (.mapIter (some b) since (seen.push e.born) clk)).heap[b]? = some (.map es clk) := (hset.2 b (fun e1 => hne e1.symm)).trans hb1
  rw [hk, hv] at hrun
  refine Or.inr ⟨p, rem', _, hperm, hrun, ⟨es, clk, since, seen.push e.born, clk, hb', he, hs, ho, hset.1, hold, hsk, hsk, ?_⟩, ?_, ?_, ?_, ?_, ?_, ?_⟩
  ·rw [← hrem]; unfold leftOf; rw [Array.toList_filter]
  ·rcases hal with rfl | rfl <;> simp [setBlock]
  ·rcases hal with rfl | rfl <;> rfl
  ·rcases hal with rfl | rfl <;> rfl
  ·rcases hal with rfl | rfl <;> rfl
  ·intro j hj
   have := hset.2 j hj
   rcases hal with rfl | rfl <;> exact this
  ·have := run_entry_at (P := P) _ r b since seen es clk e hset.1 hb' hm1 hs.2
   rw [hk, hv] at this
   exact this
def emB (s : Sg) : Bool := s.1.toList.isEmpty
theorem signOf_any (s : ByteArray) (l : List Tm) (a : Option Addr) (c : Nat) (w : World) :
  Calls Tryz.prog 44 #[.agg #[.string s, .slice a l.length c]] w fun e w' => e = .returned (sgV (sgT ⟨s, l⟩)) ∧ Below w.heap.size w w' := by
 by_cases hv : varB s = true
 ·have hg : sgT ⟨s, l⟩ = vsg := sgT_var (t := ⟨s, l⟩) hv
  rw [hg]
  clear hg
  go_enter Tryz.func44, Tryz.ntmps44
  go_wp2_with fail
  refine (isVariable_all s _).mono ?_
  rintro e w1 ⟨rfl, hw1⟩
  rw [hv, hw1]
  clear hw1
  have B2 : Blk ((w.alloc (.cells #[.string s, .slice a l.length c] 26)).alloc (.cells #[.string ⟨#[]⟩, .int .i64 0] 85)) (w.heap.size + 1) #[.string ⟨#[]⟩, .int .i64 0] 85 := by simpa using Blk.new (w.alloc (.cells #[.string s, .slice a l.length c] 26)) #[.string ⟨#[]⟩, .int .i64 0] 85
  have q0 := B2.c0
  have q1 := B2.c1
  clear B2
  go_wp2_with fail
  refine bodyPost_ret (v := sgV vsg) (by simp [results, Tryz.results44, go_sem, q0, q1, sgV, vsg]) rfl ?_
  exact ⟨rfl, ((Below.refl _ _).alloc (Nat.le_refl _) _).alloc (by simp) _⟩
 ·have hg : sgT ⟨s, l⟩ = (s, l.length) := sgT_sym (t := ⟨s, l⟩) (by simpa using hv)
  rw [hg]
  have hv' : varB s = false := by simpa using hv
  clear hg hv
  go_enter Tryz.func44, Tryz.ntmps44
  go_wp2_with fail
  refine (isVariable_all s _).mono ?_
  rintro e w1 ⟨rfl, hw1⟩
  rw [hv', hw1]
  clear hw1
  have B2 : Blk ((w.alloc (.cells #[.string s, .slice a l.length c] 26)).alloc (.cells #[.string s, .int .i64 (l.length : Int)] 85)) (w.heap.size + 1) #[.string s, .int .i64 (l.length : Int)] 85 := by simpa using Blk.new (w.alloc (.cells #[.string s, .slice a l.length c] 26)) #[.string s, .int .i64 (l.length : Int)] 85
  have q0 := B2.c0
  have q1 := B2.c1
  clear B2
  go_wp2_with fail
  refine bodyPost_ret (v := sgV (s, l.length)) (by simp [results, Tryz.results44, go_sem, q0, q1, sgV]) rfl ?_
  exact ⟨rfl, ((Below.refl _ _).alloc (Nat.le_refl _) _).alloc (by simp) _⟩
theorem signIsVar_any (s : Sg) (w : World) : Calls Tryz.prog 67 #[sgV s] w fun e w' => e = .returned (.bool (emB s)) ∧ Below w.heap.size w w' := by
 obtain ⟨n, k⟩ := s
 unfold sgV emB
 go_enter Tryz.func67, Tryz.ntmps67
 go_wp2_with fail
 go_ret
 exact ⟨rfl, (Below.refl _ _).alloc (Nat.le_refl _) _⟩
def spX : List (Sg × Nat) → List Value
 | [] => []
 | p :: r => .string p.1.1 :: .int .i64 (p.1.2 : Int) :: .int .i64 (p.2 : Int) :: spX r
theorem spX_append (a b : List (Sg × Nat)) : spX (a ++ b) = spX a ++ spX b := by
 induction a with
 | nil => rfl
 | cons p r ih => simp [spX, ih]
theorem spX_length (a : List (Sg × Nat)) : (spX a).length = a.length * 3 := by
 induction a with
 | nil => rfl
 | cons p r ih => simp [spX, ih]; omega
theorem spX_set (a r : List (Sg × Nat)) (p : Sg) (x y : Nat) : (spX (a ++ (p, x) :: r)).set (a.length * 3 + 2) (.int .i64 (y : Int)) = spX (a ++ (p, y) :: r) := by
 rw [spX_append, spX_append, List.set_append_right _ _ (by rw [spX_length]; omega), spX_length, show a.length * 3 + 2 - a.length * 3 = 2 by omega]
 rfl
theorem spX_get {a : List (Sg × Nat)} {i : Nat} {p : Sg × Nat} (h : a[i]? = some p) : (spX a)[i * 3]? = some (.string p.1.1) ∧ (spX a)[i * 3 + 1]? = some (.int .i64 (p.1.2 : Int)) ∧ (spX a)[i * 3 + 2]? = some (.int .i64 (p.2 : Int)) := by
 induction a generalizing i with
 | nil => simp at h
 | cons q r ih =>
  cases i with
  | zero => simp at h; subst h; simp [spX]
  | succ i =>
   simp at h
   obtain ⟨h1, h2, h3⟩ := ih h
   have e : (i + 1) * 3 = i * 3 + 3 := by omega
   refine ⟨?_, ?_, ?_⟩
   ·rw [e]; simpa [spX] using h1
   ·rw [e]; simpa [spX] using h2
   ·rw [e]; simpa [spX] using h3
theorem Tryz.infoSpot : (Tryz.prog.info? 87).map (fun i => (i.zero, i.size, i.bytes)) = some (some (.agg #[.string ByteArray.empty, .int .i64 0, .int .i64 0]), 3, 32) := by kernel_rfl
theorem own_sliceI {w : World} {N T s n : Nat} {v : Value} {xs : List Value} (h : w.ownsRow N T s v n xs) : ∃ a c, v = .slice a n c := by
 rcases h.2 with ⟨rfl, rfl⟩ | ⟨g, cap, cur, rfl, _⟩
 ·exact ⟨none, 0, rfl⟩
 ·exact ⟨_, cap, rfl⟩
def SpPost (N : Nat) (sp : List (Sg × Nat)) (t : Tm) (v : Value) (w : World) (e : Ending) (w' : World) : Prop :=
 ∃ g cap, e = .returned (.slice (some ⟨g, 0, none⟩) (sp.length + sizeL [t]) cap) ∧ w'.ownsRow N 87 3 (.slice (some ⟨g, 0, none⟩) (sp.length + sizeL [t]) cap) (sp.length + sizeL [t]) (spX (sp ++ spL sp.length [t])) ∧
  ExQ (fun b => v.ownBlock = some b) w w' ∧ (v.ownBlock = some g ∨ w.heap.size ≤ g)
def SpI (N : Nat) (sp : List (Sg × Nat)) (t : Tm) (v : Value) (w : World) (q i : Value) (wr : World) : Prop :=
 ∃ k g cap : Nat, k ≤ t.args.length ∧ i = .int .i64 (k : Int) ∧ q = .slice (some ⟨g, 0, none⟩) (sp.length + 1 + sizeL (t.args.take k)) cap ∧ wr.ownsRow N 87 3 q (sp.length + 1 + sizeL (t.args.take k)) (spX (sp ++ (sgT t, 0) :: spL (sp.length + 1) (t.args.take k))) ∧
  ExQ (fun b => v.ownBlock = some b) w wr ∧ (v.ownBlock = some g ∨ w.heap.size ≤ g)
theorem app_spot {w : World} {N : Nat} {v : Value} {sp : List (Sg × Nat)} (ho : w.ownsRow N 87 3 v sp.length (spX sp)) (hN : N ≤ w.heap.size) (hsm : sp.length ≤ 1000000) (s : Sg) (B : Nat) (hB : Blk w B #[.string s.1, .int .i64 (s.2 : Int), .int .i64 0] 87) :
  ∃ g cap w', (Builtin.append_ #[62, 62] 62 #[v, .slice (some ⟨B, 0, none⟩) 1 1]).run Tryz.prog w = .ok (.slice (some ⟨g, 0, none⟩) (sp.length + 1) cap) w' ∧
   w'.ownsRow N 87 3 (.slice (some ⟨g, 0, none⟩) (sp.length + 1) cap) (sp.length + 1) (spX (sp ++ [(s, 0)])) ∧ w.grownBy w' v.ownBlock ∧ (v.ownBlock = some g ∨ g = w.heap.size) ∧ g < w'.heap.size := by
 obtain ⟨i0, hi, hz0, hz1, hz2⟩ := info_parts Tryz.infoSpot
 obtain ⟨g, cap, w', h1, h2, h3, h4, h5⟩ := run_append_lies (P := Tryz.prog) w 62 62 N 87 i0 _ 3 32 Tryz.underlying62 hi hz0 hz1 hz2 rfl (by decide) v sp.length (spX sp) ho
  ⟨B, 0, none⟩ 1 1 [.string s.1, .int .i64 (s.2 : Int), .int .i64 0] rfl (World.news_of_block hB) (by simp [Value.oneCell']) (by omega) (by unfold maxLen; omega) (by omega) hN _ rfl
 refine ⟨g, cap, w', h1, ?_, h3, h4, h5⟩
 rw [spX_append]
 exact h2
set_option maxHeartbeats 2000000 in
theorem spots_any (t : Tm) : ∀ (sp : List (Sg × Nat)) (v tv : Value) (w : World) (X : Nat → Prop) (N : Nat), TV w X tv t → sp.length + sizeL [t] ≤ 100000 → N ≤ w.heap.size → (∀ b, X b → b < N) → w.ownsRow N 87 3 v sp.length (spX sp) →
  Calls Tryz.prog 26 #[v, tv] w fun e w' => SpPost N sp t v w e w' := by
 induction t using Tm.ind with
 | h s l ih =>
  intro sp v tv w X N htv hsm hN hX ho
  obtain ⟨a, c, rfl, hs⟩ := htv
  have hll := hs.1
  have IH := hide ih
  have HS := hide hs
  have HO := hide ho
  have hz : sizeL [(⟨s, l⟩ : Tm)] = 1 + sizeL l := by simp [sizeL]
  have HZ := hide hz
  rw [hz] at hsm
  obtain ⟨va, vc, rfl⟩ := own_sliceI ho
  have hspl : (sp.length : Int) ≤ 100000 := by omega
  clear ih hs ho hz
  go_enter Tryz.func26, Tryz.ntmps26
  go_wp2_with fail
  refine (signOf_any s l a c _).mono ?_
  rintro e w1 ⟨rfl, hb1⟩
  have HB1 : Hid (Below w.heap.size w w1) := ((Below.refl _ _).alloc (Nat.le_refl _) _).trans (hb1.mono (by simp))
  obtain ⟨q1, q2, hq⟩ : ∃ q1 q2, sgT ⟨s, l⟩ = (q1, q2) := ⟨_, _, rfl⟩
  have HQ := hide hq
  rw [hq]
  unfold sgV
  have HO2 : Hid ((w1.alloc (.cells #[.string q1, .int .i64 (q2 : Int), .int .i64 0] 87)).ownsRow N 87 3 (.slice va sp.length vc) sp.length (spX sp)) := (HO.out.kept (row := none) ⟨HB1.out.os, HB1.out.tape, HB1.out.output, HB1.out.size, fun j hj _ => HB1.out.block j hj⟩ (by cases va <;> simp [Value.ownBlock])).alloc _
  have hz1 : w.heap.size ≤ w1.heap.size := HB1.out.size
  obtain ⟨g, cap, w3, hr3, ho3, hg3, hat3, hlt3⟩ := app_spot HO2.out (by simp; omega) (by omega) (q1, q2) w1.heap.size (Blk.new _ _ _)
  have HA := hide hr3
  have HO3 : Hid (w3.ownsRow N 87 3 (.slice (some ⟨g, 0, none⟩) (sp.length + 1) cap) (sp.length + 1) (spX (sp ++ [(sgT ⟨s, l⟩, 0)]))) := by rw [HQ.out]; exact ho3
  have HE3 : Hid (ExQ (fun b => (Value.slice va sp.length vc).ownBlock = some b) w w3) := ((ExQ.ofBelow HB1.out).alloc _).grown hg3 fun k hk => Or.inr hk
  have hvl : ∀ b, (Value.slice va sp.length vc).ownBlock = some b → b < w.heap.size := fun b hb => (HO.out.lt b hb).2
  have c1 : w3.cell? ⟨w.heap.size, 1, none⟩ = some (.slice a l.length c) := by
   have h1 : Blk (w.alloc (.cells #[.string s, .slice a l.length c] 26)) w.heap.size #[.string s, .slice a l.length c] 26 := Blk.new _ _ _
   have h2 := ((h1.below hb1 (by simp)).alloc (.cells #[.string q1, .int .i64 (q2 : Int), .int .i64 0] 87)).grown hg3 (fun e => by have := hvl _ e.symm; omega)
   exact h2.c1
  have HG3 : Hid ((Value.slice va sp.length vc).ownBlock = some g ∨ w.heap.size ≤ g) := by
   rcases hat3 with h | h
   ·exact Or.inl h
   ·exact Or.inr (by rw [h]; simp; omega)
  clear hr3 ho3 hg3 hat3 hlt3 hb1 hq hvl
  go_wp2_with (at_builtin; refine wpList_append_eq rfl _ _ _ _ rfl rfl rfl HA.out ?_)
  clear c1 hz1
  go_loopw [0, 19] (fun q i wr => SpI N sp ⟨s, l⟩ (.slice va sp.length vc) w q i wr) (fun q i wr => l.length - (intOf i).toNat)
  case atStart => exact ⟨0, g, cap, Nat.zero_le _, rfl, by simp [sizeL], by simpa [spL, sizeL] using HO3.out, HE3.out, HG3.out⟩
  case round =>
   clear HA HO3 HE3 HG3
   obtain ⟨k, g2, cap2, hk, rfl, rfl, ho, he, hg⟩ := hrel
   have hk' : k ≤ l.length := hk
   have HOW : Hid (∀ b, (Value.slice va sp.length vc).ownBlock = some b → N ≤ b) := fun b hb => (HO.out.lt b hb).1
   have HSR : Hid (Sl wr X a l) := HS.out.exq he fun b hb e => by have := HOW.out b e; have := hX b hb; omega
   have HO4 := hide ho
   have HE4 := hide he
   have HG4 := hide hg
   have hzr : w.heap.size ≤ wr.heap.size := he.size
   have hgl := ho.lt g2 rfl
   clear ho he hg hk
   by_cases hlt : k < l.length
   ·obtain ⟨b, o, a', c', rfl, d0, d1, hx⟩ := HSR.out.get (Below.refl wr.heap.size wr) (fun _ _ h => h) k hlt
    have hki : (k : Int) < (l.length : Int) := by omega
    have hle : sizeL (l.take k) + sizeL [l[k]] ≤ sizeL l := by rw [← sizeL_take l k hlt]; exact sizeL_take_le l (k + 1)
    obtain ⟨z0, hz0⟩ : ∃ z0, z0 = sizeL (l.take k) := ⟨_, rfl⟩
    obtain ⟨sq, hsq⟩ : ∃ sq, sq = sp ++ (sgT ⟨s, l⟩, 0) :: spL (sp.length + 1) (l.take k) := ⟨_, rfl⟩
    have hql : sq.length = sp.length + 1 + z0 := by rw [hsq, hz0]; simp [spL_length]; omega
    have HSQ := hide hsq
    have HZ0 := hide hz0
    have HQL := hide hql
    have HO5 : Hid (wr.ownsRow N 87 3 (.slice (some ⟨g2, 0, none⟩) sq.length cap2) sq.length (spX sq)) := by unfold Hid; rw [hql, hsq, hz0]; exact HO4.out
    have hle2 : sq.length + sizeL [l[k]] ≤ 100000 := by rw [hql]; rw [hz0]; omega
    rw [show sp.length + 1 + sizeL (List.take k (Tm.mk s l).args) = sq.length by rw [hql, hz0]]
    have HTV : Hid (TV (wr.alloc (.cells #[.string l[k].name, .slice a' l[k].args.length c'] 26)) X (.agg #[.string l[k].name, .slice a' l[k].args.length c']) l[k]) := by
     have h1 : TV wr X (.agg #[.string l[k].name, .slice a' l[k].args.length c']) l[k] := hx
     exact h1.alloc _
    have CL := hide (IH.out l[k] (List.getElem_mem hlt) sq (.slice (some ⟨g2, 0, none⟩) sq.length cap2) _ _ X N HTV.out hle2 (by simp; omega) hX (HO5.out.alloc _))
    have HSZ : Hid (sizeL (l.take (k + 1)) = z0 + sizeL [l[k]]) := by unfold Hid; rw [hz0]; exact sizeL_take l k hlt
    have HSP : Hid (sq ++ spL sq.length [l[k]] = sp ++ (sgT ⟨s, l⟩, 0) :: spL (sp.length + 1) (l.take (k + 1))) := by
     unfold Hid
     rw [List.take_succ_eq_append_getElem hlt, spL_append, hql, hz0, hsq]
     simp
    clear hx hle hle2 hz0 hsq hql HTV
    go_wp2_with fail
    refine CL.out.mono ?_
    rintro e w5 ⟨g5, cap5, rfl, ho5, he5, hg5⟩
    have HO6 : Hid (w5.ownsRow N 87 3 (.slice (some ⟨g5, 0, none⟩) (sq.length + sizeL [l[k]]) cap5) (sq.length + sizeL [l[k]]) (spX (sp ++ (sgT ⟨s, l⟩, 0) :: spL (sp.length + 1) (l.take (k + 1))))) := by rw [HSP.out] at ho5; exact ho5
    have HE6 : Hid (ExQ (fun b => (Value.slice va sp.length vc).ownBlock = some b) w w5) := by
     refine (HE4.out.alloc _).transN he5 fun i hi hlt => ?_
     have e : i = g2 := by have h1 : some g2 = some i := hi; exact (Option.some.inj h1).symm
     subst e
     rcases HG4.out with h | h
     ·exact h
     ·omega
    have HG6 : Hid ((Value.slice va sp.length vc).ownBlock = some g5 ∨ w.heap.size ≤ g5) := by
     rcases hg5 with h | h
     ·have e : g2 = g5 := by have h1 : some g2 = some g5 := h; exact Option.some.inj h1
      rw [← e]; exact HG4.out
     ·exact Or.inr (by have h9 : wr.heap.size + 1 ≤ g5 := (by simpa using h); omega)
    clear ho5 he5 hg5 CL
    go_wp2_with fail
    go_roundw
    case rel =>
     refine ⟨k + 1, g5, cap5, hlt, by go_num, ?_, ?_, HE6.out, HG6.out⟩
     ·rw [HQL.out]; show _ = Value.slice _ (sp.length + 1 + sizeL (l.take (k + 1))) _; rw [HSZ.out]; simp [Nat.add_assoc]
     ·have h := HO6.out
      rw [HQL.out] at h ⊢
      show World.ownsRow _ _ _ _ _ (sp.length + 1 + sizeL (l.take (k + 1))) (spX (sp ++ (sgT ⟨s, l⟩, 0) :: spL (sp.length + 1) (l.take (k + 1))))
      rw [HSZ.out]
      simpa [Nat.add_assoc] using h
    case measure => simp [intOf]; omega
   ·have hki : ¬ (k : Int) < (l.length : Int) := by omega
    have htk : List.take k (Tm.mk s l).args = l := List.take_of_length_le (by show l.length ≤ k; omega)
    rw [htk] at HO4
    rw [htk]
    obtain ⟨nn, hnn⟩ : ∃ nn, nn = sp.length + 1 + sizeL l := ⟨_, rfl⟩
    have HNN := hide hnn
    rw [← hnn]
    rw [← hnn] at HO4
    have hin : (sp.length : Int) < (nn : Int) := by omega
    have q2 : wr.cell? ⟨g2, sp.length * 3 + 2, none⟩ = some (.int .i64 0) := by
     rw [HO4.out.cellAt _ (by omega)]
     have h1 := (spX_get (a := sp ++ (sgT ⟨s, l⟩, 0) :: spL (sp.length + 1) l) (i := sp.length) (p := (sgT ⟨s, l⟩, 0)) (by simp)).2.2
     exact h1
    have f2 := HO4.out.frozenAt (sp.length * 3 + 2)
    have HST := hide (HO4.out.stored (sp.length * 3 + 2) (.int .i64 (nn : Int)))
    clear htk hnn
    go_wp2_with fail
    go_ret
    refine ⟨g2, cap2, ?_, ?_, ?_, HG4.out⟩
    ·rw [HZ.out, HNN.out, Nat.add_assoc]; rfl
    ·have h := HST.out.1
     rw [spX_set] at h
     rw [HZ.out, show sp.length + (1 + sizeL l) = nn by rw [HNN.out]; omega, spL_cons]
     show World.ownsRow _ _ _ _ _ _ (spX (sp ++ (sgT ⟨s, l⟩, sp.length + 1 + sizeL l) :: (spL (sp.length + 1) l ++ spL (sp.length + 1 + sizeL l) [])))
     rw [spL_nil, List.append_nil, ← HNN.out]
     exact h
    ·refine ⟨HE4.out.os, HE4.out.tape, HE4.out.output, by simpa [World.setCell] using HE4.out.size, fun b hb hn => ?_⟩
     refine (Below.heap_setCell _ _ _ _ ?_).trans (HE4.out.block b hb hn)
     show b ≠ g2
     rintro rfl
     rcases HG4.out with h | h
     ·exact hn h
     ·omega
def nuV (l : List Nat) : List Value := l.map fun n : Nat => Value.int .i64 (n : Int)
theorem nuV_length (l : List Nat) : (nuV l).length = l.length := by simp [nuV]
def ofN (u : List Sg) : Nat := if u = [] then 1 else 0
def NdB (w : World) (u : List Sg) (b : Nat) (tv mv nv : Value) : Prop :=
 if u = [] then Blk w b #[tv, mv, nv] 59 else Blk w b #[mv, nv] 57
theorem NdB.lt {w : World} {u : List Sg} {b : Nat} {tv mv nv : Value} (h : NdB w u b tv mv nv) : b < w.heap.size := by
 unfold NdB at h
 split at h <;> exact Blk.lt h
theorem NdB.kept {w w' : World} {u : List Sg} {b : Nat} {tv mv nv : Value} (h : NdB w u b tv mv nv) (hk : w'.heap[b]? = w.heap[b]?) : NdB w' u b tv mv nv := by
 unfold NdB at *
 split
 ·rename_i e; rw [if_pos e] at h; unfold Blk at *; rw [hk]; exact h
 ·rename_i e; rw [if_neg e] at h; unfold Blk at *; rw [hk]; exact h
theorem NdB.c0 {w : World} {u : List Sg} {b : Nat} {tv mv nv : Value} (h : NdB w u b tv mv nv) : w.cell? ⟨b, ofN u, none⟩ = some mv := by
 unfold NdB at h
 unfold ofN
 split at h
 ·rename_i e; rw [if_pos e]; exact h.c1
 ·rename_i e; rw [if_neg e]; exact h.c0
theorem NdB.c1 {w : World} {u : List Sg} {b : Nat} {tv mv nv : Value} (h : NdB w u b tv mv nv) : w.cell? ⟨b, ofN u + 1, none⟩ = some nv := by
 unfold NdB at h
 unfold ofN
 split at h
 ·rename_i e; rw [if_pos e]; exact h.c2
 ·rename_i e; rw [if_neg e]; exact h.c1
theorem NdB.fz {w : World} {u : List Sg} {b : Nat} {tv mv nv : Value} (h : NdB w u b tv mv nv) (i : Nat) : w.frozen? ⟨b, i, none⟩ = false := by
 unfold NdB at h
 split at h <;> exact Blk.frozen h i
theorem NdB.set0 {w : World} {u : List Sg} {b : Nat} {tv mv nv : Value} (h : NdB w u b tv mv nv) (v : Value) : NdB (w.setCell ⟨b, ofN u, none⟩ v) u b tv v nv := by
 unfold NdB at *
 unfold ofN
 split
 ·rename_i e; rw [if_pos e] at h; simpa using h.set 1 v
 ·rename_i e; rw [if_neg e] at h; simpa using h.set 0 v
theorem NdB.set1 {w : World} {u : List Sg} {b : Nat} {tv mv nv : Value} (h : NdB w u b tv mv nv) (v : Value) : NdB (w.setCell ⟨b, ofN u + 1, none⟩ v) u b tv mv v := by
 unfold NdB at *
 unfold ofN
 split
 ·rename_i e; rw [if_pos e] at h; simpa using h.set 2 v
 ·rename_i e; rw [if_neg e] at h; simpa using h.set 1 v
structure Lay where
 ad : List Sg → Nat
 mp : List Sg → Option Nat
 nv : List Sg → Value
def OwnT (A : List Sg → Prop) (y : Lay) (b : Nat) : Prop := ∃ u, A u ∧ (y.ad u = b ∨ y.mp u = some b ∨ (y.nv u).ownBlock = some b)
structure Tri (w : World) (N : Nat) (tv : Value) (A : List Sg → Prop) (nm : List Sg → List Nat) (y : Lay) : Prop where
 root : A []
 up : ∀ {u s}, A (u ++ [s]) → A u
 node : ∀ {u}, A u → NdB w u (y.ad u) tv (.map (y.mp u)) (y.nv u)
 inj : ∀ {u v}, A u → A v → y.ad u = y.ad v → u = v
 leaf : ∀ {u}, A u → y.mp u = none → ∀ s, ¬ A (u ++ [s])
 kids : ∀ {u b}, A u → y.mp u = some b → ∃ E : List (Sg × Value), MapG w b E ∧ (E.map (·.1)).Nodup ∧ ∀ s v, (s, v) ∈ E ↔ A (u ++ [s]) ∧ v = .pointer (some ⟨y.ad (u ++ [s]), 0, none⟩)
 minj : ∀ {u v b}, A u → A v → y.mp u = some b → y.mp v = some b → u = v
 nums : ∀ {u}, A u → w.ownsRow N 3 1 (y.nv u) (nm u).length (nuV (nm u))
 ninj : ∀ {u v b}, A u → A v → (y.nv u).ownBlock = some b → (y.nv v).ownBlock = some b → u = v
theorem Tri.lt {w : World} {N : Nat} {tv : Value} {A : List Sg → Prop} {nm : List Sg → List Nat} {y : Lay} (h : Tri w N tv A nm y) {b : Nat} (hb : OwnT A y b) : b < w.heap.size := by
 obtain ⟨u, hu, h1 | h1 | h1⟩ := hb
 ·rw [← h1]; exact (h.node hu).lt
 ·obtain ⟨E, hE, _⟩ := h.kids hu h1; exact hE.lt
 ·exact ((h.nums hu).lt b h1).2
theorem Tri.kept {w w' : World} {N : Nat} {tv : Value} {A : List Sg → Prop} {nm : List Sg → List Nat} {y : Lay} (h : Tri w N tv A nm y) (hk : ∀ b, OwnT A y b → w'.heap[b]? = w.heap[b]?) : Tri w' N tv A nm y :=
 ⟨h.root, h.up, fun hu => (h.node hu).kept (hk _ ⟨_, hu, Or.inl rfl⟩), h.inj, h.leaf, fun hu e => by
  obtain ⟨E, hE, h2⟩ := h.kids hu e
  exact ⟨E, hE.kept (hk _ ⟨_, hu, Or.inr (Or.inl e)⟩), h2⟩, h.minj, fun hu => ownsRow_at (h.nums hu) fun g hg => hk _ ⟨_, hu, Or.inr (Or.inr hg)⟩, h.ninj⟩
theorem Tri.exq {w w' : World} {N : Nat} {tv : Value} {A : List Sg → Prop} {nm : List Sg → List Nat} {y : Lay} {Q : Nat → Prop} (h : Tri w N tv A nm y) (he : ExQ Q w w') (hQ : ∀ b, OwnT A y b → ¬ Q b) : Tri w' N tv A nm y :=
 h.kept fun b hb => he.block b (h.lt hb) (hQ b hb)
theorem Tri.later {w w' : World} {N : Nat} {tv : Value} {A : List Sg → Prop} {nm : List Sg → List Nat} {y : Lay} (h : Tri w N tv A nm y) (he : Below w.heap.size w w') : Tri w' N tv A nm y :=
 h.kept fun b hb => he.block b (h.lt hb)
theorem Tri.congr {w : World} {N : Nat} {tv : Value} {A B : List Sg → Prop} {nm nk : List Sg → List Nat} {y : Lay} (h : Tri w N tv A nm y) (hA : ∀ u, B u ↔ A u) (hn : ∀ u, A u → nk u = nm u) : Tri w N tv B nk y :=
 ⟨(hA _).2 h.root, fun hu => (hA _).2 (h.up ((hA _).1 hu)), fun hu => h.node ((hA _).1 hu), fun a b e => h.inj ((hA _).1 a) ((hA _).1 b) e, fun a e s hs => h.leaf ((hA _).1 a) e s ((hA _).1 hs), fun a e => by
  obtain ⟨E, h1, h2, h3⟩ := h.kids ((hA _).1 a) e
  exact ⟨E, h1, h2, fun s v => by rw [h3, hA]⟩, fun a b e1 e2 => h.minj ((hA _).1 a) ((hA _).1 b) e1 e2, fun a => by rw [hn _ ((hA _).1 a)]; exact h.nums ((hA _).1 a), fun a b e1 e2 => h.ninj ((hA _).1 a) ((hA _).1 b) e1 e2⟩
theorem ndb_map {w : World} {u : List Sg} {b : Nat} {tv mv nv : Value} {E : List (Sg × Value)} (h : NdB w u b tv mv nv) (hE : MapG w b E) : False := by
 obtain ⟨es, clk, h1, _⟩ := hE
 unfold NdB at h
 split at h <;> (unfold Blk at h; rw [h] at h1; cases h1)
theorem own_map {w : World} {N T s n b : Nat} {v : Value} {xs : List Value} {E : List (Sg × Value)} (h : w.ownsRow N T s v n xs) (hb : v.ownBlock = some b) (hE : MapG w b E) : False := by
 obtain ⟨es, clk, h1, _⟩ := hE
 rcases h.2 with ⟨rfl, _⟩ | ⟨g, cap, cur, rfl, _, hg, _⟩
 ·cases hb
 ·have e : g = b := by simpa [Value.ownBlock] using hb
  subst e; rw [hg] at h1; cases h1
theorem own_ndb {w : World} {N n b : Nat} {u : List Sg} {v tv mv nv : Value} {xs : List Value} (h : w.ownsRow N 3 1 v n xs) (hb : v.ownBlock = some b) (hn : NdB w u b tv mv nv) : False := by
 rcases h.2 with ⟨rfl, _⟩ | ⟨g, cap, cur, rfl, _, hg, _⟩
 ·cases hb
 ·have e : g = b := by simpa [Value.ownBlock] using hb
  subst e
  unfold NdB Blk at hn
  split at hn
  ·rw [hg] at hn; injection hn with h1; injection h1 with h2 h3; exact absurd h3 (by decide)
  ·rw [hg] at hn; injection hn with h1; injection h1 with h2 h3; exact absurd h3 (by decide)
def Lay.withMap (y : Lay) (p : List Sg) (b : Nat) : Lay := ⟨y.ad, fun u => if u = p then some b else y.mp u, y.nv⟩
theorem Tri.mapNew {w : World} {N : Nat} {tv : Value} {A : List Sg → Prop} {nm : List Sg → List Nat} {y : Lay} {p : List Sg} (h : Tri w N tv A nm y) (hp : A p) (hm : y.mp p = none) :
  Tri ((w.alloc (.map #[] 0)).setCell ⟨y.ad p, ofN p, none⟩ (.map (some w.heap.size))) N tv A nm (y.withMap p w.heap.size) := by
 have h1 : Tri (w.alloc (.map #[] 0)) N tv A nm y := h.later ((Below.refl _ _).alloc (Nat.le_refl _) _)
 have hne : w.heap.size ≠ y.ad p := by have := (h.node hp).lt; omega
 have hk : ∀ b, b ≠ y.ad p → ((w.alloc (.map #[] 0)).setCell ⟨y.ad p, ofN p, none⟩ (.map (some w.heap.size))).heap[b]? = (w.alloc (.map #[] 0)).heap[b]? := fun b hb => Below.heap_setCell _ _ _ _ hb
 refine ⟨h.root, h.up, fun {u} hu => ?_, h.inj, fun {u} hu e => ?_, fun {u b} hu e => ?_, fun {u v b} hu hv e1 e2 => ?_, fun {u} hu => ?_, h.ninj⟩
 ·by_cases e : u = p
  ·subst e
   have := (h1.node hu).set0 (.map (some w.heap.size))
   simpa [Lay.withMap] using this
  ·have h2 := (h1.node hu).kept (hk (y.ad u) fun e2 => e (h.inj hu hp e2))
   simpa [Lay.withMap, e] using h2
 ·by_cases e2 : u = p
  ·subst e2; simp [Lay.withMap] at e
  ·simp only [Lay.withMap, if_neg e2] at e
   exact h.leaf hu e
 ·by_cases e2 : u = p
  ·subst e2
   simp only [Lay.withMap, if_true, Option.some.injEq] at e
   subst e
   refine ⟨[], (MapG.new w).kept (hk _ hne), List.nodup_nil, fun s v => ?_⟩
   constructor
   ·intro h0; cases h0
   ·rintro ⟨h0, _⟩; exact absurd h0 (h.leaf hp hm s)
  ·simp only [Lay.withMap, if_neg e2] at e
   obtain ⟨E, h3, h4⟩ := h1.kids hu e
   exact ⟨E, h3.kept (hk b fun e3 => ndb_map (h1.node hp) (e3 ▸ h3)), h4⟩
 ·have key : ∀ {u}, A u → (y.withMap p w.heap.size).mp u = some b → (u = p ∧ b = w.heap.size) ∨ (u ≠ p ∧ y.mp u = some b ∧ b < w.heap.size) := fun {u} hu e => by
   by_cases e2 : u = p
   ·subst e2
    simp only [Lay.withMap, if_true, Option.some.injEq] at e
    exact Or.inl ⟨rfl, e.symm⟩
   ·simp only [Lay.withMap, if_neg e2] at e
    exact Or.inr ⟨e2, e, h.lt ⟨u, hu, Or.inr (Or.inl e)⟩⟩
  rcases key hu e1 with ⟨a1, b1⟩ | ⟨a1, b1, c1⟩ <;> rcases key hv e2 with ⟨a2, b2⟩ | ⟨a2, b2, c2⟩
  ·rw [a1, a2]
  ·omega
  ·omega
  ·exact h.minj hu hv b1 b2
 ·refine ownsRow_at (h1.nums hu) fun g hg => hk g fun e => ?_
  subst e
  exact own_ndb (h1.nums hu) hg (h1.node hp)
def Lay.more (y : Lay) (q : List Sg) (b : Nat) : Lay := ⟨fun u => if u = q then b else y.ad u, fun u => if u = q then none else y.mp u, fun u => if u = q then .slice none 0 0 else y.nv u⟩
theorem Tri.child {w w' : World} {N : Nat} {tv : Value} {A : List Sg → Prop} {nm : List Sg → List Nat} {y : Lay} {p : List Sg} {s : Sg} {b : Nat} {E : List (Sg × Value)} (h : Tri w N tv A nm y) (hp : A p) (hm : y.mp p = some b) (hn : ¬ A (p ++ [s])) (hnm : nm (p ++ [s]) = [])
  (hE : ∀ s v, (s, v) ∈ E ↔ A (p ++ [s]) ∧ v = .pointer (some ⟨y.ad (p ++ [s]), 0, none⟩)) (hEn : (E.map (·.1)).Nodup) (hM : MapG w' b (E ++ [(s, .pointer (some ⟨w.heap.size, 0, none⟩))]))
  (hk : ∀ i, i ≠ b → w'.heap[i]? = (w.alloc (.cells #[.map none, .slice none 0 0] 57)).heap[i]?) :
  Tri w' N tv (fun u => A u ∨ u = p ++ [s]) nm (y.more (p ++ [s]) w.heap.size) := by
 obtain ⟨E0, hE0, _⟩ := h.kids hp hm
 have hbl := hE0.lt
 have h1 : Tri (w.alloc (.cells #[.map none, .slice none 0 0] 57)) N tv A nm y := h.later ((Below.refl _ _).alloc (Nat.le_refl _) _)
 have hE1 : MapG (w.alloc (.cells #[.map none, .slice none 0 0] 57)) b E0 := hE0.kept (Below.heap_alloc _ _ _ hbl)
 have hne : ∀ u, A u → u ≠ p ++ [s] := fun u hu e => hn (e ▸ hu)
 have hnil : ¬ (p ++ [s] = []) := by simp
 have hdeep : ∀ t, ¬ A (p ++ [s] ++ [t]) := fun t ht => hn (h.up ht)
 refine ⟨Or.inl h.root, fun {u t} hu => ?_, fun {u} hu => ?_, fun {u v} hu hv e => ?_, fun {u} hu e t => ?_, fun {u c} hu e => ?_, fun {u v c} hu hv e1 e2 => ?_, fun {u} hu => ?_, fun {u v c} hu hv e1 e2 => ?_⟩
 ·rcases hu with hu | hu
  ·exact Or.inl (h.up hu)
  ·exact Or.inl ((List.append_inj' hu rfl).1 ▸ hp)
 ·rcases hu with hu | rfl
  ·have := (h1.node hu).kept (hk (y.ad u) fun e => ndb_map (h1.node hu) (e ▸ hE1))
   simpa [Lay.more, hne u hu] using this
  ·unfold NdB
   rw [if_neg hnil]
   simp only [Lay.more, if_true]
   unfold Blk
   rw [hk _ (by omega)]
   exact Blk.new w _ _
 ·have key : ∀ {u}, (A u ∨ u = p ++ [s]) → (A u ∧ (y.more (p ++ [s]) w.heap.size).ad u = y.ad u ∧ y.ad u < w.heap.size) ∨ (u = p ++ [s] ∧ (y.more (p ++ [s]) w.heap.size).ad u = w.heap.size) := fun {u} hu => by
   rcases hu with hu | rfl
   ·exact Or.inl ⟨hu, by simp [Lay.more, hne u hu], h.lt ⟨u, hu, Or.inl rfl⟩⟩
   ·exact Or.inr ⟨rfl, by simp [Lay.more]⟩
  rcases key hu with ⟨a1, b1, c1⟩ | ⟨a1, b1⟩ <;> rcases key hv with ⟨a2, b2, c2⟩ | ⟨a2, b2⟩
  ·exact h.inj a1 a2 (by rw [← b1, ← b2]; exact e)
  ·omega
  ·omega
  ·rw [a1, a2]
 ·rcases hu with hu | rfl
  ·simp only [Lay.more, if_neg (hne u hu)] at e
   rintro (h3 | h3)
   ·exact h.leaf hu e t h3
   ·have e4 := (List.append_inj' h3 rfl).1
    subst e4
    rw [hm] at e; cases e
  ·rintro (h3 | h3)
   ·exact hdeep t h3
   ·have := congrArg List.length h3; simp at this
 ·rcases hu with hu | rfl
  ·simp only [Lay.more, if_neg (hne u hu)] at e
   by_cases e5 : u = p
   ·subst e5
    have e6 : b = c := by rw [hm] at e; exact Option.some.inj e
    subst e6
    refine ⟨_, hM, ?_, fun t v => ?_⟩
    ·rw [List.map_append, List.nodup_append]
     refine ⟨hEn, by simp, fun a ha x hx e7 => ?_⟩
     subst e7
     obtain ⟨⟨a', v'⟩, hav, rfl⟩ := List.mem_map.1 ha
     have e8 : a' = s := by simpa using hx
     subst e8
     exact hn ((hE _ _).1 hav).1
    ·rw [List.mem_append, hE]
     constructor
     ·rintro (⟨h3, h4⟩ | h3)
      ·exact ⟨Or.inl h3, by rw [h4]; simp [Lay.more, hne _ h3]⟩
      ·have e9 : t = s ∧ v = .pointer (some ⟨w.heap.size, 0, none⟩) := by simpa using h3
       obtain ⟨rfl, rfl⟩ := e9
       exact ⟨Or.inr rfl, by simp [Lay.more]⟩
     ·rintro ⟨h3 | h3, h4⟩
      ·exact Or.inl ⟨h3, by rw [h4]; simp [Lay.more, hne _ h3]⟩
      ·have e9 : t = s := by simpa using h3
       subst e9
       rw [h4]; right; simp [Lay.more]
   ·obtain ⟨E2, h3, h4, h5⟩ := h1.kids hu e
    refine ⟨E2, h3.kept (hk c fun e6 => e5 (h.minj hu hp (by rw [e, e6]) hm)), h4, fun t v => ?_⟩
    rw [h5]
    have e7 : ∀ t, u ++ [t] ≠ p ++ [s] := fun t e8 => e5 (List.append_inj' e8 rfl).1
    constructor
    ·rintro ⟨h6, h7⟩; exact ⟨Or.inl h6, by rw [h7]; simp [Lay.more, e7 t]⟩
    ·rintro ⟨h6 | h6, h7⟩
     ·exact ⟨h6, by rw [h7]; simp [Lay.more, e7 t]⟩
     ·exact absurd h6 (e7 t)
  ·simp [Lay.more] at e
 ·have key : ∀ {u}, (A u ∨ u = p ++ [s]) → (y.more (p ++ [s]) w.heap.size).mp u = some c → A u ∧ y.mp u = some c := fun {u} hu e => by
   rcases hu with hu | rfl
   ·simp only [Lay.more, if_neg (hne u hu)] at e; exact ⟨hu, e⟩
   ·simp [Lay.more] at e
  exact h.minj (key hu e1).1 (key hv e2).1 (key hu e1).2 (key hv e2).2
 ·rcases hu with hu | rfl
  ·have h3 := h1.nums hu
   simp only [Lay.more, if_neg (hne u hu)]
   exact ownsRow_at h3 fun g hg => hk g fun e => own_map h3 hg (e ▸ hE1)
  ·simp only [Lay.more, if_true, hnm]
   exact World.ownsRow_nil _ _ _ _
 ·have key : ∀ {u}, (A u ∨ u = p ++ [s]) → ((y.more (p ++ [s]) w.heap.size).nv u).ownBlock = some c → A u ∧ (y.nv u).ownBlock = some c := fun {u} hu e => by
   rcases hu with hu | rfl
   ·simp only [Lay.more, if_neg (hne u hu)] at e; exact ⟨hu, e⟩
   ·simp [Lay.more, Value.ownBlock] at e
  exact h.ninj (key hu e1).1 (key hv e2).1 (key hu e1).2 (key hv e2).2
def Lay.withNum (y : Lay) (p : List Sg) (v : Value) : Lay := ⟨y.ad, y.mp, fun u => if u = p then v else y.nv u⟩
theorem Tri.num {w w1 : World} {N : Nat} {tv : Value} {A : List Sg → Prop} {nm : List Sg → List Nat} {y : Lay} {p : List Sg} {n : Nat} {v : Value} (h : Tri w N tv A nm y) (hp : A p)
  (ho : w1.ownsRow N 3 1 v (nm p ++ [n]).length (nuV (nm p ++ [n]))) (hg : w.grownBy w1 (y.nv p).ownBlock) (hv : ∀ b, v.ownBlock = some b → (y.nv p).ownBlock = some b ∨ w.heap.size ≤ b) :
  Tri (w1.setCell ⟨y.ad p, ofN p + 1, none⟩ v) N tv A (fun u => if u = p then nm p ++ [n] else nm u) (y.withNum p v) := by
 have hk1 : ∀ b, b < w.heap.size → (y.nv p).ownBlock ≠ some b → w1.heap[b]? = w.heap[b]? := fun b hb hne => hg.block b hb (fun e => hne e.symm)
 have hk2 : ∀ b, b ≠ y.ad p → (w1.setCell ⟨y.ad p, ofN p + 1, none⟩ v).heap[b]? = w1.heap[b]? := fun b hb => Below.heap_setCell _ _ _ _ hb
 have hnd : ∀ {u}, A u → NdB w1 u (y.ad u) tv (.map (y.mp u)) (y.nv u) := fun {u} hu => (h.node hu).kept (hk1 _ (h.node hu).lt fun e => own_ndb (h.nums hp) e (h.node hu))
 refine ⟨h.root, h.up, fun {u} hu => ?_, h.inj, h.leaf, fun {u b} hu e => ?_, h.minj, fun {u} hu => ?_, fun {u u' b} hu hu' e1 e2 => ?_⟩
 ·by_cases e : u = p
  ·subst e
   have := (hnd hu).set1 v
   simpa [Lay.withNum] using this
  ·have h2 := (hnd hu).kept (hk2 (y.ad u) fun e2 => e (h.inj hu hp e2))
   simpa [Lay.withNum, e] using h2
 ·obtain ⟨E, h3, h4⟩ := h.kids hu e
  have h5 : MapG w1 b E := h3.kept (hk1 b h3.lt fun e2 => own_map (h.nums hp) e2 h3)
  exact ⟨E, h5.kept (hk2 b fun e2 => ndb_map (hnd hp) (e2 ▸ h5)), h4⟩
 ·by_cases e : u = p
  ·subst e
   simp only [Lay.withNum, if_true]
   exact ownsRow_at ho fun g hg2 => hk2 g fun e2 => by
    subst e2
    exact own_ndb ho hg2 (hnd hp)
  ·simp only [Lay.withNum, if_neg e]
   have h3 := h.nums hu
   have h4 : w1.ownsRow N 3 1 (y.nv u) (nm u).length (nuV (nm u)) := ownsRow_at h3 fun g hg2 => hk1 g (h3.lt g hg2).2 fun e2 => e (h.ninj hu hp hg2 e2)
   exact ownsRow_at h4 fun g hg2 => hk2 g fun e2 => by
    subst e2
    exact own_ndb h4 hg2 (hnd hp)
 ·have key : ∀ {u}, A u → ((y.withNum p v).nv u).ownBlock = some b → (u = p ∧ v.ownBlock = some b) ∨ (u ≠ p ∧ (y.nv u).ownBlock = some b ∧ b < w.heap.size) := fun {u} hu e => by
   by_cases e2 : u = p
   ·subst e2
    simp only [Lay.withNum, if_true] at e
    exact Or.inl ⟨rfl, e⟩
   ·simp only [Lay.withNum, if_neg e2] at e
    exact Or.inr ⟨e2, e, ((h.nums hu).lt b e).2⟩
  rcases key hu e1 with ⟨a1, b1⟩ | ⟨a1, b1, c1⟩ <;> rcases key hu' e2 with ⟨a2, b2⟩ | ⟨a2, b2, c2⟩
  ·rw [a1, a2]
  ·rcases hv b b1 with h6 | h6
   ·exact absurd (h.ninj hu' hp b2 h6) a2
   ·omega
  ·rcases hv b b2 with h6 | h6
   ·exact absurd (h.ninj hu hp b1 h6) a1
   ·omega
  ·exact h.ninj hu hu' b1 b2
theorem look_in {w : World} {b : Nat} {E : List (Sg × Value)} (h : MapG w b E) (hn : (E.map (·.1)).Nodup) {s : Sg} (hs : SgOk s) {v : Value} (hv : (s, v) ∈ E) : (Instr.lookup 55 (.map (some b)) (sgV s) false).run Tryz.prog w = .ok v w := by
 rcases run_lookG h s hs with ⟨v', hm, hr⟩ | ⟨h0, _⟩
 ·have e : v' = v := by
   clear hr h
   induction E with
   | nil => cases hv
   | cons p r ih =>
    simp only [List.map_cons, List.nodup_cons] at hn
    rcases List.mem_cons.1 hm with h1 | h1 <;> rcases List.mem_cons.1 hv with h2 | h2
    ·rw [← h2] at h1; exact congrArg Prod.snd h1
    ·exact absurd (List.mem_map.2 ⟨_, h2, by rw [← h1]⟩) hn.1
    ·exact absurd (List.mem_map.2 ⟨_, h1, by rw [← h2]⟩) hn.1
    ·exact ih hn.2 h2 h1
  rw [← e]; exact hr
 ·exact absurd hv (h0 v)
theorem look_out {w : World} {b : Nat} {E : List (Sg × Value)} (h : MapG w b E) {s : Sg} (hs : SgOk s) (hv : ∀ v, (s, v) ∉ E) : (Instr.lookup 55 (.map (some b)) (sgV s) false).run Tryz.prog w = .ok (.pointer none) w := by
 rcases run_lookG h s hs with ⟨v', hm, _⟩ | ⟨_, hr⟩
 ·exact absurd hm (hv v')
 ·exact hr
theorem nd_snoc {L : List (List Sg)} {x u : List Sg} : Nd (L ++ [x]) u ↔ Nd L u ∨ u <+: x := by
 unfold Nd
 constructor
 ·rintro (h | ⟨y, hy, hp⟩)
  ·exact Or.inl (Or.inl h)
  ·rcases List.mem_append.1 hy with hy | hy
   ·exact Or.inl (Or.inr ⟨y, hy, hp⟩)
   ·have e : y = x := by simpa using hy
    subst e; exact Or.inr hp
 ·rintro ((h | ⟨y, hy, hp⟩) | h)
  ·exact Or.inl h
  ·exact Or.inr ⟨y, List.mem_append_left _ hy, hp⟩
  ·exact Or.inr ⟨x, by simp, h⟩
theorem nmL_none {L : List (List Sg)} {u : List Sg} (h : ¬ Nd L u) : nmL L u = [] := by
 cases hl : nmL L u with
 | nil => rfl
 | cons n r =>
  have h1 : n ∈ nmL L u := by rw [hl]; simp
  exact absurd (Or.inr ⟨u, List.mem_of_getElem? (nmL_mem.1 h1), List.prefix_refl u⟩) h
theorem nmL_snoc (L : List (List Sg)) (x u : List Sg) : nmL (L ++ [x]) u = if u = x then nmL L x ++ [L.length] else nmL L u := by
 split
 ·rename_i e; rw [e]; exact nmL_same L x
 ·rename_i e; exact nmL_other L e
theorem pre_snoc {x u : List Sg} {k : Nat} (h : k < x.length) : u <+: x.take (k + 1) ↔ u <+: x.take k ∨ u = x.take k ++ [x[k]] := by
 rw [List.take_succ_eq_append_getElem h, List.prefix_concat_iff]
 constructor
 ·rintro (h | h)
  ·exact Or.inr (by simpa using h)
  ·exact Or.inl h
 ·rintro (h | h)
  ·exact Or.inr h
  ·exact Or.inl (by simpa using h)
theorem snoc_nil (u : List Sg) (s : Sg) : ¬ u ++ [s] = [] := by simp
theorem nil_snoc (u : List Sg) (s : Sg) : ¬ [] = u ++ [s] := by simp
theorem of_snoc (u : List Sg) (s : Sg) : ofN (u ++ [s]) = 0 := if_neg (snoc_nil u s)
theorem ExQ.setOr {Q : Nat → Prop} {a w : World} (h : ExQ Q a w) {B : Nat} (hB : Q B ∨ a.heap.size ≤ B) (i : Nat) (v : Value) : ExQ Q a (w.setCell ⟨B, i, none⟩ v) := by
 rcases hB with hB | hB
 ·exact h.set hB i v
 ·exact h.setNew hB i v
theorem ExQ.putOr {Q : Nat → Prop} {a w w' : World} (h : ExQ Q a w) {B : Nat} (hB : Q B ∨ a.heap.size ≤ B) (h1 : w'.heap.size = w.heap.size) (h2 : w'.os = w.os) (h3 : w'.tape = w.tape) (h4 : w'.output = w.output) (h5 : ∀ b, b ≠ B → w'.heap[b]? = w.heap[b]?) : ExQ Q a w' :=
 ⟨h2.trans h.os, h3.trans h.tape, h4.trans h.output, by rw [h1]; exact h.size, fun k hk hn => (h5 k (fun e => by rcases hB with h6 | h6; exact hn (e ▸ h6); omega)).trans (h.block k hk hn)⟩
theorem Tryz.infoIntI : (Tryz.prog.info? 3).map (fun i => (i.zero, i.size, i.bytes)) = some (some (.int .i64 0), 1, 8) := by kernel_rfl
theorem app_num {w : World} {N : Nat} {v : Value} {l : List Nat} (ho : w.ownsRow N 3 1 v l.length (nuV l)) (hN : N ≤ w.heap.size) (hsm : l.length ≤ 1000000) (n : Nat) (B : Nat) (hB : Blk w B #[.int .i64 (n : Int)] 3) :
  ∃ g cap w', (Builtin.append_ #[22, 22] 22 #[v, .slice (some ⟨B, 0, none⟩) 1 1]).run Tryz.prog w = .ok (.slice (some ⟨g, 0, none⟩) (l.length + 1) cap) w' ∧
   w'.ownsRow N 3 1 (.slice (some ⟨g, 0, none⟩) (l.length + 1) cap) (l ++ [n]).length (nuV (l ++ [n])) ∧ w.grownBy w' v.ownBlock ∧ (v.ownBlock = some g ∨ g = w.heap.size) := by
 obtain ⟨i0, hi, hz0, hz1, hz2⟩ := info_parts Tryz.infoIntI
 obtain ⟨g, cap, w', h1, h2, h3, h4, h5⟩ := run_append_lies (P := Tryz.prog) w 22 22 N 3 i0 _ 1 8 Tryz.underlying22 hi hz0 hz1 hz2 rfl (by decide) v l.length (nuV l) ho
  ⟨B, 0, none⟩ 1 1 [.int .i64 (n : Int)] rfl (World.news_of_block hB) (by simp [Value.oneCell']) (by omega) (by unfold maxLen; omega) (by omega) hN _ rfl
 refine ⟨g, cap, w', h1, ?_, h3, h4⟩
 have e : nuV (l ++ [n]) = nuV l ++ [.int .i64 (n : Int)] := by simp [nuV]
 rw [e, List.length_append]
 exact h2
def LyPost (L : List (List Sg)) (x : List Sg) (N : Nat) (tv : Value) (y0 : Lay) (w : World) (w' : World) : Prop :=
 ∃ y, Tri w' N tv (Nd (L ++ [x])) (nmL (L ++ [x])) y ∧ y.ad [] = y0.ad [] ∧ ExQ (OwnT (Nd L) y0) w w' ∧ ∀ b, OwnT (Nd (L ++ [x])) y b → OwnT (Nd L) y0 b ∨ w.heap.size ≤ b
def NdK (L : List (List Sg)) (p : List Sg) (u : List Sg) : Prop := Nd L u ∨ u <+: p
def LyS (L : List (List Sg)) (p : List Sg) (N : Nat) (tv : Value) (y0 y : Lay) (w wr : World) : Prop :=
 Tri wr N tv (NdK L p) (nmL L) y ∧ y.ad [] = y0.ad [] ∧ ExQ (OwnT (Nd L) y0) w wr ∧ ∀ b, OwnT (NdK L p) y b → OwnT (Nd L) y0 b ∨ w.heap.size ≤ b
theorem LyS.alloc {L : List (List Sg)} {p : List Sg} {N : Nat} {tv : Value} {y0 y : Lay} {w wr : World} (h : LyS L p N tv y0 y w wr) (o : Obj) : LyS L p N tv y0 y w (wr.alloc o) :=
 ⟨h.1.later ((Below.refl _ _).alloc (Nat.le_refl _) o), h.2.1, h.2.2.1.alloc o, h.2.2.2⟩
theorem LyS.drew {L : List (List Sg)} {p : List Sg} {N : Nat} {tv : Value} {y0 y : Lay} {w wr : World} (h : LyS L p N tv y0 y w wr) : LyS L p N tv y0 y w wr.drew :=
 ⟨h.1.kept fun b _ => rfl, h.2.1, h.2.2.1.drew, h.2.2.2⟩
theorem LyS.map {L : List (List Sg)} {p : List Sg} {N : Nat} {tv : Value} {y0 y : Lay} {w wr : World} (h : LyS L p N tv y0 y w wr) (hp : NdK L p p) (hm : y.mp p = none) :
  LyS L p N tv y0 (y.withMap p wr.heap.size) w ((wr.alloc (.map #[] 0)).setCell ⟨y.ad p, ofN p, none⟩ (.map (some wr.heap.size))) := by
 obtain ⟨h1, h2, h3, h4⟩ := h
 refine ⟨h1.mapNew hp hm, h2, (h3.alloc _).setOr (h4 _ ⟨p, hp, Or.inl rfl⟩) _ _, ?_⟩
 rintro b ⟨u, hu, h5 | h5 | h5⟩
 ·exact h4 b ⟨u, hu, Or.inl h5⟩
 ·by_cases e : u = p
  ·subst e
   simp only [Lay.withMap, if_true, Option.some.injEq] at h5
   exact Or.inr (by rw [← h5]; exact h3.size)
  ·simp only [Lay.withMap, if_neg e] at h5
   exact h4 b ⟨u, hu, Or.inr (Or.inl h5)⟩
 ·exact h4 b ⟨u, hu, Or.inr (Or.inr h5)⟩
theorem LyS.same {L : List (List Sg)} {x : List Sg} {k N : Nat} {tv : Value} {y0 y : Lay} {w wr : World} (h : LyS L (x.take k) N tv y0 y w wr) (hk : k < x.length) (hc : NdK L (x.take k) (x.take k ++ [x[k]])) : LyS L (x.take (k + 1)) N tv y0 y w wr := by
 obtain ⟨h1, h2, h3, h4⟩ := h
 have hA : ∀ u, NdK L (x.take (k + 1)) u ↔ NdK L (x.take k) u := fun u => by
  unfold NdK
  rw [pre_snoc hk]
  constructor
  ·rintro (h | h | h)
   ·exact Or.inl h
   ·exact Or.inr h
   ·rw [h]; exact hc
  ·rintro (h | h)
   ·exact Or.inl h
   ·exact Or.inr (Or.inl h)
 refine ⟨h1.congr hA fun _ _ => rfl, h2, h3, ?_⟩
 rintro b ⟨u, hu, h5⟩
 exact h4 b ⟨u, (hA u).1 hu, h5⟩
theorem LyS.child {L : List (List Sg)} {x : List Sg} {k N b : Nat} {tv : Value} {y0 y : Lay} {w wr w' : World} {E : List (Sg × Value)} (h : LyS L (x.take k) N tv y0 y w wr) (hk : k < x.length) (hn : ¬ NdK L (x.take k) (x.take k ++ [x[k]])) (hm : y.mp (x.take k) = some b)
  (hE : ∀ s v, (s, v) ∈ E ↔ NdK L (x.take k) (x.take k ++ [s]) ∧ v = .pointer (some ⟨y.ad (x.take k ++ [s]), 0, none⟩)) (hEn : (E.map (·.1)).Nodup) (hM : MapG w' b (E ++ [(x[k], .pointer (some ⟨wr.heap.size, 0, none⟩))]))
  (h6 : w'.heap.size = (wr.alloc (.cells #[.map none, .slice none 0 0] 57)).heap.size) (h7 : w'.os = wr.os) (h8 : w'.tape = wr.tape) (h9 : w'.output = wr.output) (hf : ∀ i, i ≠ b → w'.heap[i]? = (wr.alloc (.cells #[.map none, .slice none 0 0] 57)).heap[i]?) :
  LyS L (x.take (k + 1)) N tv y0 (y.more (x.take k ++ [x[k]]) wr.heap.size) w w' := by
 obtain ⟨h1, h2, h3, h4⟩ := h
 have hp : NdK L (x.take k) (x.take k) := Or.inr (List.prefix_refl _)
 have hnL : ¬ Nd L (x.take k ++ [x[k]]) := fun h => hn (Or.inl h)
 have hA : ∀ u, NdK L (x.take (k + 1)) u ↔ NdK L (x.take k) u ∨ u = x.take k ++ [x[k]] := fun u => by
  unfold NdK
  rw [pre_snoc hk, or_assoc]
 refine ⟨(h1.child hp hm hn (nmL_none hnL) hE hEn hM hf).congr hA fun _ _ => rfl, ?_, (h3.alloc _).putOr (h4 b ⟨_, hp, Or.inr (Or.inl hm)⟩) h6 h7 h8 h9 hf, ?_⟩
 ·simp only [Lay.more]
  rw [if_neg (nil_snoc _ _)]
  exact h2
 ·rintro c ⟨u, hu, h5⟩
  by_cases e : u = x.take k ++ [x[k]]
  ·subst e
   simp only [Lay.more, if_true] at h5
   rcases h5 with h5 | h5 | h5
   ·exact Or.inr (by rw [← h5]; exact h3.size)
   ·cases h5
   ·cases h5
  ·simp only [Lay.more, if_neg e] at h5
   rcases (hA u).1 hu with hu | hu
   ·exact h4 c ⟨u, hu, h5⟩
   ·exact absurd hu e
theorem LyS.done {L : List (List Sg)} {x : List Sg} {N : Nat} {tv v : Value} {y0 y : Lay} {w wr w1 : World} (h : LyS L x N tv y0 y w wr)
  (ho : w1.ownsRow N 3 1 v (nmL L x ++ [L.length]).length (nuV (nmL L x ++ [L.length]))) (hg : wr.grownBy w1 (y.nv x).ownBlock) (hv : ∀ b, v.ownBlock = some b → (y.nv x).ownBlock = some b ∨ wr.heap.size ≤ b) :
  LyPost L x N tv y0 w (w1.setCell ⟨y.ad x, ofN x + 1, none⟩ v) := by
 obtain ⟨h1, h2, h3, h4⟩ := h
 have hp : NdK L x x := Or.inr (List.prefix_refl _)
 refine ⟨y.withNum x v, (h1.num hp ho hg hv).congr (fun u => nd_snoc) (fun u _ => nmL_snoc L x u), h2, (h3.grown hg ?_).setOr (h4 _ ⟨x, hp, Or.inl rfl⟩) _ _, ?_⟩
 ·intro b hb
  rcases h4 b ⟨x, hp, Or.inr (Or.inr hb)⟩ with h | h
  ·exact Or.inr h
  ·exact Or.inl h
 ·rintro b ⟨u, hu, h5 | h5 | h5⟩
  ·exact h4 b ⟨u, nd_snoc.1 hu, Or.inl h5⟩
  ·exact h4 b ⟨u, nd_snoc.1 hu, Or.inr (Or.inl h5)⟩
  ·by_cases e : u = x
   ·subst e
    simp only [Lay.withNum, if_true] at h5
    rcases hv b h5 with h6 | h6
    ·exact h4 b ⟨u, nd_snoc.1 hu, Or.inr (Or.inr h6)⟩
    ·exact Or.inr (Nat.le_trans h3.size h6)
   ·simp only [Lay.withNum, if_neg e] at h5
    exact h4 b ⟨u, nd_snoc.1 hu, Or.inr (Or.inr h5)⟩
theorem mapNil (m : Option Nat) (w : World) : (binOp .eql 55 (.map m) (.map none)).run Tryz.prog w = .ok (.bool m.isNone) w := by
 simp only [binOp]
 simp [run_equal_map_nil w _ _ _ m Tryz.underlying55]
def LyIx (L : List (List Sg)) (x : List Sg) (N : Nat) (tv : Value) (y0 : Lay) (w : World) (q i : Value) (wr : World) : Prop :=
 ∃ (k : Nat) (y : Lay), k ≤ x.length ∧ i = .int .i64 (k : Int) ∧ q = .pointer (some ⟨y.ad (x.take k), ofN (x.take k), none⟩) ∧ LyS L (x.take k) N tv y0 y w wr
set_option maxHeartbeats 4000000 in
theorem lay_any {L : List (List Sg)} {x : List Sg} {N M g cap : Nat} {tv : Value} {y0 : Lay} {sp : List (Sg × Nat)} (w : World) (hT : Tri w N tv (Nd L) (nmL L) y0) (hN : N ≤ w.heap.size) (hx : sp.map (·.1) = x) (hok : ∀ s ∈ x, SgOk s) (hL : L.length ≤ 100000)
  (ho : w.ownsRow M 87 3 (.slice (some ⟨g, 0, none⟩) sp.length cap) sp.length (spX sp)) (hg : ¬ OwnT (Nd L) y0 g) :
  Calls Tryz.prog 25 #[.pointer (some ⟨y0.ad [], 1, none⟩), .slice (some ⟨g, 0, none⟩) sp.length cap, .int .i64 (L.length : Int)] w fun e w' => e = .returned (.tuple #[]) ∧ LyPost L x N tv y0 w w' := by
 have hxl : x.length = sp.length := by rw [← hx]; simp
 have hsl : sp.length ≤ 9223372036854775807 := by
  rcases ho.2 with ⟨h, _⟩ | ⟨g', cap', cur, h1, h2, h3, h4, h5, h6⟩
  ·cases h
  ·have h7 : maxLen ≤ 9223372036854775807 := by decide
   omega
 have HX := hide hx
 have HXL := hide hxl
 have HOK := hide hok
 have HO := hide ho
 have HG := hide hg
 have HT : Hid (LyS L [] N tv y0 y0 w w) := ⟨hT.congr (fun u => by unfold NdK; constructor; (rintro (h | h); exact h; exact Or.inl (List.prefix_nil.1 h)); exact Or.inl) (fun _ _ => rfl), rfl, ExQ.refl _ _, fun b hb => Or.inl (by
  obtain ⟨u, hu, h⟩ := hb
  refine ⟨u, ?_, h⟩
  rcases hu with h1 | h1
  ·exact h1
  ·exact Or.inl (List.prefix_nil.1 h1))⟩
 clear hx hxl hok ho hg hT
 go_enter Tryz.func25, Tryz.ntmps25
 go_wp2_with fail
 go_loopw [0, 10] (fun q i wr => LyIx L x N tv y0 w q i wr) (fun q i wr => sp.length - (intOf i).toNat)
 case atStart => exact ⟨0, y0, Nat.zero_le _, rfl, by simp [ofN], by simpa using HT.out⟩
 case round =>
  obtain ⟨k, y, hk, rfl, rfl, hS⟩ := hrel
  have HS := hide hS
  have HP : Hid (NdK L (x.take k) (x.take k)) := Or.inr (List.prefix_refl _)
  clear hS
  by_cases hlt0 : k < sp.length
  ·have hlt : k < x.length := by rw [HXL.out]; exact hlt0
   have hki : (k : Int) < (sp.length : Int) := by omega
   obtain ⟨⟨⟨s1, s2⟩, s3⟩, hsk⟩ : ∃ p, sp[k]? = some p := ⟨sp[k], List.getElem?_eq_getElem hlt0⟩
   have HXK : Hid (x[k] = (s1, s2)) := by
    have h1 : x[k]? = some (s1, s2) := by rw [← HX.out, List.getElem?_map, hsk]; rfl
    rw [List.getElem?_eq_getElem hlt] at h1
    exact Option.some.inj h1
   have hsok : SgOk (s1, s2) := by rw [← HXK.out]; exact HOK.out _ (List.getElem_mem hlt)
   have HTK : Hid (x.take (k + 1) = x.take k ++ [x[k]]) := List.take_succ_eq_append_getElem hlt
   have HOF : Hid (ofN (x.take k ++ [x[k]]) = 0) := of_snoc _ _
   have HGW : Hid (wr.heap[g]? = w.heap[g]?) := HS.out.2.2.1.block g (HO.out.lt g rfl).2 HG.out
   have hcel : ∀ j, j < sp.length * 3 → wr.cell? ⟨g, j, none⟩ = (spX sp)[j]? := fun j hj => by
    rw [World.cell?_of_block (w := w) (a := ⟨g, j, none⟩) HGW.out]
    exact HO.out.cellAt j hj
   obtain ⟨e1, e2, e3⟩ := spX_get hsk
   have d0 : wr.cell? ⟨g, k * 3, none⟩ = some (.string s1) := by rw [hcel _ (by omega)]; exact e1
   have d1 : wr.cell? ⟨g, k * 3 + 1, none⟩ = some (.int .i64 (s2 : Int)) := by rw [hcel _ (by omega)]; exact e2
   have d2 : wr.cell? ⟨g, k * 3 + 2, none⟩ = some (.int .i64 (s3 : Int)) := by rw [hcel _ (by omega)]; exact e3
   clear hcel e1 e2 e3 hsk
   obtain ⟨PA, hPA⟩ : ∃ PA, y.ad (x.take k) = PA := ⟨_, rfl⟩
   obtain ⟨PO, hPO⟩ : ∃ PO, ofN (x.take k) = PO := ⟨_, rfl⟩
   rw [hPA, hPO]
   have HPA := hide hPA
   have HPO := hide hPO
   have HL1 : Hid (LyS L (x.take k) N tv y0 y w (wr.alloc (.cells #[.string s1, .int .i64 (s2 : Int), .int .i64 (s3 : Int)] 87))) := HS.out.alloc _
   have HQB : Hid (Blk (wr.alloc (.cells #[.string s1, .int .i64 (s2 : Int), .int .i64 (s3 : Int)] 87)) wr.heap.size #[.string s1, .int .i64 (s2 : Int), .int .i64 (s3 : Int)] 87) := Blk.new _ _ _
   have c0 : (wr.alloc (.cells #[.string s1, .int .i64 (s2 : Int), .int .i64 (s3 : Int)] 87)).cell? ⟨PA, PO, none⟩ = some (.map (y.mp (x.take k))) := by
    have h := (HL1.out.1.node HP.out).c0
    rw [hPA, hPO] at h
    exact h
   clear hPA hPO
   go_upto_region 3 with fail
   clear d0 d1 d2
   generalize wr.heap.size = QB at *
   generalize wr.alloc (.cells #[.string s1, .int .i64 (s2 : Int), .int .i64 (s3 : Int)] 87) = w1 at *
   cases hm : y.mp (x.take k) with
   | none =>
    rw [hm] at c0
    have hme := mapNil none w1
    have hmk : (Instr.makeMap 55 none).run Tryz.prog w1 = .ok (.map (some w1.heap.size)) (w1.alloc (.map #[] 0)) := rfl
    have hf0 : w1.frozen? ⟨PA, PO, none⟩ = false := by have h := (HL1.out.1.node HP.out).fz PO; rw [HPA.out] at h; exact h
    have hlp : PA < w1.heap.size := by have h := (HL1.out.1.node HP.out).lt; rw [HPA.out] at h; exact h
    have HL2 : Hid (LyS L (x.take k) N tv y0 (y.withMap (x.take k) w1.heap.size) w ((w1.setCell ⟨PA, PO, none⟩ (.map (some w1.heap.size))).alloc (.map #[] 0))) := by
     have h := HL1.out.map HP.out hm
     rw [HPA.out, HPO.out, World.setCell_alloc_past _ _ _ _ hlp] at h
     exact h
    have HNE : Hid (QB ≠ PA) := fun e => by
     have h1 := HL1.out.1.node HP.out
     have h2 := HQB.out
     rw [HPA.out, ← e] at h1
     unfold NdB Blk at h1
     unfold Blk at h2
     split at h1
     ·rw [h2] at h1; injection h1 with h3; injection h3 with h4 h5; exact absurd h5 (by decide)
     ·rw [h2] at h1; injection h1 with h3; injection h3 with h4 h5; exact absurd h5 (by decide)
    have HQB2 : Hid (Blk ((w1.setCell ⟨PA, PO, none⟩ (.map (some w1.heap.size))).alloc (.map #[] 0)) QB #[.string s1, .int .i64 (s2 : Int), .int .i64 (s3 : Int)] 87) := (HQB.out.setOther _ _ HNE.out).alloc _
    go_upto_region 5 with fail
    clear c0 hf0 hlp HL1 HQB HNE hme hmk
    generalize ((w1.setCell ⟨PA, PO, none⟩ (.map (some w1.heap.size))).alloc (.map #[] 0)) = W2 at *
    generalize w1.heap.size = b at *
    have HPA2 : Hid ((y.withMap (x.take k) b).ad (x.take k) = PA) := HPA.out
    have hm2 : (y.withMap (x.take k) b).mp (x.take k) = some b := by simp [Lay.withMap]
    clear HPA hm HS
    generalize y.withMap (x.take k) b = y1 at *
    clear y
    have HQ0 : Hid (W2.cell? ⟨QB, 0, none⟩ = some (.string s1)) := HQB2.out.c0
    have HQ1 : Hid (W2.cell? ⟨QB, 1, none⟩ = some (.int .i64 (s2 : Int))) := HQB2.out.c1
    obtain ⟨E, hE, hEn, hEi⟩ := HL2.out.1.kids HP.out hm2
    have HE := hide hE
    have HEN := hide hEn
    have HEI := hide hEi
    clear hE hEn hEi
    have c0 : W2.cell? ⟨PA, PO, none⟩ = some (.map (some b)) := by have h := (HL2.out.1.node HP.out).c0; rw [hm2, HPA2.out, HPO.out] at h; exact h
    have HC0 := hide c0
    clear c0
    have HM := hide hm2
    clear hm2
    by_cases hch : NdK L (x.take k) (x.take k ++ [x[k]])
    ·have hlk : ∀ w', MapG w' b E → (Instr.lookup 55 (.map (some b)) (.agg #[.string s1, .int .i64 (s2 : Int)]) false).run Tryz.prog w' = .ok (.pointer (some ⟨y1.ad (x.take k ++ [x[k]]), 0, none⟩)) w' := fun w' hM => by
      have h := look_in hM HEN.out (s := x[k]) (HXK.out ▸ hsok) ((HEI.out _ _).2 ⟨hch, rfl⟩)
      rw [HXK.out] at h ⊢
      exact h
     have HLK := hide hlk
     clear hlk
     have HLN : Hid (LyS L (x.take (k + 1)) N tv y0 y1 w W2.drew.drew) := (HL2.out.same hlt hch).drew.drew
     obtain ⟨CA, hCA⟩ : ∃ CA, CA = y1.ad (x.take k ++ [x[k]]) := ⟨_, rfl⟩
     rw [← hCA] at HLK
     have HCA := hide hCA
     clear hCA
     go_upto_region 5 with fail
     refine wp_region_held_drew (S := fun w' => w'.cell? ⟨PA, PO, none⟩ = some (.map (some b)) ∧ w'.cell? ⟨QB, 0, none⟩ = some (.string s1) ∧ w'.cell? ⟨QB, 1, none⟩ = some (.int .i64 (s2 : Int)) ∧ MapG w' b E) (by kernel_rfl) (by exact ⟨HC0.out, HQ0.out, HQ1.out, HE.out⟩) (fun hHeld => ?_)
     refine tkq (v := ?_) 0 rfl ?_ ?_
     rotate_left
     ·intro w' hSw
      obtain ⟨x0, x1, x2, x3⟩ := hSw
      go_simp <;> with_reducible rfl
     try simp only [Act.put, sq]
     refine tkq (v := ?_) 1 rfl ?_ ?_
     rotate_left
     ·intro w' hSw
      obtain ⟨x0, x1, x2, x3⟩ := hSw
      go_simp <;> with_reducible rfl
     try simp only [Act.put, sq]
     refine tkq (v := ?_) 2 rfl ?_ ?_
     rotate_left
     ·intro w' hSw
      obtain ⟨x0, x1, x2, x3⟩ := hSw
      go_simp <;> with_reducible rfl
     try simp only [Act.put, sq]
     refine tkq (v := ?_) 3 rfl ?_ ?_
     rotate_left
     ·intro w' hSw
      obtain ⟨x0, x1, x2, x3⟩ := hSw
      go_simp <;> with_reducible rfl
     try simp only [Act.put, sq]
     refine tkq (v := ?_) 4 rfl ?_ ?_
     rotate_left
     ·intro w' hSw
      obtain ⟨x0, x1, x2, x3⟩ := hSw
      go_simp <;> with_reducible rfl
     try simp only [Act.put, sq]
     refine tkq (v := ?_) 5 rfl ?_ ?_
     rotate_left
     ·intro w' hSw
      obtain ⟨x0, x1, x2, x3⟩ := hSw
      go_simp <;> with_reducible rfl
     try simp only [Act.put, sq]
     refine tkq (v := ?_) 6 rfl ?_ ?_
     rotate_left
     ·intro w' hSw
      obtain ⟨x0, x1, x2, x3⟩ := hSw
      have hlk := HLK.out w' x3
      go_simp <;> with_reducible rfl
     try simp only [Act.put, sq]
     refine tkq (v := ?_) 7 rfl ?_ ?_
     rotate_left
     ·intro w' hSw
      obtain ⟨x0, x1, x2, x3⟩ := hSw
      go_simp <;> with_reducible rfl
     try simp only [Act.put, sq]
     refine wpAnyH_done (by kernel_rfl) ?_ _
     go_upto_region 7 with fail
     refine wp_region_held_drew (S := fun w' => w'.cell? ⟨PA, PO, none⟩ = some (.map (some b)) ∧ w'.cell? ⟨QB, 0, none⟩ = some (.string s1) ∧ w'.cell? ⟨QB, 1, none⟩ = some (.int .i64 (s2 : Int)) ∧ MapG w' b E) (by kernel_rfl) (by exact ⟨HC0.out, HQ0.out, HQ1.out, HE.out⟩) (fun hHeld => ?_)
     refine tkq (v := ?_) 0 rfl ?_ ?_
     rotate_left
     ·intro w' hSw
      obtain ⟨x0, x1, x2, x3⟩ := hSw
      go_simp <;> with_reducible rfl
     try simp only [Act.put, sq]
     refine tkq (v := ?_) 1 rfl ?_ ?_
     rotate_left
     ·intro w' hSw
      obtain ⟨x0, x1, x2, x3⟩ := hSw
      go_simp <;> with_reducible rfl
     try simp only [Act.put, sq]
     refine tkq (v := ?_) 2 rfl ?_ ?_
     rotate_left
     ·intro w' hSw
      obtain ⟨x0, x1, x2, x3⟩ := hSw
      go_simp <;> with_reducible rfl
     try simp only [Act.put, sq]
     refine tkq (v := ?_) 3 rfl ?_ ?_
     rotate_left
     ·intro w' hSw
      obtain ⟨x0, x1, x2, x3⟩ := hSw
      go_simp <;> with_reducible rfl
     try simp only [Act.put, sq]
     refine tkq (v := ?_) 4 rfl ?_ ?_
     rotate_left
     ·intro w' hSw
      obtain ⟨x0, x1, x2, x3⟩ := hSw
      go_simp <;> with_reducible rfl
     try simp only [Act.put, sq]
     refine tkq (v := ?_) 5 rfl ?_ ?_
     rotate_left
     ·intro w' hSw
      obtain ⟨x0, x1, x2, x3⟩ := hSw
      go_simp <;> with_reducible rfl
     try simp only [Act.put, sq]
     refine tkq (v := ?_) 6 rfl ?_ ?_
     rotate_left
     ·intro w' hSw
      obtain ⟨x0, x1, x2, x3⟩ := hSw
      have hlk := HLK.out w' x3
      go_simp <;> with_reducible rfl
     try simp only [Act.put, sq]
     refine tkq (v := ?_) 7 rfl ?_ ?_
     rotate_left
     ·intro w' hSw
      obtain ⟨x0, x1, x2, x3⟩ := hSw
      go_simp <;> with_reducible rfl
     try simp only [Act.put, sq]
     refine wpAnyH_done (by kernel_rfl) ?_ _
     generalize W2.drew.drew = W5 at *
     go_wp2_with fail
     go_roundw
     case rel => exact ⟨k + 1, y1, hlt, by go_num, by rw [HCA.out, HTK.out, HOF.out], HLN.out⟩
     case measure => simp [intOf]; omega
    ·have hlk : ∀ w', MapG w' b E → (Instr.lookup 55 (.map (some b)) (.agg #[.string s1, .int .i64 (s2 : Int)]) false).run Tryz.prog w' = .ok (.pointer none) w' := fun w' hM => by
      have h := look_out hM (s := x[k]) (HXK.out ▸ hsok) (fun v hv => hch ((HEI.out _ _).1 hv).1)
      rw [HXK.out] at h
      exact h
     have HLK := hide hlk
     clear hlk
     go_upto_region 5 with fail
     refine wp_region_held_drew (S := fun w' => w'.cell? ⟨PA, PO, none⟩ = some (.map (some b)) ∧ w'.cell? ⟨QB, 0, none⟩ = some (.string s1) ∧ w'.cell? ⟨QB, 1, none⟩ = some (.int .i64 (s2 : Int)) ∧ MapG w' b E) (by kernel_rfl) (by exact ⟨HC0.out, HQ0.out, HQ1.out, HE.out⟩) (fun hHeld => ?_)
     refine tkq (v := ?_) 0 rfl ?_ ?_
     rotate_left
     ·intro w' hSw
      obtain ⟨x0, x1, x2, x3⟩ := hSw
      go_simp <;> with_reducible rfl
     try simp only [Act.put, sq]
     refine tkq (v := ?_) 1 rfl ?_ ?_
     rotate_left
     ·intro w' hSw
      obtain ⟨x0, x1, x2, x3⟩ := hSw
      go_simp <;> with_reducible rfl
     try simp only [Act.put, sq]
     refine tkq (v := ?_) 2 rfl ?_ ?_
     rotate_left
     ·intro w' hSw
      obtain ⟨x0, x1, x2, x3⟩ := hSw
      go_simp <;> with_reducible rfl
     try simp only [Act.put, sq]
     refine tkq (v := ?_) 3 rfl ?_ ?_
     rotate_left
     ·intro w' hSw
      obtain ⟨x0, x1, x2, x3⟩ := hSw
      go_simp <;> with_reducible rfl
     try simp only [Act.put, sq]
     refine tkq (v := ?_) 4 rfl ?_ ?_
     rotate_left
     ·intro w' hSw
      obtain ⟨x0, x1, x2, x3⟩ := hSw
      go_simp <;> with_reducible rfl
     try simp only [Act.put, sq]
     refine tkq (v := ?_) 5 rfl ?_ ?_
     rotate_left
     ·intro w' hSw
      obtain ⟨x0, x1, x2, x3⟩ := hSw
      go_simp <;> with_reducible rfl
     try simp only [Act.put, sq]
     refine tkq (v := ?_) 6 rfl ?_ ?_
     rotate_left
     ·intro w' hSw
      obtain ⟨x0, x1, x2, x3⟩ := hSw
      have hlk := HLK.out w' x3
      go_simp <;> with_reducible rfl
     try simp only [Act.put, sq]
     refine tkq (v := ?_) 7 rfl ?_ ?_
     rotate_left
     ·intro w' hSw
      obtain ⟨x0, x1, x2, x3⟩ := hSw
      go_simp <;> with_reducible rfl
     try simp only [Act.put, sq]
     refine wpAnyH_done (by kernel_rfl) ?_ _
     have HL3 : Hid (LyS L (x.take k) N tv y0 y1 w W2.drew.drew) := HL2.out.drew.drew
     have HE3 : Hid (MapG W2.drew.drew b E) := HE.out
     have HC3 : Hid (W2.drew.drew.cell? ⟨PA, PO, none⟩ = some (.map (some b)) ∧ W2.drew.drew.cell? ⟨QB, 0, none⟩ = some (.string s1) ∧ W2.drew.drew.cell? ⟨QB, 1, none⟩ = some (.int .i64 (s2 : Int))) := ⟨HC0.out, HQ0.out, HQ1.out⟩
     have HNQ : Hid (PA ≠ b ∧ QB ≠ b) := ⟨fun e => ndb_map (HL2.out.1.node HP.out) (by rw [HPA2.out, e]; exact HE.out), fun e => by obtain ⟨es, clk, h1, _⟩ := HE.out; have h2 := HQB2.out; unfold Blk at h2; rw [e, h1] at h2; cases h2⟩
     have HLT : Hid (PA < W2.drew.drew.heap.size ∧ QB < W2.drew.drew.heap.size) := ⟨by have h := (HL2.out.1.node HP.out).lt; rw [HPA2.out] at h; exact h, HQB2.out.lt⟩
     go_upto_region 6 with fail
     refine wp_region_held_drew (S := fun w' => w'.cell? ⟨PA, PO, none⟩ = some (.map (some b)) ∧ w'.cell? ⟨QB, 0, none⟩ = some (.string s1) ∧ w'.cell? ⟨QB, 1, none⟩ = some (.int .i64 (s2 : Int))) (by kernel_rfl) (by exact HC3.out) (fun hHeld => ?_)
     generalize W2.drew.drew = W3 at *
     clear HLK HL2 HE HC0 HQ0 HQ1 HQB2
     refine tkq (v := ?_) 0 rfl ?_ ?_
     rotate_left
     ·intro w' hSw
      obtain ⟨x0, x1, x2⟩ := hSw
      go_simp <;> with_reducible rfl
     try simp only [Act.put, sq]
     refine tkq (v := ?_) 1 rfl ?_ ?_
     rotate_left
     ·intro w' hSw
      obtain ⟨x0, x1, x2⟩ := hSw
      go_simp <;> with_reducible rfl
     try simp only [Act.put, sq]
     refine tkq (v := ?_) 2 rfl ?_ ?_
     rotate_left
     ·intro w' hSw
      obtain ⟨x0, x1, x2⟩ := hSw
      go_simp <;> with_reducible rfl
     try simp only [Act.put, sq]
     refine tkq (v := ?_) 3 rfl ?_ ?_
     rotate_left
     ·intro w' hSw
      obtain ⟨x0, x1, x2⟩ := hSw
      go_simp <;> with_reducible rfl
     try simp only [Act.put, sq]
     refine tkq (v := ?_) 4 rfl ?_ ?_
     rotate_left
     ·intro w' hSw
      obtain ⟨x0, x1, x2⟩ := hSw
      go_simp <;> with_reducible rfl
     try simp only [Act.put, sq]
     refine tkq (v := ?_) 5 rfl ?_ ?_
     rotate_left
     ·intro w' hSw
      obtain ⟨x0, x1, x2⟩ := hSw
      go_simp <;> with_reducible rfl
     try simp only [Act.put, sq]
     refine tkq (v := ?_) 6 rfl ?_ ?_
     rotate_left
     ·intro w' hSw
      obtain ⟨x0, x1, x2⟩ := hSw
      go_simp <;> with_reducible rfl
     try simp only [Act.put, sq]
     obtain ⟨W4, hr4, hM4, h41, h42, h43, h44, h45⟩ := run_putG (w := W3.alloc (.cells #[.map none, .slice none 0 0] 57)) (HE3.out.kept (Below.heap_alloc _ _ _ HE3.out.lt)) x[k] (HXK.out ▸ hsok) (fun v hv => hch ((HEI.out _ _).1 hv).1) (.pointer (some ⟨W3.heap.size, 0, none⟩))
     have HR4 : Hid ((Instr.mapUpdate 55 (.map (some b)) (.agg #[.string s1, .int .i64 (s2 : Int)]) (.pointer (some ⟨W3.heap.size, 0, none⟩))).run Tryz.prog (W3.alloc (.cells #[.map none, .slice none 0 0] 57)) = .ok () W4) := by rw [HXK.out] at hr4; exact hr4
     have HC4 : Hid (W4.cell? ⟨PA, PO, none⟩ = some (.map (some b)) ∧ W4.cell? ⟨QB, 0, none⟩ = some (.string s1) ∧ W4.cell? ⟨QB, 1, none⟩ = some (.int .i64 (s2 : Int))) := by
      obtain ⟨h1, h2, h3⟩ := HC3.out
      have hk : ∀ {B i v}, W3.cell? ⟨B, i, none⟩ = some v → B ≠ b → B < W3.heap.size → W4.cell? ⟨B, i, none⟩ = some v := fun {B i v} h hne hl => by
       rw [World.cell?_of_block (w := W3.alloc (.cells #[.map none, .slice none 0 0] 57)) (a := ⟨B, i, none⟩) (h45 B hne)]
       rw [World.cell?_of_block (w := W3) (a := ⟨B, i, none⟩) (Below.heap_alloc _ _ _ hl)]
       exact h
      exact ⟨hk h1 HNQ.out.1 HLT.out.1, hk h2 HNQ.out.2 HLT.out.2, hk h3 HNQ.out.2 HLT.out.2⟩
     have HL4 : Hid (LyS L (x.take (k + 1)) N tv y0 (y1.more (x.take k ++ [x[k]]) W3.heap.size) w W4) := HL3.out.child hlt hch HM.out HEI.out HEN.out hM4 h41 h42 h43 h44 h45
     have HM4 := hide hM4
     have HCA : Hid (W3.heap.size = (y1.more (x.take k ++ [x[k]]) W3.heap.size).ad (x.take k ++ [x[k]])) := by simp [Lay.more, Hid]
     have HEN2 : Hid (((E ++ [(x[k], Value.pointer (some ⟨W3.heap.size, 0, none⟩))]).map (·.1)).Nodup) := by
      unfold Hid
      rw [List.map_append, List.nodup_append]
      refine ⟨HEN.out, by simp, fun a ha c hc e7 => ?_⟩
      subst e7
      obtain ⟨⟨a', v'⟩, hav, rfl⟩ := List.mem_map.1 ha
      have e8 : a' = x[k] := by simpa using hc
      subst e8
      exact hch ((HEI.out _ _).1 hav).1
     clear hr4 hM4 h41 h42 h43 h44 h45
     refine rdq 7 rfl fun K hK => ?_
     go_simp
     refine hK.out _ _ (by exact ⟨(World.cell?_of_block (w := W3) (a := ⟨PA, PO, none⟩) (Below.heap_alloc _ _ _ HLT.out.1)).trans HC3.out.1, (World.cell?_of_block (w := W3) (a := ⟨QB, 0, none⟩) (Below.heap_alloc _ _ _ HLT.out.2)).trans HC3.out.2.1, (World.cell?_of_block (w := W3) (a := ⟨QB, 1, none⟩) (Below.heap_alloc _ _ _ HLT.out.2)).trans HC3.out.2.2⟩) (fun hHeld => ?_)
     clear hK K
     try simp only [Act.put, sq]
     refine rdq 8 rfl fun K hK => ?_
     have hr4 := HR4.out
     go_simp
     refine hK.out _ _ (by exact HC4.out) (fun hHeld => ?_)
     clear hK K
     try simp only [Act.put, sq]
     clear hr4
     refine wpAnyH_done (by kernel_rfl) ?_ _
     obtain ⟨NB, hNB⟩ : ∃ NB, NB = W3.heap.size := ⟨_, rfl⟩
     have hlk : ∀ w', MapG w' b (E ++ [(x[k], .pointer (some ⟨W3.heap.size, 0, none⟩))]) → (Instr.lookup 55 (.map (some b)) (.agg #[.string s1, .int .i64 (s2 : Int)]) false).run Tryz.prog w' = .ok (.pointer (some ⟨W3.heap.size, 0, none⟩)) w' := fun w' hM => by
      have h := look_in hM HEN2.out (s := x[k]) (HXK.out ▸ hsok) (v := .pointer (some ⟨W3.heap.size, 0, none⟩)) (by simp)
      rw [HXK.out] at h
      exact h
     obtain ⟨E2, hE2⟩ : ∃ E2, E2 = E ++ [(x[k], Value.pointer (some ⟨W3.heap.size, 0, none⟩))] := ⟨_, rfl⟩
     rw [← hE2] at hlk HM4
     have HLK := hide hlk
     clear hlk hE2
     have HLN : Hid (LyS L (x.take (k + 1)) N tv y0 (y1.more (x.take k ++ [x[k]]) W3.heap.size) w W4.drew) := HL4.out.drew
     generalize W3.heap.size = NC at *
     clear hNB NB HR4 HL3 HE3 HC3 HNQ HLT HEN2
     go_upto_region 7 with fail
     refine wp_region_held_drew (S := fun w' => w'.cell? ⟨PA, PO, none⟩ = some (.map (some b)) ∧ w'.cell? ⟨QB, 0, none⟩ = some (.string s1) ∧ w'.cell? ⟨QB, 1, none⟩ = some (.int .i64 (s2 : Int)) ∧ MapG w' b E2) (by kernel_rfl) (by exact ⟨HC4.out.1, HC4.out.2.1, HC4.out.2.2, HM4.out⟩) (fun hHeld => ?_)
     refine tkq (v := ?_) 0 rfl ?_ ?_
     rotate_left
     ·intro w' hSw
      obtain ⟨x0, x1, x2, x3⟩ := hSw
      go_simp <;> with_reducible rfl
     try simp only [Act.put, sq]
     refine tkq (v := ?_) 1 rfl ?_ ?_
     rotate_left
     ·intro w' hSw
      obtain ⟨x0, x1, x2, x3⟩ := hSw
      go_simp <;> with_reducible rfl
     try simp only [Act.put, sq]
     refine tkq (v := ?_) 2 rfl ?_ ?_
     rotate_left
     ·intro w' hSw
      obtain ⟨x0, x1, x2, x3⟩ := hSw
      go_simp <;> with_reducible rfl
     try simp only [Act.put, sq]
     refine tkq (v := ?_) 3 rfl ?_ ?_
     rotate_left
     ·intro w' hSw
      obtain ⟨x0, x1, x2, x3⟩ := hSw
      go_simp <;> with_reducible rfl
     try simp only [Act.put, sq]
     refine tkq (v := ?_) 4 rfl ?_ ?_
     rotate_left
     ·intro w' hSw
      obtain ⟨x0, x1, x2, x3⟩ := hSw
      go_simp <;> with_reducible rfl
     try simp only [Act.put, sq]
     refine tkq (v := ?_) 5 rfl ?_ ?_
     rotate_left
     ·intro w' hSw
      obtain ⟨x0, x1, x2, x3⟩ := hSw
      go_simp <;> with_reducible rfl
     try simp only [Act.put, sq]
     refine tkq (v := ?_) 6 rfl ?_ ?_
     rotate_left
     ·intro w' hSw
      obtain ⟨x0, x1, x2, x3⟩ := hSw
      have hlk := HLK.out w' x3
      go_simp <;> with_reducible rfl
     try simp only [Act.put, sq]
     refine tkq (v := ?_) 7 rfl ?_ ?_
     rotate_left
     ·intro w' hSw
      obtain ⟨x0, x1, x2, x3⟩ := hSw
      go_simp <;> with_reducible rfl
     try simp only [Act.put, sq]
     refine wpAnyH_done (by kernel_rfl) ?_ _
     generalize W4.drew = W5 at *
     go_wp2_with fail
     go_roundw
     case rel => exact ⟨k + 1, y1.more (x.take k ++ [x[k]]) NC, hlt, by go_num, by rw [HTK.out, HOF.out, ← HCA.out], HLN.out⟩
     case measure => simp [intOf]; omega
   | some b =>
    rw [hm] at c0
    have hme := mapNil (some b) w1
    go_upto_region 5 with fail
    clear c0 HS hme
    have HQ0 : Hid (w1.cell? ⟨QB, 0, none⟩ = some (.string s1)) := HQB.out.c0
    have HQ1 : Hid (w1.cell? ⟨QB, 1, none⟩ = some (.int .i64 (s2 : Int))) := HQB.out.c1
    obtain ⟨E, hE, hEn, hEi⟩ := HL1.out.1.kids HP.out hm
    have HE := hide hE
    have HEN := hide hEn
    have HEI := hide hEi
    clear hE hEn hEi
    have c0 : w1.cell? ⟨PA, PO, none⟩ = some (.map (some b)) := by have h := (HL1.out.1.node HP.out).c0; rw [hm, HPA.out, HPO.out] at h; exact h
    have HC0 := hide c0
    clear c0
    have HM := hide hm
    clear hm
    by_cases hch : NdK L (x.take k) (x.take k ++ [x[k]])
    ·have hlk : ∀ w', MapG w' b E → (Instr.lookup 55 (.map (some b)) (.agg #[.string s1, .int .i64 (s2 : Int)]) false).run Tryz.prog w' = .ok (.pointer (some ⟨y.ad (x.take k ++ [x[k]]), 0, none⟩)) w' := fun w' hM => by
      have h := look_in hM HEN.out (s := x[k]) (HXK.out ▸ hsok) ((HEI.out _ _).2 ⟨hch, rfl⟩)
      rw [HXK.out] at h ⊢
      exact h
     have HLK := hide hlk
     clear hlk
     have HLN : Hid (LyS L (x.take (k + 1)) N tv y0 y w w1.drew.drew) := (HL1.out.same hlt hch).drew.drew
     obtain ⟨CA, hCA⟩ : ∃ CA, CA = y.ad (x.take k ++ [x[k]]) := ⟨_, rfl⟩
     rw [← hCA] at HLK
     have HCA := hide hCA
     clear hCA
     go_upto_region 5 with fail
     refine wp_region_held_drew (S := fun w' => w'.cell? ⟨PA, PO, none⟩ = some (.map (some b)) ∧ w'.cell? ⟨QB, 0, none⟩ = some (.string s1) ∧ w'.cell? ⟨QB, 1, none⟩ = some (.int .i64 (s2 : Int)) ∧ MapG w' b E) (by kernel_rfl) (by exact ⟨HC0.out, HQ0.out, HQ1.out, HE.out⟩) (fun hHeld => ?_)
     refine tkq (v := ?_) 0 rfl ?_ ?_
     rotate_left
     ·intro w' hSw
      obtain ⟨x0, x1, x2, x3⟩ := hSw
      go_simp <;> with_reducible rfl
     try simp only [Act.put, sq]
     refine tkq (v := ?_) 1 rfl ?_ ?_
     rotate_left
     ·intro w' hSw
      obtain ⟨x0, x1, x2, x3⟩ := hSw
      go_simp <;> with_reducible rfl
     try simp only [Act.put, sq]
     refine tkq (v := ?_) 2 rfl ?_ ?_
     rotate_left
     ·intro w' hSw
      obtain ⟨x0, x1, x2, x3⟩ := hSw
      go_simp <;> with_reducible rfl
     try simp only [Act.put, sq]
     refine tkq (v := ?_) 3 rfl ?_ ?_
     rotate_left
     ·intro w' hSw
      obtain ⟨x0, x1, x2, x3⟩ := hSw
      go_simp <;> with_reducible rfl
     try simp only [Act.put, sq]
     refine tkq (v := ?_) 4 rfl ?_ ?_
     rotate_left
     ·intro w' hSw
      obtain ⟨x0, x1, x2, x3⟩ := hSw
      go_simp <;> with_reducible rfl
     try simp only [Act.put, sq]
     refine tkq (v := ?_) 5 rfl ?_ ?_
     rotate_left
     ·intro w' hSw
      obtain ⟨x0, x1, x2, x3⟩ := hSw
      go_simp <;> with_reducible rfl
     try simp only [Act.put, sq]
     refine tkq (v := ?_) 6 rfl ?_ ?_
     rotate_left
     ·intro w' hSw
      obtain ⟨x0, x1, x2, x3⟩ := hSw
      have hlk := HLK.out w' x3
      go_simp <;> with_reducible rfl
     try simp only [Act.put, sq]
     refine tkq (v := ?_) 7 rfl ?_ ?_
     rotate_left
     ·intro w' hSw
      obtain ⟨x0, x1, x2, x3⟩ := hSw
      go_simp <;> with_reducible rfl
     try simp only [Act.put, sq]
     refine wpAnyH_done (by kernel_rfl) ?_ _
     go_upto_region 7 with fail
     refine wp_region_held_drew (S := fun w' => w'.cell? ⟨PA, PO, none⟩ = some (.map (some b)) ∧ w'.cell? ⟨QB, 0, none⟩ = some (.string s1) ∧ w'.cell? ⟨QB, 1, none⟩ = some (.int .i64 (s2 : Int)) ∧ MapG w' b E) (by kernel_rfl) (by exact ⟨HC0.out, HQ0.out, HQ1.out, HE.out⟩) (fun hHeld => ?_)
     refine tkq (v := ?_) 0 rfl ?_ ?_
     rotate_left
     ·intro w' hSw
      obtain ⟨x0, x1, x2, x3⟩ := hSw
      go_simp <;> with_reducible rfl
     try simp only [Act.put, sq]
     refine tkq (v := ?_) 1 rfl ?_ ?_
     rotate_left
     ·intro w' hSw
      obtain ⟨x0, x1, x2, x3⟩ := hSw
      go_simp <;> with_reducible rfl
     try simp only [Act.put, sq]
     refine tkq (v := ?_) 2 rfl ?_ ?_
     rotate_left
     ·intro w' hSw
      obtain ⟨x0, x1, x2, x3⟩ := hSw
      go_simp <;> with_reducible rfl
     try simp only [Act.put, sq]
     refine tkq (v := ?_) 3 rfl ?_ ?_
     rotate_left
     ·intro w' hSw
      obtain ⟨x0, x1, x2, x3⟩ := hSw
      go_simp <;> with_reducible rfl
     try simp only [Act.put, sq]
     refine tkq (v := ?_) 4 rfl ?_ ?_
     rotate_left
     ·intro w' hSw
      obtain ⟨x0, x1, x2, x3⟩ := hSw
      go_simp <;> with_reducible rfl
     try simp only [Act.put, sq]
     refine tkq (v := ?_) 5 rfl ?_ ?_
     rotate_left
     ·intro w' hSw
      obtain ⟨x0, x1, x2, x3⟩ := hSw
      go_simp <;> with_reducible rfl
     try simp only [Act.put, sq]
     refine tkq (v := ?_) 6 rfl ?_ ?_
     rotate_left
     ·intro w' hSw
      obtain ⟨x0, x1, x2, x3⟩ := hSw
      have hlk := HLK.out w' x3
      go_simp <;> with_reducible rfl
     try simp only [Act.put, sq]
     refine tkq (v := ?_) 7 rfl ?_ ?_
     rotate_left
     ·intro w' hSw
      obtain ⟨x0, x1, x2, x3⟩ := hSw
      go_simp <;> with_reducible rfl
     try simp only [Act.put, sq]
     refine wpAnyH_done (by kernel_rfl) ?_ _
     generalize w1.drew.drew = W5 at *
     go_wp2_with fail
     go_roundw
     case rel => exact ⟨k + 1, y, hlt, by go_num, by rw [HCA.out, HTK.out, HOF.out], HLN.out⟩
     case measure => simp [intOf]; omega
    ·have hlk : ∀ w', MapG w' b E → (Instr.lookup 55 (.map (some b)) (.agg #[.string s1, .int .i64 (s2 : Int)]) false).run Tryz.prog w' = .ok (.pointer none) w' := fun w' hM => by
      have h := look_out hM (s := x[k]) (HXK.out ▸ hsok) (fun v hv => hch ((HEI.out _ _).1 hv).1)
      rw [HXK.out] at h
      exact h
     have HLK := hide hlk
     clear hlk
     go_upto_region 5 with fail
     refine wp_region_held_drew (S := fun w' => w'.cell? ⟨PA, PO, none⟩ = some (.map (some b)) ∧ w'.cell? ⟨QB, 0, none⟩ = some (.string s1) ∧ w'.cell? ⟨QB, 1, none⟩ = some (.int .i64 (s2 : Int)) ∧ MapG w' b E) (by kernel_rfl) (by exact ⟨HC0.out, HQ0.out, HQ1.out, HE.out⟩) (fun hHeld => ?_)
     refine tkq (v := ?_) 0 rfl ?_ ?_
     rotate_left
     ·intro w' hSw
      obtain ⟨x0, x1, x2, x3⟩ := hSw
      go_simp <;> with_reducible rfl
     try simp only [Act.put, sq]
     refine tkq (v := ?_) 1 rfl ?_ ?_
     rotate_left
     ·intro w' hSw
      obtain ⟨x0, x1, x2, x3⟩ := hSw
      go_simp <;> with_reducible rfl
     try simp only [Act.put, sq]
     refine tkq (v := ?_) 2 rfl ?_ ?_
     rotate_left
     ·intro w' hSw
      obtain ⟨x0, x1, x2, x3⟩ := hSw
      go_simp <;> with_reducible rfl
     try simp only [Act.put, sq]
     refine tkq (v := ?_) 3 rfl ?_ ?_
     rotate_left
     ·intro w' hSw
      obtain ⟨x0, x1, x2, x3⟩ := hSw
      go_simp <;> with_reducible rfl
     try simp only [Act.put, sq]
     refine tkq (v := ?_) 4 rfl ?_ ?_
     rotate_left
     ·intro w' hSw
      obtain ⟨x0, x1, x2, x3⟩ := hSw
      go_simp <;> with_reducible rfl
     try simp only [Act.put, sq]
     refine tkq (v := ?_) 5 rfl ?_ ?_
     rotate_left
     ·intro w' hSw
      obtain ⟨x0, x1, x2, x3⟩ := hSw
      go_simp <;> with_reducible rfl
     try simp only [Act.put, sq]
     refine tkq (v := ?_) 6 rfl ?_ ?_
     rotate_left
     ·intro w' hSw
      obtain ⟨x0, x1, x2, x3⟩ := hSw
      have hlk := HLK.out w' x3
      go_simp <;> with_reducible rfl
     try simp only [Act.put, sq]
     refine tkq (v := ?_) 7 rfl ?_ ?_
     rotate_left
     ·intro w' hSw
      obtain ⟨x0, x1, x2, x3⟩ := hSw
      go_simp <;> with_reducible rfl
     try simp only [Act.put, sq]
     refine wpAnyH_done (by kernel_rfl) ?_ _
     have HL3 : Hid (LyS L (x.take k) N tv y0 y w w1.drew.drew) := HL1.out.drew.drew
     have HE3 : Hid (MapG w1.drew.drew b E) := HE.out
     have HC3 : Hid (w1.drew.drew.cell? ⟨PA, PO, none⟩ = some (.map (some b)) ∧ w1.drew.drew.cell? ⟨QB, 0, none⟩ = some (.string s1) ∧ w1.drew.drew.cell? ⟨QB, 1, none⟩ = some (.int .i64 (s2 : Int))) := ⟨HC0.out, HQ0.out, HQ1.out⟩
     have HNQ : Hid (PA ≠ b ∧ QB ≠ b) := ⟨fun e => ndb_map (HL1.out.1.node HP.out) (by rw [HPA.out, e]; exact HE.out), fun e => by obtain ⟨es, clk, h1, _⟩ := HE.out; have h2 := HQB.out; unfold Blk at h2; rw [e, h1] at h2; cases h2⟩
     have HLT : Hid (PA < w1.drew.drew.heap.size ∧ QB < w1.drew.drew.heap.size) := ⟨by have h := (HL1.out.1.node HP.out).lt; rw [HPA.out] at h; exact h, HQB.out.lt⟩
     go_upto_region 6 with fail
     refine wp_region_held_drew (S := fun w' => w'.cell? ⟨PA, PO, none⟩ = some (.map (some b)) ∧ w'.cell? ⟨QB, 0, none⟩ = some (.string s1) ∧ w'.cell? ⟨QB, 1, none⟩ = some (.int .i64 (s2 : Int))) (by kernel_rfl) (by exact HC3.out) (fun hHeld => ?_)
     generalize w1.drew.drew = W3 at *
     clear HLK HL1 HE HC0 HQ0 HQ1 HQB
     refine tkq (v := ?_) 0 rfl ?_ ?_
     rotate_left
     ·intro w' hSw
      obtain ⟨x0, x1, x2⟩ := hSw
      go_simp <;> with_reducible rfl
     try simp only [Act.put, sq]
     refine tkq (v := ?_) 1 rfl ?_ ?_
     rotate_left
     ·intro w' hSw
      obtain ⟨x0, x1, x2⟩ := hSw
      go_simp <;> with_reducible rfl
     try simp only [Act.put, sq]
     refine tkq (v := ?_) 2 rfl ?_ ?_
     rotate_left
     ·intro w' hSw
      obtain ⟨x0, x1, x2⟩ := hSw
      go_simp <;> with_reducible rfl
     try simp only [Act.put, sq]
     refine tkq (v := ?_) 3 rfl ?_ ?_
     rotate_left
     ·intro w' hSw
      obtain ⟨x0, x1, x2⟩ := hSw
      go_simp <;> with_reducible rfl
     try simp only [Act.put, sq]
     refine tkq (v := ?_) 4 rfl ?_ ?_
     rotate_left
     ·intro w' hSw
      obtain ⟨x0, x1, x2⟩ := hSw
      go_simp <;> with_reducible rfl
     try simp only [Act.put, sq]
     refine tkq (v := ?_) 5 rfl ?_ ?_
     rotate_left
     ·intro w' hSw
      obtain ⟨x0, x1, x2⟩ := hSw
      go_simp <;> with_reducible rfl
     try simp only [Act.put, sq]
     refine tkq (v := ?_) 6 rfl ?_ ?_
     rotate_left
     ·intro w' hSw
      obtain ⟨x0, x1, x2⟩ := hSw
      go_simp <;> with_reducible rfl
     try simp only [Act.put, sq]
     obtain ⟨W4, hr4, hM4, h41, h42, h43, h44, h45⟩ := run_putG (w := W3.alloc (.cells #[.map none, .slice none 0 0] 57)) (HE3.out.kept (Below.heap_alloc _ _ _ HE3.out.lt)) x[k] (HXK.out ▸ hsok) (fun v hv => hch ((HEI.out _ _).1 hv).1) (.pointer (some ⟨W3.heap.size, 0, none⟩))
     have HR4 : Hid ((Instr.mapUpdate 55 (.map (some b)) (.agg #[.string s1, .int .i64 (s2 : Int)]) (.pointer (some ⟨W3.heap.size, 0, none⟩))).run Tryz.prog (W3.alloc (.cells #[.map none, .slice none 0 0] 57)) = .ok () W4) := by rw [HXK.out] at hr4; exact hr4
     have HC4 : Hid (W4.cell? ⟨PA, PO, none⟩ = some (.map (some b)) ∧ W4.cell? ⟨QB, 0, none⟩ = some (.string s1) ∧ W4.cell? ⟨QB, 1, none⟩ = some (.int .i64 (s2 : Int))) := by
      obtain ⟨h1, h2, h3⟩ := HC3.out
      have hk : ∀ {B i v}, W3.cell? ⟨B, i, none⟩ = some v → B ≠ b → B < W3.heap.size → W4.cell? ⟨B, i, none⟩ = some v := fun {B i v} h hne hl => by
       rw [World.cell?_of_block (w := W3.alloc (.cells #[.map none, .slice none 0 0] 57)) (a := ⟨B, i, none⟩) (h45 B hne)]
       rw [World.cell?_of_block (w := W3) (a := ⟨B, i, none⟩) (Below.heap_alloc _ _ _ hl)]
       exact h
      exact ⟨hk h1 HNQ.out.1 HLT.out.1, hk h2 HNQ.out.2 HLT.out.2, hk h3 HNQ.out.2 HLT.out.2⟩
     have HL4 : Hid (LyS L (x.take (k + 1)) N tv y0 (y.more (x.take k ++ [x[k]]) W3.heap.size) w W4) := HL3.out.child hlt hch HM.out HEI.out HEN.out hM4 h41 h42 h43 h44 h45
     have HM4 := hide hM4
     have HCA : Hid (W3.heap.size = (y.more (x.take k ++ [x[k]]) W3.heap.size).ad (x.take k ++ [x[k]])) := by simp [Lay.more, Hid]
     have HEN2 : Hid (((E ++ [(x[k], Value.pointer (some ⟨W3.heap.size, 0, none⟩))]).map (·.1)).Nodup) := by
      unfold Hid
      rw [List.map_append, List.nodup_append]
      refine ⟨HEN.out, by simp, fun a ha c hc e7 => ?_⟩
      subst e7
      obtain ⟨⟨a', v'⟩, hav, rfl⟩ := List.mem_map.1 ha
      have e8 : a' = x[k] := by simpa using hc
      subst e8
      exact hch ((HEI.out _ _).1 hav).1
     clear hr4 hM4 h41 h42 h43 h44 h45
     refine rdq 7 rfl fun K hK => ?_
     go_simp
     refine hK.out _ _ (by exact ⟨(World.cell?_of_block (w := W3) (a := ⟨PA, PO, none⟩) (Below.heap_alloc _ _ _ HLT.out.1)).trans HC3.out.1, (World.cell?_of_block (w := W3) (a := ⟨QB, 0, none⟩) (Below.heap_alloc _ _ _ HLT.out.2)).trans HC3.out.2.1, (World.cell?_of_block (w := W3) (a := ⟨QB, 1, none⟩) (Below.heap_alloc _ _ _ HLT.out.2)).trans HC3.out.2.2⟩) (fun hHeld => ?_)
     clear hK K
     try simp only [Act.put, sq]
     refine rdq 8 rfl fun K hK => ?_
     have hr4 := HR4.out
     go_simp
     refine hK.out _ _ (by exact HC4.out) (fun hHeld => ?_)
     clear hK K
     try simp only [Act.put, sq]
     clear hr4
     refine wpAnyH_done (by kernel_rfl) ?_ _
     obtain ⟨NB, hNB⟩ : ∃ NB, NB = W3.heap.size := ⟨_, rfl⟩
     have hlk : ∀ w', MapG w' b (E ++ [(x[k], .pointer (some ⟨W3.heap.size, 0, none⟩))]) → (Instr.lookup 55 (.map (some b)) (.agg #[.string s1, .int .i64 (s2 : Int)]) false).run Tryz.prog w' = .ok (.pointer (some ⟨W3.heap.size, 0, none⟩)) w' := fun w' hM => by
      have h := look_in hM HEN2.out (s := x[k]) (HXK.out ▸ hsok) (v := .pointer (some ⟨W3.heap.size, 0, none⟩)) (by simp)
      rw [HXK.out] at h
      exact h
     obtain ⟨E2, hE2⟩ : ∃ E2, E2 = E ++ [(x[k], Value.pointer (some ⟨W3.heap.size, 0, none⟩))] := ⟨_, rfl⟩
     rw [← hE2] at hlk HM4
     have HLK := hide hlk
     clear hlk hE2
     have HLN : Hid (LyS L (x.take (k + 1)) N tv y0 (y.more (x.take k ++ [x[k]]) W3.heap.size) w W4.drew) := HL4.out.drew
     generalize W3.heap.size = NC at *
     clear hNB NB HR4 HL3 HE3 HC3 HNQ HLT HEN2
     go_upto_region 7 with fail
     refine wp_region_held_drew (S := fun w' => w'.cell? ⟨PA, PO, none⟩ = some (.map (some b)) ∧ w'.cell? ⟨QB, 0, none⟩ = some (.string s1) ∧ w'.cell? ⟨QB, 1, none⟩ = some (.int .i64 (s2 : Int)) ∧ MapG w' b E2) (by kernel_rfl) (by exact ⟨HC4.out.1, HC4.out.2.1, HC4.out.2.2, HM4.out⟩) (fun hHeld => ?_)
     refine tkq (v := ?_) 0 rfl ?_ ?_
     rotate_left
     ·intro w' hSw
      obtain ⟨x0, x1, x2, x3⟩ := hSw
      go_simp <;> with_reducible rfl
     try simp only [Act.put, sq]
     refine tkq (v := ?_) 1 rfl ?_ ?_
     rotate_left
     ·intro w' hSw
      obtain ⟨x0, x1, x2, x3⟩ := hSw
      go_simp <;> with_reducible rfl
     try simp only [Act.put, sq]
     refine tkq (v := ?_) 2 rfl ?_ ?_
     rotate_left
     ·intro w' hSw
      obtain ⟨x0, x1, x2, x3⟩ := hSw
      go_simp <;> with_reducible rfl
     try simp only [Act.put, sq]
     refine tkq (v := ?_) 3 rfl ?_ ?_
     rotate_left
     ·intro w' hSw
      obtain ⟨x0, x1, x2, x3⟩ := hSw
      go_simp <;> with_reducible rfl
     try simp only [Act.put, sq]
     refine tkq (v := ?_) 4 rfl ?_ ?_
     rotate_left
     ·intro w' hSw
      obtain ⟨x0, x1, x2, x3⟩ := hSw
      go_simp <;> with_reducible rfl
     try simp only [Act.put, sq]
     refine tkq (v := ?_) 5 rfl ?_ ?_
     rotate_left
     ·intro w' hSw
      obtain ⟨x0, x1, x2, x3⟩ := hSw
      go_simp <;> with_reducible rfl
     try simp only [Act.put, sq]
     refine tkq (v := ?_) 6 rfl ?_ ?_
     rotate_left
     ·intro w' hSw
      obtain ⟨x0, x1, x2, x3⟩ := hSw
      have hlk := HLK.out w' x3
      go_simp <;> with_reducible rfl
     try simp only [Act.put, sq]
     refine tkq (v := ?_) 7 rfl ?_ ?_
     rotate_left
     ·intro w' hSw
      obtain ⟨x0, x1, x2, x3⟩ := hSw
      go_simp <;> with_reducible rfl
     try simp only [Act.put, sq]
     refine wpAnyH_done (by kernel_rfl) ?_ _
     generalize W4.drew = W5 at *
     go_wp2_with fail
     go_roundw
     case rel => exact ⟨k + 1, y.more (x.take k ++ [x[k]]) NC, hlt, by go_num, by rw [HTK.out, HOF.out, ← HCA.out], HLN.out⟩
     case measure => simp [intOf]; omega
  ·have hki : ¬ (k : Int) < (sp.length : Int) := by omega
   have htk : x.take k = x := List.take_of_length_le (by rw [HXL.out]; omega)
   rw [htk] at HS HP
   rw [htk]
   clear htk
   obtain ⟨PA, hPA⟩ : ∃ PA, y.ad x = PA := ⟨_, rfl⟩
   obtain ⟨PO, hPO⟩ : ∃ PO, ofN x = PO := ⟨_, rfl⟩
   have hnd := HS.out.1.node HP.out
   have hnu := HS.out.1.nums HP.out
   have HL1 : Hid (LyS L x N tv y0 y w (wr.alloc (.cells #[.int .i64 (L.length : Int)] 3))) := HS.out.alloc _
   have hzr : w.heap.size ≤ wr.heap.size := HS.out.2.2.1.size
   have hnl : (nmL L x).length ≤ L.length := by unfold nmL; exact Nat.le_trans (List.length_filter_le _ _) (by simp)
   obtain ⟨g2, cap2, w3, hr3, ho3, hg3, hat3⟩ := app_num (hnu.alloc (.cells #[.int .i64 (L.length : Int)] 3)) (by simp; omega) (by omega) L.length wr.heap.size (Blk.new _ _ _)
   have HD := hide (HL1.out.done ho3 hg3 (fun b hb => by
    have e : g2 = b := by simpa [Value.ownBlock] using hb
    subst e
    rcases hat3 with h | h
    ·exact Or.inl h
    ·exact Or.inr (by rw [h]; exact Nat.le_refl _)))
   rw [hPA, hPO] at HD
   rw [hPA, hPO]
   have c1 := hnd.c1
   rw [hPA, hPO] at c1
   have hnd3 : NdB w3 x PA tv (.map (y.mp x)) (y.nv x) := by
    have h1 := HL1.out.1.node HP.out
    rw [hPA] at h1
    exact h1.kept (hg3.block PA h1.lt fun e => own_ndb (HL1.out.1.nums HP.out) e.symm h1)
   have c3 := hnd3.c1
   rw [hPO] at c3
   have f3 := hnd3.fz (PO + 1)
   have l3 := hnd3.lt
   have HA := hide hr3
   obtain ⟨va, vc, hva⟩ := own_sliceI hnu
   rw [hva] at c1 c3 HA
   clear hr3 ho3 hg3 hat3 hnd hnu hnd3 hPA hPO hva HL1 HS HP
   go_wp2_with (at_builtin; refine wpList_append_eq rfl _ _ _ _ rfl rfl rfl HA.out ?_)
   go_end0
   exact ⟨rfl, HD.out⟩
structure RowX (w : World) (N : Nat) (Z : Nat → Prop) (v : Value) (l : List Tm) (xs : List Value) : Prop where
 own : w.ownsRow N 26 2 v l.length xs
 row : RowT w Z l xs
theorem RowX.start (w : World) (N : Nat) (Z : Nat → Prop) : RowX w N Z (.slice none 0 0) [] [] := ⟨World.ownsRow_nil w N _ 2, rfl⟩
theorem RowX.mono {w : World} {N : Nat} {Z Z' : Nat → Prop} {v : Value} {l : List Tm} {xs : List Value} (h : RowX w N Z v l xs) (hZ : ∀ b, Z b → b < w.heap.size → Z' b) : RowX w N Z' v l xs :=
 ⟨h.own, h.row.imp fun a l hs => hs.mono hZ⟩
theorem RowX.exq {w w' : World} {N : Nat} {Q Z : Nat → Prop} {v : Value} {l : List Tm} {xs : List Value} (h : RowX w N Z v l xs) (he : ExQ Q w w') (hv : ∀ b, v.ownBlock = some b → ¬ Q b) (hZ : ∀ b, Z b → ¬ Q b) : RowX w' N Z v l xs :=
 ⟨ownsRow_at h.own fun g hg => he.block g (h.own.lt g hg).2 (hv g hg), h.row.imp fun a l hs => hs.exq he hZ⟩
theorem RowX.below {w w' : World} {N : Nat} {Z : Nat → Prop} {v : Value} {l : List Tm} {xs : List Value} (h : RowX w N Z v l xs) (hb : Below w.heap.size w w') : RowX w' N Z v l xs :=
 ⟨ownsRow_at h.own fun g hg => hb.block g (h.own.lt g hg).2, h.row.imp fun a l hs => hs.later hb⟩
theorem RowX.shape {w : World} {N : Nat} {Z : Nat → Prop} {v : Value} {l : List Tm} {xs : List Value} (h : RowX w N Z v l xs) : ∃ a c, v = .slice a l.length c := by
 rcases h.own.2 with ⟨h1, h0⟩ | ⟨g, cap, cur, h1, _⟩
 ·exact ⟨none, 0, by rw [h1, h0]⟩
 ·exact ⟨_, _, h1⟩
theorem RowX.sl {w : World} {N : Nat} {Z : Nat → Prop} {a : Option Addr} {c : Nat} {l : List Tm} {xs : List Value} (h : RowX w N Z (.slice a l.length c) l xs) : Sl w (fun b => Z b ∨ (Value.slice a l.length c).ownBlock = some b) a l := by
 rcases h.own.2 with ⟨h1, h0⟩ | ⟨g, cap, cur, h1, _, _, hnc, hcm, _⟩
 ·have : l = [] := List.length_eq_zero_iff.1 h0
  subst this
  exact ⟨by simp, Or.inl rfl⟩
 ·have hc := h.own.cells (g := g) (by rw [h1]; rfl)
  cases h1
  unfold maxLen at hcm
  refine ⟨by omega, Or.inr ⟨g, 0, rfl, ?_⟩⟩
  refine lies_of_rowT (w := w) (X := Z) g (Or.inr rfl) l xs 0 h.row (fun a k hs => hs.mono fun b hb _ => Or.inl hb) fun j u hj => ?_
  have := hc j u hj
  rw [show (⟨g, 0, none⟩ : Addr).add j = ⟨g, 0 + j, none⟩ by by_cases h0 : j = 0 <;> simp [Addr.add, h0]] at this
  exact this
theorem app_zeroX {w : World} {N : Nat} {Z : Nat → Prop} {u : Value} {L : List Tm} {xs : List Value} (h : RowX w N Z u L xs) (hN : N ≤ w.heap.size) (hl : L.length ≤ 1000000) (B : Nat) (hB : Blk w B #[.string ⟨#[]⟩, .slice none 0 0] 26) :
  ∃ g cap w3, (Builtin.append_ #[23, 23] 23 #[u, .slice (some ⟨B, 0, none⟩) 1 1]).run Tryz.prog w = .ok (.slice (some ⟨g, 0, none⟩) (L.length + 1) cap) w3 ∧
   w3.ownsRow N 26 2 (.slice (some ⟨g, 0, none⟩) (L.length + 1) cap) (L.length + 1) (xs ++ [.string ⟨#[]⟩, .slice none 0 0]) ∧ w.grownBy w3 u.ownBlock ∧ (u.ownBlock = some g ∨ g = w.heap.size) ∧ g < w3.heap.size := by
 obtain ⟨i0, hi, hz0, hz1, hz2⟩ := info_parts Tryz.infoTerm
 exact run_append_lies (P := Tryz.prog) (w := w) 23 23 N 26 i0 _ 2 40 Tryz.underlying23 hi hz0 hz1 hz2 rfl (by decide) u L.length xs h.own ⟨B, 0, none⟩ 1 1 [.string ⟨#[]⟩, .slice none 0 0] rfl (World.news_of_block hB) (fun x hx => by simp at hx; rcases hx with rfl | rfl <;> rfl) (by decide) (by unfold maxLen; omega) (by omega) hN _ rfl
theorem setC_swap (w : World) {a b : Nat} (i j : Nat) (u v : Value) (h : a ≠ b) : (w.setCell ⟨a, i, none⟩ u).setCell ⟨b, j, none⟩ v = (w.setCell ⟨b, j, none⟩ v).setCell ⟨a, i, none⟩ u := by
 have hh : ((w.setCell ⟨a, i, none⟩ u).setCell ⟨b, j, none⟩ v).heap = ((w.setCell ⟨b, j, none⟩ v).setCell ⟨a, i, none⟩ u).heap := by
  apply Array.ext_getElem?
  intro k
  by_cases hb : k = b
  ·subst hb
   rw [Below.heap_setCell (w.setCell ⟨k, j, none⟩ v) ⟨a, i, none⟩ u k (Ne.symm h)]
   simp only [World.setCell, Array.getElem?_modify]
   simp [h, Ne.symm h]
  ·rw [Below.heap_setCell (w.setCell ⟨a, i, none⟩ u) ⟨b, j, none⟩ v k hb]
   by_cases ha : k = a
   ·subst ha
    simp only [World.setCell, Array.getElem?_modify]
    simp [h, Ne.symm h]
   ·rw [Below.heap_setCell _ _ _ _ ha, Below.heap_setCell _ _ _ _ ha, Below.heap_setCell _ _ _ _ hb]
 unfold World.setCell at *
 simpa using hh
theorem row_last {w : World} {N g k cap : Nat} {xs : List Value} (ho : w.ownsRow N 26 2 (.slice (some ⟨g, 0, none⟩) (k + 1) cap) (k + 1) (xs ++ [.string ⟨#[]⟩, .slice none 0 0])) (hx : xs.length = k * 2) : w.cell? ⟨g, k * 2, none⟩ = some (.string ⟨#[]⟩) ∧ w.cell? ⟨g, k * 2 + 1, none⟩ = some (.slice none 0 0) := by
 refine ⟨?_, ?_⟩
 ·rw [ho.cellAt _ (by omega), ← hx, List.getElem?_append_right (Nat.le_refl _)]; simp
 ·rw [ho.cellAt _ (by omega), ← hx, List.getElem?_append_right (by omega)]; simp
theorem set_two (xs : List Value) (a b c d : Value) : ((xs ++ [a, b]).set xs.length c).set (xs.length + 1) d = xs ++ [c, d] := by
 rw [List.set_append_right _ _ (Nat.le_refl _), Nat.sub_self, List.set_append_right _ _ (by omega), show xs.length + 1 - xs.length = 1 by omega]
 rfl
theorem Tri.setT {w : World} {N : Nat} {tv : Value} {A : List Sg → Prop} {nm : List Sg → List Nat} {y : Lay} (h : Tri w N tv A nm y) (v : Value) : Tri (w.setCell ⟨y.ad [], 0, none⟩ v) N v A nm y := by
 have hk : ∀ b, b ≠ y.ad [] → (w.setCell ⟨y.ad [], 0, none⟩ v).heap[b]? = w.heap[b]? := fun b hb => Below.heap_setCell _ _ _ _ hb
 refine ⟨h.root, h.up, fun {u} hu => ?_, h.inj, h.leaf, fun {u b} hu e => ?_, h.minj, fun {u} hu => ?_, h.ninj⟩
 ·have h0 := h.node hu
  by_cases e : u = []
  ·subst e
   unfold NdB at *
   rw [if_pos rfl] at *
   simpa using h0.set 0 v
  ·unfold NdB at *
   rw [if_neg e] at *
   exact h0.setOther 0 v fun e2 => e (h.inj hu h.root e2)
 ·obtain ⟨E, h3, h4⟩ := h.kids hu e
  exact ⟨E, h3.kept (hk b fun e2 => ndb_map (h.node h.root) (e2 ▸ h3)), h4⟩
 ·refine ownsRow_at (h.nums hu) fun g hg => hk g fun e => ?_
  subst e
  exact own_ndb (h.nums hu) hg (h.node h.root)
def wsL (ts : List Tm) : List (List Sg) := ts.map fun t => wdL [t]
theorem wsL_snoc (ts : List Tm) (t : Tm) : wsL (ts ++ [t]) = wsL ts ++ [wdL [t]] := by simp [wsL]
theorem wsL_length (ts : List Tm) : (wsL ts).length = ts.length := by simp [wsL]
structure NwS (N X : Nat) (ts ks : List Tm) (w : World) (y : Lay) (tv : Value) (Z : Nat → Prop) : Prop where
 tri : Tri w N tv (Nd (wsL ts)) (nmL (wsL ts)) y
 here : y.ad [] = X
 row : ∃ xs, RowX w N Z tv ks xs
 zin : ∀ b, Z b → N ≤ b ∧ b < w.heap.size ∧ ¬ OwnT (Nd (wsL ts)) y b ∧ tv.ownBlock ≠ some b
 own : ∀ b, tv.ownBlock = some b → ¬ OwnT (Nd (wsL ts)) y b
 ge : ∀ b, OwnT (Nd (wsL ts)) y b → N ≤ b
theorem NwS.later {N X : Nat} {ts ks : List Tm} {w w' : World} {y : Lay} {tv : Value} {Z : Nat → Prop} (h : NwS N X ts ks w y tv Z) (hb : Below w.heap.size w w') : NwS N X ts ks w' y tv Z :=
 ⟨h.tri.later hb, h.here, h.row.imp fun xs hr => hr.below hb, fun b hz => ⟨(h.zin b hz).1, Nat.lt_of_lt_of_le (h.zin b hz).2.1 hb.size, (h.zin b hz).2.2⟩, h.own, h.ge⟩
theorem NwS.xlt {N X : Nat} {ts ks : List Tm} {w : World} {y : Lay} {tv : Value} {Z : Nat → Prop} (h : NwS N X ts ks w y tv Z) : X < w.heap.size := by
 rw [← h.here]; exact (h.tri.node h.tri.root).lt
theorem NwS.blk {N X : Nat} {ts ks : List Tm} {w : World} {y : Lay} {tv : Value} {Z : Nat → Prop} (h : NwS N X ts ks w y tv Z) : Blk w X #[tv, .map (y.mp []), y.nv []] 59 := by
 have h1 := h.tri.node h.tri.root
 unfold NdB at h1
 rw [if_pos rfl, h.here] at h1
 exact h1
theorem NwS.push {N X g cap c1 : Nat} {ts ks : List Tm} {w W W8 : World} {y : Lay} {tv : Value} {Z : Nat → Prop} {t : Tm} {a1 : Option Addr} {xs : List Value} (h : NwS N X ts ks w y tv Z) (hN : N ≤ w.heap.size) (hb : Below w.heap.size w W) (hr : RowX W N Z tv ks xs)
  (hs : Sl W (fun b => w.heap.size ≤ b) a1 t.args)
  (ho : W8.ownsRow N 26 2 (.slice (some ⟨g, 0, none⟩) (ks.length + 1) cap) (ks.length + 1) (xs ++ [.string ⟨#[]⟩, .slice none 0 0])) (hg : W.grownBy W8 tv.ownBlock) (hat : tv.ownBlock = some g ∨ g = W.heap.size) :
  NwS N X ts (ks ++ [t]) (((W8.setCell ⟨g, ks.length * 2, none⟩ (.string t.name)).setCell ⟨g, ks.length * 2 + 1, none⟩ (.slice a1 t.args.length c1)).setCell ⟨X, 0, none⟩ (.slice (some ⟨g, 0, none⟩) (ks.length + 1) cap)) y (.slice (some ⟨g, 0, none⟩) (ks.length + 1) cap) (fun b => Z b ∨ (w.heap.size ≤ b ∧ b < W.heap.size)) ∧
  ExQ (fun b => b = X ∨ tv.ownBlock = some b) w (((W8.setCell ⟨g, ks.length * 2, none⟩ (.string t.name)).setCell ⟨g, ks.length * 2 + 1, none⟩ (.slice a1 t.args.length c1)).setCell ⟨X, 0, none⟩ (.slice (some ⟨g, 0, none⟩) (ks.length + 1) cap)) := by
 have hxl := h.xlt
 have hzs := hb.size
 have hgs := hg.size
 have hot : ∀ b, OwnT (Nd (wsL ts)) y b → b < w.heap.size := fun b hb => h.tri.lt hb
 have hgo : ¬ OwnT (Nd (wsL ts)) y g := fun e => by
  rcases hat with h1 | h1
  ·exact h.own g h1 e
  ·have := hot g e; omega
 have hxo : OwnT (Nd (wsL ts)) y X := ⟨[], h.tri.root, Or.inl h.here⟩
 have hxg : X ≠ g := fun e => hgo (e ▸ hxo)
 have hxl8 : xs.length = ks.length * 2 := hr.own.1
 have st1 := ho.stored (ks.length * 2) (.string t.name)
 have st2 := st1.1.stored (ks.length * 2 + 1) (.slice a1 t.args.length c1)
 have e2 : ((xs ++ [Value.string ⟨#[]⟩, Value.slice none 0 0]).set (ks.length * 2) (.string t.name)).set (ks.length * 2 + 1) (.slice a1 t.args.length c1) = xs ++ [.string t.name, .slice a1 t.args.length c1] := by
  rw [← hxl8]; exact set_two _ _ _ _ _
 rw [e2] at st2
 -- frames
 have E1 : ExQ (fun b => b = X ∨ tv.ownBlock = some b) w W8 := (ExQ.ofBelow hb).grown hg fun k hk => Or.inr (Or.inr hk)
 have hgQ : (g = X ∨ tv.ownBlock = some g) ∨ w.heap.size ≤ g := by
  rcases hat with h1 | h1
  ·exact Or.inl (Or.inr h1)
  ·exact Or.inr (by omega)
 have E2 := (E1.setOr hgQ (ks.length * 2) (.string t.name)).setOr hgQ (ks.length * 2 + 1) (.slice a1 t.args.length c1)
 have E3 := E2.setOr (B := X) (Or.inl (Or.inl rfl)) 0 (.slice (some ⟨g, 0, none⟩) (ks.length + 1) cap)
 have T2 : Tri ((W8.setCell ⟨g, ks.length * 2, none⟩ (.string t.name)).setCell ⟨g, ks.length * 2 + 1, none⟩ (.slice a1 t.args.length c1)) N tv (Nd (wsL ts)) (nmL (wsL ts)) y := by
  refine h.tri.kept fun b hbo => ?_
  have hbg : b ≠ g := fun e => hgo (e ▸ hbo)
  have hbl := hot b hbo
  rw [Below.heap_setCell _ _ _ _ hbg, Below.heap_setCell _ _ _ _ hbg, hg.block b (by omega) (fun e => h.own b e.symm hbo)]
  exact hb.block b hbl
 refine ⟨⟨?_, h.here, ⟨xs ++ [.string t.name, .slice a1 t.args.length c1], ?_, ?_⟩, fun b hz => ?_, fun b hv => ?_, h.ge⟩, E3⟩
 ·have h4 := T2.setT (.slice (some ⟨g, 0, none⟩) (ks.length + 1) cap)
  rw [h.here] at h4
  exact h4
 ·rw [List.length_append]
  exact ownsRow_at st2.1 fun b hv => Below.heap_setCell _ _ _ _ (by
   have e : g = b := by simpa [Value.ownBlock] using hv
   rw [← e]; exact fun e3 => hxg e3.symm)
 ·have key : ∀ (a : Option Addr) (l : List Tm), Sl W (fun b => Z b ∨ (w.heap.size ≤ b ∧ b < W.heap.size)) a l → Sl (((W8.setCell ⟨g, ks.length * 2, none⟩ (.string t.name)).setCell ⟨g, ks.length * 2 + 1, none⟩ (.slice a1 t.args.length c1)).setCell ⟨X, 0, none⟩ (.slice (some ⟨g, 0, none⟩) (ks.length + 1) cap)) (fun b => Z b ∨ (w.heap.size ≤ b ∧ b < W.heap.size)) a l := fun a l hsl => by
   refine hsl.kept fun b hbz => ?_
   have hlt : b < W.heap.size := by
    rcases hbz with h1 | h1
    ·have := (h.zin b h1).2.1; omega
    ·exact h1.2
   have hbt : tv.ownBlock ≠ some b := by
    rcases hbz with h1 | h1
    ·exact (h.zin b h1).2.2.2
    ·intro e; obtain ⟨xs0, hr0⟩ := h.row; have := (hr0.own.lt b e).2; omega
   have hbg : b ≠ g := fun e => by
    subst e
    rcases hat with h1 | h1
    ·exact hbt h1
    ·omega
   have hbx : b ≠ X := fun e => by
    subst e
    rcases hbz with h1 | h1
    ·exact (h.zin _ h1).2.2.1 hxo
    ·omega
   rw [Below.heap_setCell _ _ _ _ hbx, Below.heap_setCell _ _ _ _ hbg, Below.heap_setCell _ _ _ _ hbg]
   exact hg.block b hlt (fun e => hbt e.symm)
  refine RowT.append (hr.row.imp fun a l hsl => key a l (hsl.mono fun b hz _ => Or.inl hz)) ⟨a1, c1, [], rfl, key _ _ (hs.mono fun b hz hl => Or.inr ⟨hz, hl⟩), rfl⟩
 ·have hsz : w.heap.size ≤ (((W8.setCell ⟨g, ks.length * 2, none⟩ (.string t.name)).setCell ⟨g, ks.length * 2 + 1, none⟩ (.slice a1 t.args.length c1)).setCell ⟨X, 0, none⟩ (.slice (some ⟨g, 0, none⟩) (ks.length + 1) cap)).heap.size := E3.size
  have hsz2 : W.heap.size ≤ (((W8.setCell ⟨g, ks.length * 2, none⟩ (.string t.name)).setCell ⟨g, ks.length * 2 + 1, none⟩ (.slice a1 t.args.length c1)).setCell ⟨X, 0, none⟩ (.slice (some ⟨g, 0, none⟩) (ks.length + 1) cap)).heap.size := by simpa [World.setCell] using hgs
  rcases hz with h1 | h1
  ·obtain ⟨z1, z2, z3, z4⟩ := h.zin b h1
   refine ⟨z1, by omega, z3, fun e => ?_⟩
   have e3 : g = b := by simpa [Value.ownBlock] using e
   subst e3
   rcases hat with h5 | h5
   ·exact z4 h5
   ·omega
  ·refine ⟨by omega, by omega, fun e => by have := hot b e; omega, fun e => ?_⟩
   have e3 : g = b := by simpa [Value.ownBlock] using e
   subst e3
   rcases hat with h5 | h5
   ·obtain ⟨xs0, hr0⟩ := h.row; have := (hr0.own.lt _ h5).2; omega
   ·omega
 ·have e3 : g = b := by simpa [Value.ownBlock] using hv
  rw [← e3]; exact hgo
theorem ly_frame {L : List (List Sg)} {x : List Sg} {N : Nat} {tv : Value} {y0 : Lay} {w w' : World} (h : LyPost L x N tv y0 w w') : ExQ (OwnT (Nd L) y0) w w' := by
 obtain ⟨y, _, _, h3, _⟩ := h
 exact h3
theorem NwS.laid {N X : Nat} {ts ks : List Tm} {w w' : World} {y : Lay} {tv : Value} {Z : Nat → Prop} {t : Tm} (hN : N ≤ w.heap.size) (h : NwS N X ts ks w y tv Z) (hl : LyPost (wsL ts) (wdL [t]) N tv y w w') : ∃ y', NwS N X (ts ++ [t]) ks w' y' tv Z := by
 obtain ⟨y', h1, h2, h3, h4⟩ := hl
 rw [← wsL_snoc] at h1 h4
 refine ⟨y', h1, h2.trans h.here, ?_, fun b hz => ?_, fun b hv e => ?_, fun b hb => ?_⟩
 ·obtain ⟨xs, hr⟩ := h.row
  exact ⟨xs, hr.exq h3 (fun b hv => h.own b hv) (fun b hz => (h.zin b hz).2.2.1)⟩
 ·obtain ⟨z1, z2, z3, z4⟩ := h.zin b hz
  refine ⟨z1, Nat.lt_of_lt_of_le z2 h3.size, fun e => ?_, z4⟩
  rcases h4 b e with h5 | h5
  ·exact z3 h5
  ·omega
 ·obtain ⟨xs, hr⟩ := h.row
  rcases h4 b e with h5 | h5
  ·exact h.own b hv h5
  ·have := (hr.own.lt b hv).2; omega
 ·rcases h4 b hb with h5 | h5
  ·exact h.ge b h5
  ·omega
theorem sg_ok (l : List Tm) : errL l = 0 → sizeL l ≤ 1000 → ∀ s ∈ wdL l, SgOk s := by
 induction l using Tm.indL with
 | h0 => intro _ _ s hs; simp [wdL] at hs
 | h n l r ihl ihr =>
  intro he hz s hs
  obtain ⟨h1, h2⟩ := errL_cons_zero.1 he
  obtain ⟨hn, _, hl⟩ := errL_knot h1
  rw [sizeI_cons] at hz
  have hz2 : 1 + (sizeL l + sizeL r) ≤ 1000 := hz
  rw [wdL_cons] at hs
  rcases List.mem_cons.1 hs with rfl | hs
  ·unfold sgT
   split
   ·exact ⟨Nat.zero_le _, Nat.zero_le _⟩
   ·have h3 : n.size ≤ 8 := by simp [nameB] at hn; omega
    have h4 := sizeL_len l
    exact ⟨by show n.size ≤ _; omega, by show l.length ≤ _; omega⟩
  ·rcases List.mem_append.1 hs with hs | hs
   ·exact ihl hl (by omega) s hs
   ·exact ihr h2 (by omega) s hs
def rowTE : List Tm → Int
 | [] => 0
 | t :: r => if mayE t = 0 then rowTE r else mayE t
theorem rowTE_take {l : List Tm} : ∀ {k : Nat} (h : k < l.length), rowTE (l.take k) = 0 → rowTE (l.take (k + 1)) = mayE l[k] := by
 induction l with
 | nil => intro k h; simp at h
 | cons t r ih =>
  intro k h h0
  cases k with
  | zero => simp [rowTE]; intro h1; exact h1.symm
  | succ k =>
   simp only [List.take_succ_cons, rowTE] at h0 ⊢
   split at h0
   ·rename_i h1
    rw [if_pos h1]
    exact ih (by simpa using h) h0
   ·rename_i h1; exact absurd h0 h1
theorem rowTE_first {l : List Tm} : ∀ {k : Nat} (h : k < l.length), rowTE (l.take k) = 0 → mayE l[k] ≠ 0 → rowTE l = mayE l[k] := by
 induction l with
 | nil => intro k h; simp at h
 | cons t r ih =>
  intro k h h0 hk
  cases k with
  | zero => simp only [List.getElem_cons_zero] at hk ⊢; simp [rowTE, hk]
  | succ k =>
   simp only [List.take_succ_cons, rowTE] at h0
   split at h0
   ·rename_i h1
    simp only [List.getElem_cons_succ] at hk ⊢
    rw [rowTE, if_pos h1]
    exact ih (by simpa using h) h0 hk
   ·rename_i h1; exact absurd h0 h1
theorem rowTE_all {l : List Tm} (h : rowTE l = 0) : ∀ t ∈ l, mayE t = 0 := by
 induction l with
 | nil => intro t ht; cases ht
 | cons a r ih =>
  simp only [rowTE] at h
  split at h
  ·rename_i h1
   intro t ht
   rcases List.mem_cons.1 ht with rfl | ht
   ·exact h1
   ·exact ih h t ht
  ·rename_i h1; exact absurd h h1
theorem mayE_zero {t : Tm} (h : mayE t = 0) : sizeL [t] ≤ 200 ∧ errL [t] = 0 := by
 unfold mayE at h
 split at h
 ·cases h
 ·rename_i h1; exact ⟨by omega, h⟩
def newE (l : List Tm) : Int := if 40 < l.length then 3 else rowTE l
def NwPost (l : List Tm) (w : World) (e : Ending) (w' : World) : Prop :=
 Below w.heap.size w w' ∧ ((newE l ≠ 0 ∧ e = .returned (.tuple #[.pointer none, .int .i64 (newE l)])) ∨
  (newE l = 0 ∧ ∃ X y tv Z, e = .returned (.tuple #[.pointer (some ⟨X, 0, none⟩), .int .i64 0]) ∧ NwS w.heap.size X l l w' y tv Z))
def TmS (N : Nat) (w : World) (v : Value) (l : List Tm) : Prop := ∃ xs, RowX w N (fun b => some b ≠ v.ownBlock) v l xs
theorem TmS.start (N : Nat) (w : World) : TmS N w (.slice none 0 0) [] := ⟨[], RowX.start _ _ _⟩
theorem TmS.later {N : Nat} {w w' : World} {v : Value} {l : List Tm} (h : TmS N w v l) (hb : Below w.heap.size w w') : TmS N w' v l := h.imp fun xs h => h.below hb
theorem TmS.shape {N : Nat} {w : World} {v : Value} {l : List Tm} (h : TmS N w v l) : ∃ a c, v = .slice a l.length c ∧ Sl w (fun _ => True) a l := by
 obtain ⟨xs, h⟩ := h
 obtain ⟨a, c, rfl⟩ := h.shape
 exact ⟨a, c, rfl, h.sl.mono fun _ _ _ => trivial⟩
theorem TmS.lt {N : Nat} {w : World} {v : Value} {l : List Tm} (h : TmS N w v l) (b : Nat) (hb : v.ownBlock = some b) : N ≤ b ∧ b < w.heap.size := by
 obtain ⟨xs, h⟩ := h
 exact h.own.lt b hb
theorem news_term (w : World) (s : ByteArray) (u : Value) (T : Nat) : ∀ j v, [Value.string s, u][j]? = some v → (w.alloc (.cells #[.string s, u] T)).cell? ((⟨w.heap.size, 0, none⟩ : Addr).add j) = some v :=
 World.news_of_block (cs := #[.string s, u]) (heap_alloc_new w _)
theorem TmS.add {N : Nat} {w W2 : World} {u : Value} {L : List Tm} {z : Tm} {a1 : Option Addr} {c : Nat} (h : TmS N w u L) (hN : N ≤ w.heap.size) (hB : Below N W2 w) (hl : L.length ≤ 1000000) (hz : Sl w (fun b => some b ≠ u.ownBlock) a1 z.args) :
  ∃ v' w3, (Builtin.append_ #[23, 23] 23 #[u, .slice (some ⟨w.heap.size, 0, none⟩) 1 1]).run Tryz.prog (w.alloc (.cells #[.string z.name, .slice a1 z.args.length c] 26)) = .ok v' w3 ∧ TmS N w3 v' (L ++ [z]) ∧ Below N W2 w3 := by
 obtain ⟨xs, h⟩ := h
 obtain ⟨i0, hi, hz0, hz1, hz2⟩ := info_parts Tryz.infoTerm
 obtain ⟨g, cap, w3, hr, ho, hg, hat, _⟩ := run_append_lies (P := Tryz.prog) (w := w.alloc (.cells #[.string z.name, .slice a1 z.args.length c] 26)) 23 23 N 26 i0 _ 2 40 Tryz.underlying23 hi hz0 hz1 hz2 rfl (by decide) u L.length xs (h.own.alloc _) ⟨w.heap.size, 0, none⟩ 1 1 [.string z.name, .slice a1 z.args.length c] rfl (news_term _ _ _ _) (fun x hx => by simp at hx; rcases hx with rfl | rfl <;> rfl) (by decide) (by unfold maxLen; omega) (by omega) (by rw [World.size_alloc]; omega) _ rfl
 have he : ExQ (fun b => some b = u.ownBlock) w w3 := ((ExQ.refl _ w).alloc _).grown hg (fun k hk => Or.inr hk.symm)
 have hold : ∀ (a : Option Addr) (l : List Tm), Sl w (fun b => some b ≠ u.ownBlock) a l → Sl w3 (fun b => some b ≠ (Value.slice (some ⟨g, 0, none⟩) (L.length + 1) cap).ownBlock) a l := fun a l hs =>
  ((hs.mono (Y := fun b => some b ≠ u.ownBlock ∧ b < w.heap.size) fun b h1 h2 => ⟨h1, h2⟩).exq he (fun b hb e => hb.1 e)).mono fun b hb _ e => by
   have e2 : b = g := by simpa [Value.ownBlock] using e
   subst e2
   rcases hat with e' | e'
   ·exact hb.1 e'.symm
   ·rw [World.size_alloc] at e'; have := hb.2; omega
 have hB1 : Below N W2 (w.alloc (.cells #[.string z.name, .slice a1 z.args.length c] 26)) := hB.alloc hN _
 exact ⟨_, w3, hr, ⟨_, by simpa using ho, RowT.append (h.row.imp hold) ⟨a1, c, [], rfl, hold _ _ hz, rfl⟩⟩, hB1.grown hg (by rw [World.size_alloc]; omega) fun k hk => (h.own.lt k hk).1⟩
theorem wrap_rng (z : Int) : -9223372036854775808 ≤ wrap64 z ∧ wrap64 z ≤ 9223372036854775807 := by unfold wrap64; omega
def RowP (w : World) (Z : Nat → Prop) : List (List Int) → List Value → Prop
 | [], xs => xs = []
 | z :: r, xs => ∃ u xs', xs = u :: xs' ∧ PV w Z u z ∧ RowP w Z r xs'
theorem RowP.len {w : World} {Z : Nat → Prop} : ∀ {l : List (List Int)} {xs : List Value}, RowP w Z l xs → xs.length = l.length
 | [], xs, h => by simp [RowP] at h; simp [h]
 | z :: l, xs, h => by obtain ⟨u, xs', rfl, _, h⟩ := h; simp [RowP.len h]
theorem RowP.append {w : World} {Z : Nat → Prop} : ∀ {l k : List (List Int)} {xs ys : List Value}, RowP w Z l xs → RowP w Z k ys → RowP w Z (l ++ k) (xs ++ ys)
 | [], k, xs, ys, h, h' => by simp [RowP] at h; subst h; simpa using h'
 | z :: l, k, xs, ys, h, h' => by obtain ⟨u, xs', rfl, hp, h⟩ := h; exact ⟨u, xs' ++ ys, rfl, hp, RowP.append h h'⟩
theorem RowP.imp {w w' : World} {Z Z' : Nat → Prop} (hs : ∀ u z, PV w Z u z → PV w' Z' u z) : ∀ {l : List (List Int)} {xs : List Value}, RowP w Z l xs → RowP w' Z' l xs
 | [], xs, h => h
 | z :: l, xs, h => by obtain ⟨u, xs', e, hp, h⟩ := h; exact ⟨u, xs', e, hs _ _ hp, RowP.imp hs h⟩
theorem RowP.get {w : World} {Z : Nat → Prop} : ∀ {l : List (List Int)} {xs : List Value}, RowP w Z l xs → ∀ i (h : i < l.length), ∃ u, xs[i]? = some u ∧ PV w Z u l[i]
 | [], xs, h, i, hi => by simp at hi
 | z :: l, xs, h, i, hi => by
  obtain ⟨u, xs', rfl, hp, h⟩ := h
  cases i with
  | zero => exact ⟨u, rfl, hp⟩
  | succ i => obtain ⟨u', h1, h2⟩ := RowP.get h i (by simpa using hi); exact ⟨u', by simpa using h1, h2⟩
theorem PV.one {w : World} {Z : Nat → Prop} {u : Value} {z : List Int} (h : PV w Z u z) : u.oneCell' = true := by obtain ⟨a, c, rfl, _⟩ := h; rfl
def OutAt (w0 : World) (N : Nat) (q0 : Value) (ps : List (List Int)) (q : Value) (xs : List Value) (wr : World) : Prop :=
 wr.ownsRow N 22 1 q ps.length xs ∧ RowP wr (fun b => N ≤ b ∧ some b ≠ q.ownBlock) ps xs ∧ w0.grownBy wr q0.ownBlock ∧ (∀ k, q.ownBlock = some k → q0.ownBlock = some k ∨ w0.heap.size ≤ k)
theorem PV.grownBy {w w' : World} {Z : Nat → Prop} {u : Value} {z : List Int} {r : Option Nat} (h : PV w Z u z) (hg : w.grownBy w' r) (hZ : ∀ b, Z b → some b ≠ r) : PV w' Z u z := by
 have h1 : PV w (fun b => Z b ∧ b < w.heap.size) u z := h.mono fun b h1 h2 => ⟨h1, h2⟩
 have h2 : PV w' (fun b => Z b ∧ b < w.heap.size) u z := h1.kept fun b hx => hg.block b hx.2 (hZ b hx.1)
 exact h2.mono fun b hx _ => hx.1
theorem OutAt.mono {w0 w1 wr : World} {N : Nat} {q0 q1 q : Value} {ps ps1 : List (List Int)} {xs xs1 : List Value} (h : OutAt w0 N q0 ps1 q1 xs1 w1) (h1 : OutAt w1 N q1 ps q xs wr) : OutAt w0 N q0 ps q xs wr := by
 refine ⟨h1.1, h1.2.1, grown_trans h.2.2.1 h1.2.2.1 h.2.2.2, fun k hk => ?_⟩
 rcases h1.2.2.2 k hk with e | e
 ·exact h.2.2.2 k e
 ·exact Or.inr (Nat.le_trans h.2.2.1.size e)
theorem OutAt.later {w0 w1 w2 : World} {N : Nat} {q0 q : Value} {ps : List (List Int)} {xs : List Value} (h : OutAt w0 N q0 ps q xs w1) (hb : Below w1.heap.size w1 w2) : OutAt w0 N q0 ps q xs w2 :=
 ⟨h.1.kept (w' := w2) (row := none) ⟨hb.os, hb.tape, hb.output, hb.size, fun j hj _ => hb.block j hj⟩ (by rcases Option.eq_none_or_eq_some (Value.ownBlock q) with h | ⟨x, h⟩; exact Or.inl h; exact Or.inr (by rw [h]; simp)),
  h.2.1.imp fun u z hp => hp.later hb, grown_trans h.2.2.1 (grown_of_below hb q.ownBlock) h.2.2.2, h.2.2.2⟩
theorem OutAt.here {w1 : World} {N : Nat} {q0 q : Value} {ps : List (List Int)} {xs : List Value} {w0 : World} (h : OutAt w0 N q0 ps q xs w1) : OutAt w1 N q ps q xs w1 := ⟨h.1, h.2.1, grown_of_below (Below.refl _ _) _, fun _ h => Or.inl h⟩
open Go.RowKit Go.Shelf
theorem yield_on {P : Program} {n l : Nat} {r : Loop} {args : Array Value} {W : World} {Post : World → Prop} {assign body : Code} {ps : Array Tmp} {tmps : Array Value} {rb : Loop} (hrbz : rb = { r with state := .busy }) (hra : r.assign = assign) (hrb : r.body = body) (hrp : r.params = ps) (hrt : r.tmps = tmps) (hl : W.heap[l]? = some (.loop r)) (hr : r.state = .ready) (hp0 : r.pending = none) (hps : args.size = ps.size)
  (h : assign.wpIn (Fence.wide.inRound l) n P (Exit.then (fun a₁ w₁ => w₁.heap[l]? = some (.loop r) ∧ body.wpIn (Fence.wide.inRound l) n P (fun e _ w3 => e = .normal ∧ w3.heap[l]? = some (.loop rb) ∧ Post (w3.putObj l (.loop r))) a₁ (w₁.putObj l (.loop rb))) (fun _ _ _ => False)) { tmps := (ps.zip args).foldl (fun t (p, v) => t.setIfInBounds p v) tmps, defers := [] } W) :
  YieldAt Fence.wide n P l args W fun e W' => e = .returned (.bool true) ∧ Post W' := by
 subst hrbz; subst hra; subst hrb; subst hrp; subst hrt
 refine ⟨r.fn, _, r.assign, r.body, run_yield hl hps, roundIn_of_wpIn trivial (wpIn_mono h ?_)⟩
 rintro e a w1 hp
 cases e with
 | normal =>
  obtain ⟨h1, h2⟩ := hp
  refine ⟨_, run_beginRound h1 hr, wpIn_mono h2 ?_⟩
  rintro e3 a3 w3 ⟨rfl, h3, h4⟩
  refine ⟨_, _, run_endRound none h3, rfl, ?_⟩
  have e4 : ({ r with state := .ready, pending := none } : Loop) = r := by
   obtain ⟨_, _, _, _, _, _, _, _⟩ := r
   simp at hr hp0
   subst hr; subst hp0
   rfl
  have e5 : ({ ({ r with state := .busy } : Loop) with state := if (none : Option Code).isNone then .ready else .done, pending := none } : Loop) = r := by rw [← e4]; rfl
  rw [e5]
  exact h4
 | ret => exact hp.elim
 | exit id => exact hp.elim
 | goto t => exact hp.elim
 | panic c => exact hp.elim
 | outgrown => exact hp.elim
theorem wp_range {P : Program} {n : Nat} {g : Operand} {ps : Array Tmp} {assign body : Code} {Q : Exit → Act → World → Prop} {a : Act} {w : World} {gf : Nat} {lb : Array Value} (hg : a.eval g = .func (.func gf) #[] lb) (eg : ∀ args w, (callFunc gf args).run P w = .ok (.enter gf args) w)
  (h : ∀ (r : Loop), r.state = .ready → r.pending = none → r.tmps = a.tmps → r.params = ps → r.assign = assign → r.body = body → 
   Calls P gf (#[.func (.yield (w.heap.size + 1)) #[] #[]] ++ lb) ((w.alloc (.deferred (some []))).alloc (.loop r)) fun e W => (∃ v, e = .returned v) ∧ W.heap[w.heap.size + 1]? = some (.loop r) ∧ Q .normal { a with defers := { target := .collected w.heap.size, args := #[] } :: a.defers } (W.putObj (w.heap.size + 1) (.loop { r with state := .exhausted }))) :
  (Code.rangeFunc g ps assign body).wpIn Fence.wide n P Q a w := by
 refine wpIn_rangeFunc ?_
 intro fn hfn
 obtain ⟨r, hr⟩ : ∃ r : Loop, r = { state := .ready, pending := none, fn, tmps := a.tmps, params := ps, assign, body, defers := w.heap.size } := ⟨_, rfl⟩
 refine ⟨w.heap.size + 1, [{ target := .collected w.heap.size, args := #[] }], (w.alloc (.deferred (some []))).alloc (.loop r), { target := .fn (.func gf) lb, args := #[.func (.yield (w.heap.size + 1)) #[] #[]] }, (w.alloc (.deferred (some []))).alloc (.loop r), gf, #[.func (.yield (w.heap.size + 1)) #[] #[]] ++ lb, (w.alloc (.deferred (some []))).alloc (.loop r), ?_, ?_, ?_, ?_, ?_, ?_⟩
 ·rw [hr]; exact run_enterLoop_outer _ _ _ _ _
 ·simp only [resolve, hg]
  simp [go_sem]
 ·intro f' hf'; trivial
 ·simp [invoke, go_sem, eg]
 ·intro h; simp [Fence.wide] at h
 ·refine (callsIn_wide.2 (h r (by rw [hr]) (by rw [hr]) (by rw [hr]) (by rw [hr]) (by rw [hr]) (by rw [hr]))).mono ?_
  rintro e W ⟨⟨v, rfl⟩, hl, hq⟩
  have e1 := run_endLoop (P := P) hl (by rw [hr]; simp)
  have e2 : r.pending = none := by rw [hr]
  exact ⟨none, _, e1.trans (by rw [e2]), hq⟩
abbrev Tk (α : Type) := List α → Bool → (Nat → Prop) → World → Prop
structure TkOk {α : Type} (J : Tk α) (K : Nat → Prop) : Prop where
 inside : ∀ {pre s f W}, J pre s f W → ∀ b, f b ∨ K b → b < W.heap.size
 apart : ∀ {pre s f W}, J pre s f W → ∀ b, K b → ¬ f b
 abide : ∀ {pre s f W W'}, J pre s f W → W.heap.size ≤ W'.heap.size → (∀ b, f b ∨ K b → W'.heap[b]? = W.heap[b]?) → J pre s f W'
theorem TkOk.exq {α : Type} {J : Tk α} {K : Nat → Prop} (h : TkOk J K) {pre : List α} {s : Bool} {f g : Nat → Prop} {W W' : World} (hj : J pre s f W) (he : ExQ g W W') (hg : ∀ b, f b ∨ K b → ¬ g b) : J pre s f W' :=
 h.abide hj he.size fun b hb => he.block b (h.inside hj b hb) (hg b hb)
def StopOk (S : World → Prop) : Prop := ∀ (W W' : World), S W → W.heap.size ≤ W'.heap.size → (∀ b, b < W.heap.size → W'.heap[b]? = W.heap[b]? ∨ (∃ r, W.heap[b]? = some (.loop r)) ∨ ∃ d, W.heap[b]? = some (.deferred d)) → S W'
theorem StopOk.put {S : World → Prop} (h : StopOk S) {W : World} (hs : S W) {l : Nat} {r : Loop} (hl : W.heap[l]? = some (.loop r)) (o : Obj) : S (W.putObj l o) :=
 h _ _ hs (by simp) fun b hb => by
  by_cases e : b = l
  ·subst e; exact Or.inr (Or.inl ⟨r, hl⟩)
  ·exact Or.inl (World.putObj_heap_other e)
def Went {α : Type} (J : Tk α) (all pre : List α) (f g : Nat → Prop) (W : World) (s : Bool) (W' : World) : Prop :=
 ∃ (m : Nat) (f' : Nat → Prop), m ≤ all.length ∧ (s = true → m = all.length) ∧ J (pre ++ all.take m) s f' W' ∧ ExQ (fun b => f b ∨ g b) W W' ∧ ∀ b, f' b → f b ∨ W.heap.size ≤ b
theorem Went.nil {α : Type} {J : Tk α} {pre : List α} {f g : Nat → Prop} {W : World} (h : J pre true f W) : Went J [] pre f g W true W :=
 ⟨0, f, Nat.le_refl _, fun _ => rfl, by simpa using h, ExQ.refl _ _, fun b hb => Or.inl hb⟩
theorem Went.one {α : Type} {J : Tk α} {pre : List α} {x : α} {f f' g : Nat → Prop} {W W' : World} {s : Bool} (h : J (pre ++ [x]) s f' W') (he : ExQ f W W') (hf : ∀ b, f' b → f b ∨ W.heap.size ≤ b) : Went J [x] pre f g W s W' :=
 ⟨1, f', by simp, fun _ => rfl, by simpa using h, he.mono fun b hb _ => Or.inl hb, hf⟩
theorem Went.trans {α : Type} {J : Tk α} {a1 a2 pre : List α} {f f1 g g2 : Nat → Prop} {W W1 W2 : World} {s : Bool} (hj : J (pre ++ a1) true f1 W1) (he : ExQ (fun b => f b ∨ g b) W W1) (hf : ∀ b, f1 b → f b ∨ W.heap.size ≤ b) (h : Went J a2 (pre ++ a1) f1 g2 W1 s W2) (hg : ∀ b, g2 b → g b ∨ W.heap.size ≤ b) : Went J (a1 ++ a2) pre f g W s W2 := by
 obtain ⟨m, f', hm, hs, hj2, he2, hf2⟩ := h
 refine ⟨a1.length + m, f', by simp; omega, fun h => by simp [hs h], ?_, he.transN he2 ?_, ?_⟩
 ·rw [List.take_append, List.take_of_length_le (by omega)]
  simpa [List.append_assoc] using hj2
 ·rintro i hi hl
  rcases hi with hi | hi
  ·rcases hf i hi with h | h
   ·exact Or.inl h
   ·omega
  ·rcases hg i hi with h | h
   ·exact Or.inr h
   ·omega
 ·intro b hb
  have := he.size
  rcases hf2 b hb with h | h
  ·exact hf b h
  ·right; omega
theorem Went.stop {α : Type} {J : Tk α} {a1 a2 pre : List α} {f g : Nat → Prop} {W W' : World} (h : Went J a1 pre f g W false W') : Went J (a1 ++ a2) pre f g W false W' := by
 obtain ⟨m, f', hm, hs, hj, he, hf⟩ := h
 exact ⟨m, f', by simp; omega, by simp, by rw [List.take_append_of_le_length hm]; exact hj, he, hf⟩
theorem Went.mono {α : Type} {J : Tk α} {a pre : List α} {f g g' : Nat → Prop} {W W' : World} {s : Bool} (h : Went J a pre f g W s W') (hg : ∀ b, g b → b < W.heap.size → g' b) : Went J a pre f g' W s W' := by
 obtain ⟨m, f', hm, hs, hj, he, hf⟩ := h
 exact ⟨m, f', hm, hs, hj, he.mono fun b hb hl => hb.imp id (fun h => hg b h hl), hf⟩
theorem Went.exq {α : Type} {J : Tk α} {a pre : List α} {f g : Nat → Prop} {W W' : World} {s : Bool} (h : Went J a pre f g W s W') : ExQ (fun b => f b ∨ g b) W W' := by
 obtain ⟨_, _, _, _, _, he, _⟩ := h
 exact he
theorem Went.from {α : Type} {J : Tk α} {a pre : List α} {f g g' : Nat → Prop} {W0 W W' : World} {s : Bool} (h : Went J a pre f g W s W') (he : ExQ g' W0 W) (hg : ∀ b, g b → g' b ∨ W0.heap.size ≤ b) : Went J a pre f g' W0 s W' := by
 obtain ⟨m, f', hm, hs, hj, he2, hf⟩ := h
 refine ⟨m, f', hm, hs, hj, (he.mono (R := fun b => f b ∨ g' b) fun b hb _ => Or.inr hb).transN he2 ?_, fun b hb => ?_⟩
 ·rintro i hi hl
  rcases hi with hi | hi
  ·exact Or.inl hi
  ·rcases hg i hi with h | h
   ·exact Or.inr h
   ·omega
 ·have := he.size
  rcases hf b hb with h | h
  ·exact Or.inl h
  ·right; omega
attribute [local go_sem] Oper.semAt_some
def ndV (y : Lay) (u : List Sg) : Value := .pointer (some ⟨y.ad u, ofN u, none⟩)
abbrev TkX := List (List Sg) → (Nat → Prop) → World → Prop
structure TkXOk (N0 : Nat) (W0 : World) (J : TkX) : Prop where
 old : ∀ {pre f W}, J pre f W → Below N0 W0 W
 inside : ∀ {pre f W}, J pre f W → ∀ b, f b → b < W.heap.size ∧ N0 ≤ b
 abide : ∀ {pre f W W'}, J pre f W → W.heap.size ≤ W'.heap.size → Below N0 W W' → (∀ b, f b → W'.heap[b]? = W.heap[b]?) → J pre f W'
def RndX (lp : Nat) (y : Lay) (P : List Sg → Prop) (J : TkX) : Prop :=
 ∀ (n : Nat) (pre : List (List Sg)) (x : List Sg) (f : Nat → Prop) (W : World), x ∉ pre → P x → (∀ z ∈ pre, P z) → J pre f W →
  YieldAt Fence.wide n Tryz.prog lp #[ndV y x] W fun e W' => e = .returned (.bool true) ∧ ∃ f', J (pre ++ [x]) f' W' ∧ ExQ f W W' ∧ ∀ b, f' b → f b ∨ W.heap.size ≤ b
def PsPost (L : List (List Sg)) (u : List Sg) (n : Nat) (J : TkX) (pre : List (List Sg)) (f : Nat → Prop) (W W' : World) : Prop :=
 ∃ vs f', PsP L u n vs ∧ J (pre ++ vs) f' W' ∧ ExQ f W W' ∧ ∀ b, f' b → f b ∨ W.heap.size ≤ b
def PsI (L : List (List Sg)) (u : List Sg) (n : Nat) (J : TkX) (pre : List (List Sg)) (f : Nat → Prop) (W : World) (b r : Nat) (E : List (Sg × Value)) (wr : World) : Prop :=
 ∃ done rem vs f', RangeG wr b r E rem ∧ E.Perm (done ++ rem) ∧ PsK L u n (done.map (·.1)) vs ∧ J (pre ++ vs) f' wr ∧ ExQ f W wr ∧ W.heap.size + 1 ≤ wr.heap.size ∧ ∀ c, f' c → f c ∨ W.heap.size + 1 ≤ c
def PsC (L : List (List Sg)) (y : Lay) (lp : Nat) (P : List Sg → Prop) (J : TkX) (M : Nat) (u : List Sg) : Prop :=
 ∀ (n : Nat) (pre : List (List Sg)) (f : Nat → Prop) (W : World), n ≤ M → J pre f W → (∀ z ∈ pre, ¬ u <+: z) → (∀ z ∈ pre, P z) → (∀ x, Nd L x → (∃ v, Many n v ∧ x = u ++ v) → P x) →
  Calls Tryz.prog 84 #[ndV y u, .int .i64 (n : Int), .func (.yield lp) #[] #[]] W fun e W' => e = .returned (.bool true) ∧ PsPost L u n J pre f W W'
set_option maxHeartbeats 4000000 in
theorem past_step {L : List (List Sg)} {N N0 lp M : Nat} {tv : Value} {y : Lay} {W0 : World} {J : TkX} {P : List Sg → Prop} (hT : Tri W0 N tv (Nd L) (nmL L) y) (hN0 : W0.heap.size = N0) (hJ : TkXOk N0 W0 J) (RH : RndX lp y P J) (u : List Sg) (hu : Nd L u) (hM : M ≤ 4000000000000)
  (IH : ∀ s, Nd L (u ++ [s]) → PsC L y lp P J (M + 1000001) (u ++ [s])) : PsC L y lp P J M u := by
 intro n pre f W hn hj hpre hPp hP
 cases n with
 | zero =>
  obtain ⟨hfn, htmps, hasg, hbody, hy, hR⟩ := RH 0 pre u f W (fun h => hpre u h (List.prefix_refl _)) (hP u hu ⟨[], Many.nil, by simp⟩) hPp hj
  have HR := hide hR
  have HU := hide hu
  clear hR RH hJ hP hpre hPp IH hT hu
  unfold ndV at hy ⊢
  go_enter Tryz.func84, Tryz.ntmps84
  refine (wpIn_wide (n := 1)).1 ?_
  gi_wp2
  refine HR.out.mono ?_
  rintro e W1 ⟨rfl, f', hj1, he1, hf1⟩
  have HJ1 := hide hj1
  have HE1 := hide he1
  have HF1 := hide hf1
  clear hj1 he1 hf1 hy
  gi_wp2
  go_ret
  exact ⟨rfl, [u], f', PsP.zero HU.out, HJ1.out, HE1.out, HF1.out⟩
 | succ n =>
  have hOld := hJ.old hj
  have hnd : NdB W u (y.ad u) tv (.map (y.mp u)) (y.nv u) := (hT.node hu).kept (hOld.block _ (by have := (hT.node hu).lt; omega))
  have c0 := hnd.c0
  have HJ := hide hJ
  have HJJ := hide hj
  have HIH := hide IH
  have HT := hide hT
  have HU := hide hu
  have HPR := hide hpre
  have HPP := hide hPp
  have HP := hide hP
  obtain ⟨m, hm1⟩ : ∃ m, m = n + 1 := ⟨_, rfl⟩
  rw [← hm1]
  rw [← hm1] at hn
  have HM1 := hide hm1
  have hne : ((m : Int) == 0) = false := by simp; omega
  have hne2 : ¬ ((m : Int) = 0) := by omega
  have hm4 : (m : Int) ≤ 4000000000000 := by omega
  have hm0 : (1 : Int) ≤ (m : Int) := by omega
  have HNM := hide hn
  clear hm1 hn
  clear hJ hj IH hT hu hpre hPp hP RH hnd hOld
  unfold ndV
  generalize hPA : y.ad u = PA at *
  generalize hPO : ofN u = PO at *
  cases hm : y.mp u with
  | none =>
   rw [hm] at c0
   have hrg := run_range_nilMap (P := Tryz.prog) W 55 _ _ Tryz.underlying55
   have hnx : ∀ ty, (Instr.next (.pointer (some ⟨W.heap.size, 0, none⟩)) false ty).run Tryz.prog (W.alloc (.mapIter none 0 #[] 0)) = .ok (.tuple #[.bool false]) (W.alloc (.mapIter none 0 #[] 0)) := fun ty => run_next_nilMap (P := Tryz.prog) W ty 0 0 #[]
   have HF : Hid (PsPost L u m J pre f W (W.alloc (.mapIter none 0 #[] 0))) := by
    rw [HM1.out]
    refine ⟨[], f, (PsK.nil L u n).done fun s hs => absurd hs (HT.out.leaf HU.out hm s), ?_, (ExQ.refl _ _).alloc _, fun b hb => Or.inl hb⟩
    rw [List.append_nil]
    exact HJ.out.abide HJJ.out (by simp) ((Below.refl _ _).alloc (by have := (HJ.out.old HJJ.out).size; omega) _) fun b hb => Below.heap_alloc _ _ _ (HJ.out.inside HJJ.out b hb).1
   clear hm hPA hPO
   go_enter Tryz.func84, Tryz.ntmps84
   go_wp2_with fail
   go_loopw [8] (fun _ wr => wr = W.alloc (.mapIter none 0 #[] 0)) (fun _ _ => 0)
   case atStart => exact rfl
   case round =>
    have hwr : wr = W.alloc (.mapIter none 0 #[] 0) := hrel
    subst hwr
    go_wp2_with fail
    go_ret
    exact ⟨rfl, HF.out⟩
  | some b =>
   rw [hm] at c0
   obtain ⟨E, hE0, hEn, hEi⟩ := HT.out.kids HU.out hm
   have hbl : b < N0 := by rw [← hN0]; exact hE0.lt
   have hOld := HJ.out.old HJJ.out
   have hE : MapG W b E := hE0.kept (hOld.block b hbl)
   have hz0 : N0 ≤ W.heap.size := by rw [← hN0]; exact hOld.size
   obtain ⟨o, hrange, hR0⟩ := hE.range (P := Tryz.prog) Tryz.underlying55
   have HEN := hide hEn
   have HEI := hide hEi
   have HS : Hid (PsI L u n J pre f W b W.heap.size E (W.alloc o)) := by
    refine ⟨[], E, [], f, hR0, by simp, PsK.nil L u n, ?_, (ExQ.refl _ _).alloc _, by simp, fun c hc => Or.inl hc⟩
    rw [List.append_nil]
    exact HJ.out.abide HJJ.out (by simp) ((Below.refl _ _).alloc hz0 _) fun b hb => Below.heap_alloc _ _ _ (HJ.out.inside HJJ.out b hb).1
   have HF : Hid (∀ c, f c → c < W.heap.size ∧ N0 ≤ c) := HJ.out.inside HJJ.out
   clear hR0 hE0 hE hEn hEi hOld hm hPA hPO HJJ
   go_enter Tryz.func84, Tryz.ntmps84
   go_wp2_with fail
   go_loopw [8] (fun _ wr => PsI L u n J pre f W b W.heap.size E wr) (fun _ wr => leftG wr b W.heap.size)
   case atStart => exact HS.out
   case round =>
    clear HS hrange c0
    obtain ⟨done, rem, vs, f', hR, hPm, hK, hj, he, hzw, hf⟩ := hrel
    have HK := hide hK
    have HJr := hide hj
    have HEr := hide he
    have HFr := hide hf
    have HPm := hide hPm
    have hOldr := HJ.out.old hj
    have hLeft := hR.left
    rcases hR.next (P := Tryz.prog) 0 with ⟨he0, hnx⟩ | ⟨p, rem', w1, hpm, hnx, hR1, hz1, ho1, ht1, hu1, hk1, hen⟩
    ·subst he0
     have HFIN : Hid (PsPost L u m J pre f W wr) := by
      rw [HM1.out]
      refine ⟨vs, f', hK.done fun s hs => ?_, hj, he, fun c hc => ?_⟩
      ·have h1 : (s, Value.pointer (some ⟨y.ad (u ++ [s]), 0, none⟩)) ∈ E := (HEI.out _ _).2 ⟨hs, rfl⟩
       have h2 := hPm.subset h1
       rw [List.append_nil] at h2
       exact List.mem_map.2 ⟨_, h2, rfl⟩
      ·rcases hf c hc with h | h
       ·exact Or.inl h
       ·exact Or.inr (by omega)
     clear hR hK hj he hf hPm hOldr hLeft hzw
     go_wp2_with fail
     go_ret
     exact ⟨rfl, HFIN.out⟩
    ·obtain ⟨s, pv⟩ := p
     have hmem : (s, pv) ∈ E := hPm.symm.subset (List.mem_append_right _ (hpm.symm.subset (List.mem_cons_self ..)))
     obtain ⟨hch, hpv⟩ := (HEI.out s pv).1 hmem
     subst hpv
     have hsok : SgOk s := by obtain ⟨es, clk, _, _, _, h⟩ := hR1.map; exact h _ hmem
     have hr1 := hR1.lt
     have hb1 : b < w1.heap.size := hR1.map.lt
     have hsn : s ∉ done.map (·.1) := fun h => by
      have h1 := (HPm.out.map (·.1)).nodup_iff.1 HEN.out
      rw [List.map_append, List.nodup_append] at h1
      exact h1.2.2 s h s (List.mem_map.2 ⟨_, hpm.symm.subset (List.mem_cons_self ..), rfl⟩) rfl
     have hrf : ∀ c, f' c → c ≠ W.heap.size := fun c hc e => by
      rcases hf c hc with h | h
      ·have := (HF.out c h).1; omega
      ·omega
     have hin := HJ.out.inside hj
     obtain ⟨s1, s2⟩ := s
     have EX1 : ExQ (fun c => c = W.heap.size) wr (w1.alloc (.cells #[.string s1, .int .i64 (s2 : Int)] 85)) := by
      refine ExQ.alloc ⟨ho1, ht1, hu1, by rw [hz1]; exact Nat.le_refl _, fun k hk hn => hk1 k hn⟩ _
     have HJ2 : Hid (J (pre ++ vs) f' (w1.alloc (.cells #[.string s1, .int .i64 (s2 : Int)] 85))) := HJ.out.abide hj EX1.size (EX1.below (by omega) fun c hc => by omega) fun c hc => EX1.block c (hin c hc).1 (hrf c hc)
     have HR2 : Hid (RangeG (w1.alloc (.cells #[.string s1, .int .i64 (s2 : Int)] 85)) b W.heap.size E rem') := hR1.below ((Below.refl _ _).alloc (Nat.le_refl _) _) hb1 hr1
     have HE2 : Hid (ExQ f W (w1.alloc (.cells #[.string s1, .int .i64 (s2 : Int)] 85))) := he.transN EX1 fun i hi hlt => by omega
     have hz2 : W.heap.size + 1 ≤ (w1.alloc (.cells #[.string s1, .int .i64 (s2 : Int)] 85)).heap.size := by have := EX1.size; omega
     have CL := HIH.out (s1, s2) hch (n + s2) (pre ++ vs) f' (w1.alloc (.cells #[.string s1, .int .i64 (s2 : Int)] 85)) (by have h := hsok.2; have h9 := HM1.out; have h8 := HNM.out; simp only at h; omega) HJ2.out
      (fun z hz hp => by
       rcases List.mem_append.1 hz with hz | hz
       ·exact HPR.out z hz ((List.prefix_append _ _).trans hp)
       ·exact HK.out.apart hsn hz hp)
      (fun z hz => by
       rcases List.mem_append.1 hz with hz | hz
       ·exact HPP.out z hz
       ·obtain ⟨s', _, hz1, v, hv, rfl⟩ := (HK.out.2 z).1 hz
        exact HP.out _ hz1 ⟨s' :: v, Many.cons hv, by simp⟩)
      (fun x hx hv => by
       obtain ⟨v, hv, rfl⟩ := hv
       exact HP.out _ hx ⟨(s1, s2) :: v, Many.cons hv, by simp⟩)
     unfold ndV at CL
     rw [of_snoc] at CL
     have HCL := hide CL
     have HRF := hide hrf
     have HIN := hide hin
     have HSN := hide hsn
     have HPE := hide hpm
     have HB1 := hide hb1
     have HB2 : Hid (b < (w1.alloc (.cells #[.string s1, .int .i64 (s2 : Int)] 85)).heap.size) := HR2.out.map.lt
     have HLE := hide hLeft
     unfold sgV at hnx hen
     have hnn : ((n + s2 : Nat) : Int) = (m : Int) - 1 + (s2 : Int) := by have h9 := HM1.out; omega
     rw [hnn] at HCL
     clear hnn
     have hs2 : (s2 : Int) ≤ 1000000 := by have h := hsok.2; simp only at h; omega
     have s20 : (0 : Int) ≤ (s2 : Int) := by omega
     clear hR hK hj he hf hPm hOldr hLeft hmem hch hR1 hsn hrf hin EX1 CL hpm hz1 ho1 ht1 hu1 hk1 hsok
     go_wp2_with fail
     generalize w1.alloc (.cells #[.string s1, .int .i64 (s2 : Int)] 85) = w2 at *
     refine HCL.out.mono ?_
     rintro e w5 ⟨rfl, ws, f2, hws, hj5, he5, hf5⟩
     have HI5 : Hid (PsI L u n J pre f W b W.heap.size E w5) := by
      refine ⟨done ++ [((s1, s2), .pointer (some ⟨y.ad (u ++ [(s1, s2)]), 0, none⟩))], rem', vs ++ ws, f2, ?_, ?_, ?_, ?_, ?_, ?_, ?_⟩
      ·refine HR2.out.kept (he5.block b HB2.out fun h => ?_) (he5.block W.heap.size HR2.out.lt fun h => HRF.out _ h rfl)
       have := (HIN.out b h).2; omega
      ·refine HPm.out.trans ?_
       rw [List.append_assoc]
       exact (List.Perm.append_left done HPE.out)
      ·rw [List.map_append]
       exact HK.out.add HSN.out hws
      ·rw [← List.append_assoc]; exact hj5
      ·exact HE2.out.transN he5 fun i hi hlt => by
        rcases HFr.out i hi with h | h
        ·exact h
        ·omega
      ·have := he5.size; omega
      ·intro c hc
       rcases hf5 c hc with h | h
       ·exact HFr.out c h
       ·exact Or.inr (by omega)
     have HLT : Hid (leftG w5 b W.heap.size < leftG wr b W.heap.size) := by
      have h1 : leftG w5 b W.heap.size = rem'.length := by
       refine (HR2.out.kept (he5.block b HB2.out fun h => ?_) (he5.block W.heap.size HR2.out.lt fun h => HRF.out _ h rfl)).left
       have := (HIN.out b h).2; omega
      have h2 := HPE.out.length_eq
      unfold Hid
      rw [h1, HLE.out]
      simp at h2; omega
     clear hws hj5 he5 hf5 HCL hnx hen
     go_wp2_with fail
     go_roundw
     case rel => exact HI5.out
     case measure => exact HLT.out
theorem past_any {L : List (List Sg)} {N N0 lp : Nat} {tv : Value} {y : Lay} {W0 : World} {J : TkX} {P : List Sg → Prop} (hT : Tri W0 N tv (Nd L) (nmL L) y) (hN0 : W0.heap.size = N0) (hJ : TkXOk N0 W0 J) (RH : RndX lp y P J) : ∀ (d M : Nat) (u : List Sg), (∀ x ∈ L, x.length ≤ u.length + d) → Nd L u → M + 1000001 * d ≤ 4000000000000 → PsC L y lp P J M u
 | 0, M, u, hlen, hu, hM => past_step hT hN0 hJ RH u hu (by omega) fun s hs => by
  rcases hs with h | ⟨x, hx, hp⟩
  ·simp at h
  ·have h1 := hp.length_le; have h2 := hlen x hx; simp at h1; omega
 | d + 1, M, u, hlen, hu, hM => past_step hT hN0 hJ RH u hu (by omega) fun s hs => past_any hT hN0 hJ RH d (M + 1000001) (u ++ [s]) (fun x hx => by have := hlen x hx; simp; omega) hs (by omega)
theorem behind_any (y : Lay) (u : List Sg) (w : World) : Calls Tryz.prog 68 #[ndV y u] w fun e w' => e = .returned (.func (.func 83) #[] #[.pointer (some ⟨w.heap.size, 0, none⟩)]) ∧ w' = w.alloc (.cells #[ndV y u] 83) := by
 have hmf : ∀ (fn : Fn) (first cap : Array Value) (w : World), (Instr.makeFunc fn first cap).run Tryz.prog w = .ok (.func fn first cap) w := fun _ _ _ _ => rfl
 unfold ndV
 go_enter Tryz.func68, Tryz.ntmps68
 go_wp2_with fail
 go_ret
 exact ⟨rfl, rfl⟩
theorem behind1_any {L : List (List Sg)} {N N0 lp : Nat} {tv : Value} {y : Lay} {W0 : World} {J : TkX} {P : List Sg → Prop} (hT : Tri W0 N tv (Nd L) (nmL L) y) (hN0 : W0.heap.size = N0) (hJ : TkXOk N0 W0 J) (RH : RndX lp y P J) (hL : ∀ x ∈ L, x.length ≤ 1000) (u : List Sg) (hu : Nd L u) (hP : ∀ x, Bh L u x → P x) (B : Nat) (f : Nat → Prop) (W : World) (hj : J [] f W) (hB : Blk W B #[ndV y u] 83) :
  Calls Tryz.prog 83 #[.func (.yield lp) #[] #[], .pointer (some ⟨B, 0, none⟩)] W fun e W' => (∃ v, e = .returned v) ∧ PsPost L u 1 J [] f W W' := by
 have HCL := hide (past_any hT hN0 hJ RH 1000 1 u (fun x hx => by have := hL x hx; omega) hu (by omega) 1 [] f W (Nat.le_refl _) hj (fun z hz => by cases hz) (fun z hz => by cases hz) (fun x hx hv => hP x ⟨hx, hv⟩))
 have c0 := hB.c0
 clear hT hN0 hJ RH hL hu hP hj hB
 unfold ndV at *
 go_enter Tryz.func83, Tryz.ntmps83
 go_wp2_with fail
 refine HCL.out.mono ?_
 rintro e w1 ⟨rfl, h1⟩
 have H := hide h1
 clear h1
 go_wp2_with fail
 go_end0
 exact ⟨⟨_, rfl⟩, H.out⟩
attribute [local go_sem] Oper.semAt_some
theorem nodup_len {l : List Nat} {N : Nat} (h : l.Nodup) (hl : ∀ n ∈ l, n < N) : l.length ≤ N := by
 have h1 : l.Perm ((List.range N).filter fun n => decide (n ∈ l)) := by
  refine (List.perm_ext_iff_of_nodup h (List.Pairwise.filter _ List.nodup_range)).2 fun n => ?_
  rw [List.mem_filter, List.mem_range]
  simp only [decide_eq_true_eq]
  exact ⟨fun hn => ⟨hl n hn, hn⟩, fun hn => hn.2⟩
 have h2 := List.length_filter_le (fun n => decide (n ∈ l)) (List.range N)
 rw [List.length_range] at h2
 rw [h1.length_eq]
 exact h2
def DisjS (L : List (List Sg)) (k : Nat) (u : List Sg) (ts : List Tm) (ns : List Nat) : Prop := ns.Nodup ∧ ∀ n ∈ ns, n < L.length ∧ ¬ ∃ v, L[n]? = some (u ++ v) ∧ Rch k ts v
theorem DisjS.add {L : List (List Sg)} {k : Nat} {u : List Sg} {ts : List Tm} {ns g : List Nat} (h : DisjS L k u ts ns) (hg : SrP L k u ts g) : (ns ++ g).Nodup ∧ ∀ n ∈ ns ++ g, n < L.length := by
 refine ⟨?_, fun n hn => ?_⟩
 ·rw [List.nodup_append]
  refine ⟨h.1, hg.1, fun a ha b hb e => ?_⟩
  subst e
  exact (h.2 a ha).2 ((hg.2 a).1 hb)
 ·rcases List.mem_append.1 hn with hn | hn
  ·exact (h.2 n hn).1
  ·obtain ⟨v, hv, _⟩ := (hg.2 n).1 hn
   exact (List.getElem?_eq_some_iff.1 hv).1
theorem DisjS.len {L : List (List Sg)} {k : Nat} {u : List Sg} {ts : List Tm} {ns g : List Nat} (h : DisjS L k u ts ns) (hg : SrP L k u ts g) : (ns ++ g).length ≤ L.length := nodup_len (h.add hg).1 (h.add hg).2
theorem DisjS.var {L : List (List Sg)} {k : Nat} {u : List Sg} {s : ByteArray} {l r : List Tm} {ns : List Nat} (h : DisjS L k u (⟨s, l⟩ :: r) ns) (h0 : ¬ (varB s = true ∧ k ≠ 0)) (hk : k ≠ 1) : DisjS L k (u ++ [vsg]) r ns :=
 ⟨h.1, fun n hn => ⟨(h.2 n hn).1, fun ⟨v, hv, hr⟩ => (h.2 n hn).2 ⟨vsg :: v, by simpa using hv, (rch_else h0).2 (Or.inl ⟨hk, v, hr, rfl⟩)⟩⟩⟩
theorem DisjS.sym {L : List (List Sg)} {k : Nat} {u : List Sg} {s : ByteArray} {l r : List Tm} {ns g1 : List Nat} (h : DisjS L k u (⟨s, l⟩ :: r) ns) (h0 : ¬ (varB s = true ∧ k ≠ 0)) (hs : s ≠ ⟨#[]⟩) (hv : varB s = false) (h1 : if k = 1 then g1 = [] else SrP L k (u ++ [vsg]) r g1) : DisjS L k (u ++ [(s, l.length)]) (l ++ r) (ns ++ g1) := by
 have m1 : ∀ n ∈ g1, k ≠ 1 ∧ ∃ v, L[n]? = some (u ++ [vsg] ++ v) ∧ Rch k r v := fun n hn => by
  split at h1
  ·rw [h1] at hn; cases hn
  ·rename_i hk; exact ⟨hk, (h1.2 n).1 hn⟩
 refine ⟨?_, fun n hn => ?_⟩
 ·rw [List.nodup_append]
  refine ⟨h.1, ?_, fun a ha b hb e => ?_⟩
  ·split at h1
   ·rw [h1]; exact List.nodup_nil
   ·exact h1.1
  ·subst e
   obtain ⟨hk, v, hv1, hr⟩ := m1 a hb
   exact (h.2 a ha).2 ⟨vsg :: v, by simpa using hv1, (rch_else h0).2 (Or.inl ⟨hk, v, hr, rfl⟩)⟩
 ·rcases List.mem_append.1 hn with hn | hn
  ·exact ⟨(h.2 n hn).1, fun ⟨v, hv1, hr⟩ => (h.2 n hn).2 ⟨(s, l.length) :: v, by simpa using hv1, (rch_else h0).2 (Or.inr ⟨hv, v, hr, rfl⟩)⟩⟩
  ·obtain ⟨hk, v, hv1, hr⟩ := m1 n hn
   refine ⟨(List.getElem?_eq_some_iff.1 hv1).1, fun ⟨v2, hv2, _⟩ => ?_⟩
   rw [hv1] at hv2
   have e3 := Option.some.inj hv2
   simp only [List.append_assoc, List.append_cancel_left_eq, List.cons_append, List.nil_append, List.cons.injEq] at e3
   exact hs (congrArg Prod.fst e3.1).symm
theorem DisjS.past {L : List (List Sg)} {k : Nat} {u : List Sg} {s : ByteArray} {l r : List Tm} {ns g : List Nat} {vs : List (List Sg)} {x : List Sg} (h : DisjS L k u (⟨s, l⟩ :: r) ns) (hv : varB s = true) (hk : k ≠ 0) (hg : SrG L k r vs g) (hvs : ∀ z ∈ vs, Bh L u z) (hx : Bh L u x) (hn : x ∉ vs) : DisjS L k x r (ns ++ g) := by
 obtain ⟨_, x1, mx, ex⟩ := hx
 have m1 : ∀ n ∈ g, ∃ z ∈ vs, ∃ v, L[n]? = some (z ++ v) ∧ Rch k r v := fun n hn => (hg.2 n).1 hn
 have in_past : ∀ (n : Nat) (z : List Sg), Bh L u z → ∀ v, L[n]? = some (z ++ v) → Rch k r v → ∃ v, L[n]? = some (u ++ v) ∧ Rch k (⟨s, l⟩ :: r) v := fun n z hz v hv1 hr => by
  obtain ⟨_, z1, mz, rfl⟩ := hz
  exact ⟨z1 ++ v, by rw [← List.append_assoc]; exact hv1, (rch_past hv hk).2 ⟨z1, v, mz, hr, rfl⟩⟩
 refine ⟨?_, fun n hn2 => ?_⟩
 ·rw [List.nodup_append]
  refine ⟨h.1, hg.1, fun a ha b hb e => ?_⟩
  subst e
  obtain ⟨z, hz, v, hv1, hr⟩ := m1 a hb
  exact (h.2 a ha).2 (in_past a z (hvs z hz) v hv1 hr)
 ·rcases List.mem_append.1 hn2 with hn2 | hn2
  ·exact ⟨(h.2 n hn2).1, fun ⟨v, hv1, hr⟩ => (h.2 n hn2).2 ⟨x1 ++ v, by rw [← List.append_assoc, ← ex]; exact hv1, (rch_past hv hk).2 ⟨x1, v, mx, hr, rfl⟩⟩⟩
  ·obtain ⟨z, hz, v, hv1, hr⟩ := m1 n hn2
   refine ⟨(List.getElem?_eq_some_iff.1 hv1).1, fun ⟨v2, hv2, _⟩ => ?_⟩
   obtain ⟨_, z1, mz, ez⟩ := hvs z hz
   rw [hv1, ez, ex] at hv2
   have e3 := Option.some.inj hv2
   rw [List.append_assoc, List.append_assoc, List.append_cancel_left_eq] at e3
   have e4 := (many_free mz mx e3).1
   exact hn (by rw [ex, ← e4, ← ez]; exact hz)
structure SrS (W0 : World) (N0 Bs g cap : Nat) (kk : Nat) (sp : List (Sg × Nat)) (ns : List Nat) (nv : Value) (W : World) : Prop where
 old : Below N0 W0 W
 box : Blk W Bs #[.int .i64 (kk : Int), .slice (some ⟨g, 0, none⟩) sp.length cap, nv] 90
 row : W.ownsRow N0 3 1 nv ns.length (nuV ns)
 spo : W.ownsRow N0 87 3 (.slice (some ⟨g, 0, none⟩) sp.length cap) sp.length (spX sp)
theorem SrS.own_ne {W0 : World} {N0 Bs g cap : Nat} {kk : Nat} {sp : List (Sg × Nat)} {ns : List Nat} {nv : Value} {W : World} (h : SrS W0 N0 Bs g cap kk sp ns nv W) : nv.ownBlock ≠ some Bs := fun e => by
 have hb := h.box
 unfold Blk at hb
 rcases h.row.2 with ⟨h2, _⟩ | ⟨g', cap', cur, h2, _, hg, _⟩
 ·rw [h2] at e; cases e
 ·rw [h2] at e
  have e2 : g' = Bs := by simpa [Value.ownBlock] using e
  subst e2
  rw [hg] at hb; injection hb with h3; injection h3 with h4 h5; exact absurd h5 (by decide)
theorem SrS.spot {W0 : World} {N0 Bs g cap : Nat} {kk : Nat} {sp : List (Sg × Nat)} {ns : List Nat} {nv : Value} {W : World} (h : SrS W0 N0 Bs g cap kk sp ns nv W) {i : Nat} {p : Sg × Nat} (hp : sp[i]? = some p) : W.cell? ⟨g, i * 3, none⟩ = some (.string p.1.1) ∧ W.cell? ⟨g, i * 3 + 1, none⟩ = some (.int .i64 (p.1.2 : Int)) ∧ W.cell? ⟨g, i * 3 + 2, none⟩ = some (.int .i64 (p.2 : Int)) := by
 have hi := (List.getElem?_eq_some_iff.1 hp).1
 obtain ⟨e1, e2, e3⟩ := spX_get hp
 exact ⟨by rw [h.spo.cellAt _ (by omega)]; exact e1, by rw [h.spo.cellAt _ (by omega)]; exact e2, by rw [h.spo.cellAt _ (by omega)]; exact e3⟩
theorem SrS.gob {W0 : World} {N0 Bs g cap : Nat} {kk : Nat} {sp : List (Sg × Nat)} {ns : List Nat} {nv : Value} {W : World} (h : SrS W0 N0 Bs g cap kk sp ns nv W) : ∃ cs, Blk W g cs 87 := by
 rcases h.spo.2 with ⟨h2, _⟩ | ⟨g', cap', cur, h2, _, hg, _⟩
 ·cases h2
 ·simp only [Value.slice.injEq, Option.some.injEq, Addr.mk.injEq, and_true, true_and] at h2
  obtain ⟨rfl, rfl⟩ := h2
  exact ⟨cur, hg⟩
theorem own_blk {W : World} {N0 n b T : Nat} {nv : Value} {xs : List Value} {cs : Array Value} (h : W.ownsRow N0 3 1 nv n xs) (hT : 3 ≠ T) (hl : Blk W b cs T) : nv.ownBlock ≠ some b := fun e => by
 rcases h.2 with ⟨h2, _⟩ | ⟨g', cap', cur, h2, _, hg, _⟩
 ·rw [h2] at e; cases e
 ·rw [h2] at e
  have e2 : g' = b := by simpa [Value.ownBlock] using e
  subst e2
  unfold Blk at hl
  rw [hg] at hl; injection hl with h3; injection h3 with h4 h5; exact absurd h5 hT
theorem SrS.gne {W0 : World} {N0 Bs g cap : Nat} {kk : Nat} {sp : List (Sg × Nat)} {ns : List Nat} {nv : Value} {W : World} (h : SrS W0 N0 Bs g cap kk sp ns nv W) : g ≠ Bs ∧ nv.ownBlock ≠ some g := by
 obtain ⟨cs, hg⟩ := h.gob
 refine ⟨fun e => ?_, own_blk h.row (by decide) hg⟩
 have hb := h.box
 unfold Blk at hb hg
 rw [e, hb] at hg
 injection hg with h3; injection h3 with h4 h5; exact absurd h5 (by decide)
theorem own_g {g n c b : Nat} (h : (Value.slice (some ⟨g, 0, none⟩) n c).ownBlock = some b) : g = b := by simpa [Value.ownBlock] using h
theorem SrS.ex {W0 : World} {N0 Bs g cap : Nat} {kk : Nat} {sp : List (Sg × Nat)} {ns : List Nat} {nv : Value} {W W' : World} {Q : Nat → Prop} (h : SrS W0 N0 Bs g cap kk sp ns nv W) (hz : N0 ≤ W.heap.size) (he : ExQ Q W W') (h1 : ¬ Q Bs) (h2 : ∀ b, nv.ownBlock = some b → ¬ Q b) (h3 : ∀ b, Q b → N0 ≤ b) (h4 : ¬ Q g) : SrS W0 N0 Bs g cap kk sp ns nv W' :=
 ⟨h.old.trans (he.below hz h3), h.box.exq he h1, ownsRow_at h.row fun b hb => he.block b (h.row.lt b hb).2 (h2 b hb), ownsRow_at h.spo fun b hb => he.block b (h.spo.lt b hb).2 (own_g hb ▸ h4)⟩
theorem SrS.later {W0 : World} {N0 Bs g cap : Nat} {kk : Nat} {sp : List (Sg × Nat)} {ns : List Nat} {nv : Value} {W W' : World} (h : SrS W0 N0 Bs g cap kk sp ns nv W) (hz : N0 ≤ W.heap.size) (hb : Below W.heap.size W W') : SrS W0 N0 Bs g cap kk sp ns nv W' :=
 h.ex (Q := fun _ => False) hz (ExQ.ofBelow hb) (fun h => h) (fun _ _ h => h) (fun _ h => h.elim) (fun h => h)
structure Ctx (W0 : World) (N N0 Bs g cap M : Nat) (tv : Value) (L : List (List Sg)) (y : Lay) (sp : List (Sg × Nat)) : Prop where
 tri : Tri W0 N tv (Nd L) (nmL L) y
 size : W0.heap.size = N0
 here : N0 ≤ Bs
 gat : N0 ≤ g
 len : ∀ x ∈ L, x.length ≤ 1000
 few : L.length ≤ 100000
 ok : ∀ s ∈ sp, SgOk s.1
 short : sp.length ≤ 100000
theorem Ctx.nd {W0 : World} {N N0 Bs g cap M : Nat} {tv : Value} {L : List (List Sg)} {y : Lay} {sp : List (Sg × Nat)} (h : Ctx W0 N N0 Bs g cap M tv L y sp) {W : World} (hb : Below N0 W0 W) {u : List Sg} (hu : Nd L u) : NdB W u (y.ad u) tv (.map (y.mp u)) (y.nv u) :=
 (h.tri.node hu).kept (hb.block _ (by have := (h.tri.node hu).lt; have := h.size; omega))
theorem Ctx.nums {W0 : World} {N N0 Bs g cap M : Nat} {tv : Value} {L : List (List Sg)} {y : Lay} {sp : List (Sg × Nat)} (h : Ctx W0 N N0 Bs g cap M tv L y sp) {W : World} (hb : Below N0 W0 W) {u : List Sg} (hu : Nd L u) : W.ownsRow N 3 1 (y.nv u) (nmL L u).length (nuV (nmL L u)) :=
 ownsRow_at (h.tri.nums hu) fun b hv => hb.block b (by have := ((h.tri.nums hu).lt b hv).2; have := h.size; omega)
theorem Ctx.look {W0 : World} {N N0 Bs g cap M : Nat} {tv : Value} {L : List (List Sg)} {y : Lay} {sp : List (Sg × Nat)} (h : Ctx W0 N N0 Bs g cap M tv L y sp) {u : List Sg} (hu : Nd L u) (s : Sg) (hs : SgOk s) :
  ∃ R, ((Nd L (u ++ [s]) ∧ R = .pointer (some ⟨y.ad (u ++ [s]), 0, none⟩)) ∨ (¬ Nd L (u ++ [s]) ∧ R = .pointer none)) ∧ ∀ W, Below N0 W0 W → (Instr.lookup 55 (.map (y.mp u)) (sgV s) false).run Tryz.prog W = .ok R W := by
 cases hm : y.mp u with
 | none => exact ⟨.pointer none, Or.inr ⟨h.tri.leaf hu hm s, rfl⟩, fun W _ => run_lookN s hs⟩
 | some b =>
  obtain ⟨E, hE, hn, hi⟩ := h.tri.kids hu hm
  have hb : b < N0 := by have := hE.lt; have := h.size; omega
  by_cases hc : Nd L (u ++ [s])
  ·exact ⟨_, Or.inl ⟨hc, rfl⟩, fun W hW => look_in (hE.kept (hW.block b hb)) hn hs ((hi _ _).2 ⟨hc, rfl⟩)⟩
  ·exact ⟨_, Or.inr ⟨hc, rfl⟩, fun W hW => look_out (hE.kept (hW.block b hb)) hs fun v hv => hc ((hi _ _).1 hv).1⟩
def WkPost (W0 : World) (N0 Bs g cap : Nat) (k : Nat) (L : List (List Sg)) (sp : List (Sg × Nat)) (u : List Sg) (ts : List Tm) (ns : List Nat) (nv : Value) (W : World) (W' : World) : Prop :=
 ∃ gs nv', SrP L k u ts gs ∧ SrS W0 N0 Bs g cap k sp (ns ++ gs) nv' W' ∧ ExQ (fun b => b = Bs ∨ nv.ownBlock = some b) W W' ∧ ∀ b, nv'.ownBlock = some b → nv.ownBlock = some b ∨ W.heap.size ≤ b
def WkC (W0 : World) (N0 Bs g cap : Nat) (k : Nat) (L : List (List Sg)) (y : Lay) (sp : List (Sg × Nat)) (ts : List Tm) : Prop :=
 ∀ (a : Nat) (u : List Sg) (ns : List Nat) (nv : Value) (W : World), SpAt sp a ts → Nd L u → DisjS L k u ts ns → SrS W0 N0 Bs g cap k sp ns nv W → N0 ≤ W.heap.size →
  Calls Tryz.prog 45 #[.pointer (some ⟨Bs, 0, none⟩), ndV y u, .int .i64 (a : Int)] W fun e W' => e = .returned (.tuple #[]) ∧ WkPost W0 N0 Bs g cap k L sp u ts ns nv W W'
theorem WkPost.frame {W0 : World} {N0 Bs g cap k : Nat} {L : List (List Sg)} {sp : List (Sg × Nat)} {u : List Sg} {ts : List Tm} {ns : List Nat} {nv : Value} {W W1 W' : World} (hb : Below W.heap.size W W1) (h : WkPost W0 N0 Bs g cap k L sp u ts ns nv W1 W') : WkPost W0 N0 Bs g cap k L sp u ts ns nv W W' := by
 obtain ⟨gs, nv', h1, h2, h3, h4⟩ := h
 refine ⟨gs, nv', h1, h2, (ExQ.ofBelow hb).transN h3 fun i hi _ => hi, fun b hv => ?_⟩
 rcases h4 b hv with h | h
 ·exact Or.inl h
 ·exact Or.inr (Nat.le_trans hb.size h)
theorem app_nums {W : World} {N N0 : Nat} {v : Value} {ns ms : List Nat} {mv : Value} (ho : W.ownsRow N0 3 1 v ns.length (nuV ns)) (hz : N0 ≤ W.heap.size) (hm : W.ownsRow N 3 1 mv ms.length (nuV ms)) (hs : ns.length + ms.length ≤ 1000000) :
  ∃ v' W', (Builtin.append_ #[22, 22] 22 #[v, mv]).run Tryz.prog W = .ok v' W' ∧ W'.ownsRow N0 3 1 v' (ns ++ ms).length (nuV (ns ++ ms)) ∧ W.grownBy W' v.ownBlock ∧ (∀ b, v'.ownBlock = some b → v.ownBlock = some b ∨ W.heap.size ≤ b) ∧ ∃ a c, v' = .slice a (ns ++ ms).length c := by
 obtain ⟨i0, hi, hz0, hz1, hz2⟩ := info_parts Tryz.infoIntI
 have e : nuV (ns ++ ms) = nuV ns ++ nuV ms := by simp [nuV]
 by_cases h0 : ms = []
 ·subst h0
  rw [List.append_nil]
  rcases hm.2 with ⟨rfl, _⟩ | ⟨g, cap, cur, rfl, hb, hg, hnc, hcm, hcs, htk⟩
  ·obtain ⟨a, c, hv⟩ := own_sliceI ho
   exact ⟨v, W, run_append_owned_none W N0 22 22 3 i0 1 Tryz.underlying22 hi v ns.length (nuV ns) ho, ho, ⟨rfl, rfl, rfl, Nat.le_refl _, fun _ _ _ => rfl⟩, fun b hb => Or.inl hb, a, c, hv⟩
  ·obtain ⟨v', W', h1, h2, h3, _, h5⟩ := run_append_own_at (P := Tryz.prog) W N0 22 22 3 i0 _ 1 8 Tryz.underlying22 hi hz0 hz1 hz2 rfl (by decide) v ns.length (nuV ns) ho ⟨g, 0, none⟩ 0 cap [] rfl (fun j u hj => by simp at hj) (by simp) (by unfold maxLen; omega) (by omega) hz
   rw [List.append_nil, Nat.add_zero] at h2
   obtain ⟨a, c, hv⟩ := own_sliceI h2
   refine ⟨v', W', h1, h2, h3, fun b hb => ?_, a, c, hv⟩
   rcases h5 with h5 | h5
   ·rw [h5] at hb; exact Or.inl hb
   ·rw [h5] at hb; exact Or.inr (by rw [← Option.some.inj hb]; exact Nat.le_refl _)
 ·have hpos : 0 < ms.length := List.length_pos_iff.2 h0
  obtain ⟨g, cap, rfl, _, _⟩ := hm.form hpos
  obtain ⟨g', cap', W', h1, h2, h3, h4, _⟩ := run_append_lies (P := Tryz.prog) W 22 22 N0 3 i0 _ 1 8 Tryz.underlying22 hi hz0 hz1 hz2 rfl (by decide) v ns.length (nuV ns) ho ⟨g, 0, none⟩ ms.length cap (nuV ms) (by rw [nuV_length, Nat.mul_one]) (hm.cells (g := g) rfl) (fun x hx => by simp [nuV] at hx; obtain ⟨n, _, rfl⟩ := hx; rfl) hpos (by unfold maxLen; omega) (by omega) hz _ rfl
  refine ⟨_, W', h1, by rw [e, List.length_append]; exact h2, h3, fun b hb => ?_, some ⟨g', 0, none⟩, cap', by rw [List.length_append]⟩
  have e2 : g' = b := by simpa [Value.ownBlock] using hb
  subst e2
  rcases h4 with h4 | h4
  ·exact Or.inl h4
  ·exact Or.inr (by rw [h4]; exact Nat.le_refl _)
theorem step_append_eqX {P : Program} {ops : Array Oper} {o : Oper} {a : Act} {K : Act → World → Prop} {Q : Exit → Act → World → Prop} {E : Prop} {w w' : World} {v u v' : Value} (hgd : o.guard = none) (s x : Operand) (t t' : TypeId)
  (ho : o.op = .call { callee := .builtin .append, args := #[s, x], argTypes := #[t, t'] }) (hs : a.eval s = v) (hx : a.eval x = u)
  (hr : (Builtin.append_ #[t, t'] o.type #[v, u]).run P w = .ok v' w') (h : K (a.put o.dst v') w') : if Region.wanted o (yielded ops a.tmps) = true then Oper.wp P o a w K Q else E := by
 have hw : Region.wanted o (yielded ops a.tmps) = true := by simp [Region.wanted, hgd]
 rw [if_pos hw]
 unfold Oper.wp execOp
 simp only [ho, resolve, invoke, builtin, Sem.run_bind, Sem.run_pure, Result.andThen_ok, List.map_toArray, List.map_cons, List.map_nil, hs, hx, hr]
 exact h
theorem term_apart {w : World} {N b : Nat} {tv : Value} {A : List Sg → Prop} {nm : List Sg → List Nat} {y : Lay} {cs : Array Value} (h : Tri w N tv A nm y) (hb : Blk w b cs 26) : ¬ OwnT A y b := by
 unfold Blk at hb
 rintro ⟨u, hu, h1 | h1 | h1⟩
 ·have h2 := h.node hu
  rw [h1] at h2
  unfold NdB Blk at h2
  split at h2
  ·rw [hb] at h2; injection h2 with h3; injection h3 with h4 h5; exact absurd h5 (by decide)
  ·rw [hb] at h2; injection h2 with h3; injection h3 with h4 h5; exact absurd h5 (by decide)
 ·obtain ⟨E, hE, _⟩ := h.kids hu h1
  obtain ⟨es, clk, h2, _⟩ := hE
  rw [hb] at h2; cases h2
 ·rcases (h.nums hu).2 with ⟨h2, _⟩ | ⟨g, cap, cur, h2, _, hg, _⟩
  ·rw [h2] at h1; cases h1
  ·rw [h2] at h1
   have e : g = b := by simpa [Value.ownBlock] using h1
   subst e
   rw [hg] at hb; injection hb with h3; injection h3 with h4 h5; exact absurd h5 (by decide)
theorem ne3 {N X QB g k : Nat} {l : List Tm} {w2 w7 : World} {y : Lay} {tv : Value} {Z : Nat → Prop} (hS : NwS N X (l.take k) (l.take k) w2 y tv Z) (hX : X < w2.heap.size) (hQ : QB < w2.heap.size) (hF : ∀ b, tv.ownBlock = some b → b < QB) (hQX : QB ≠ X) (hz : w2.heap.size ≤ w7.heap.size) (hat : tv.ownBlock = some g ∨ g = w7.heap.size) : X ≠ g ∧ QB ≠ g ∧ QB ≠ X := by
 refine ⟨fun e => ?_, fun e => ?_, hQX⟩
 ·rcases hat with h | h
  ·exact hS.own g h ⟨[], hS.tri.root, Or.inl (hS.here.trans e)⟩
  ·omega
 ·rcases hat with h | h
  ·have := hF g h; omega
  ·omega
def NwM (l : List Tm) (k X QB : Nat) (a' : Option Addr) (c' : Nat) (h : k < l.length) (w wc : World) : Prop :=
 (∃ y tv Z, NwS w.heap.size X (l.take k) (l.take (k + 1)) wc y tv Z) ∧ Below w.heap.size w wc ∧ Blk wc QB #[.string l[k].name, .slice a' l[k].args.length c'] 26
theorem nw_mid {l : List Tm} {k X QB c' : Nat} {a' : Option Addr} {w w2 wz : World} {y : Lay} {tv tv' : Value} {Z Z' : Nat → Prop} (h : k < l.length) (hk : (l.take k).length = k)
  (hp : NwS w.heap.size X (l.take k) (l.take k ++ [l[k]]) wz y tv' Z' ∧ ExQ (fun b => b = X ∨ tv.ownBlock = some b) w2 wz) (hb : Below w.heap.size w w2) (hX : w.heap.size ≤ X) (hS : NwS w.heap.size X (l.take k) (l.take k) w2 y tv Z)
  (hQ : Blk w2 QB #[.string l[k].name, .slice a' l[k].args.length c'] 26) (hF : ∀ b, tv.ownBlock = some b → b < QB) (hQX : QB ≠ X) : NwM l k X QB a' c' h w wz := by
 refine ⟨⟨y, tv', Z', ?_⟩, hb.trans (hp.2.below hb.size fun b hq => ?_), hQ.exq hp.2 ?_⟩
 ·rw [List.take_succ_eq_append_getElem h]; exact hp.1
 ·rcases hq with rfl | hq
  ·exact hX
  ·obtain ⟨xs, hr⟩ := hS.row; exact (hr.own.lt b hq).1
 ·rintro (e | e)
  ·exact hQX e
  ·have := hF QB e; omega
def NwC (l : List Tm) (w : World) (i : Value) (wr : World) : Prop := ∃ k : Nat, k ≤ l.length ∧ i = .int .i64 (k : Int) ∧ rowTE (l.take k) = 0 ∧ Below w.heap.size w wr
def NwI (l : List Tm) (X : Nat) (w : World) (i : Value) (wr : World) : Prop := ∃ (k : Nat) (y : Lay) (tv : Value) (Z : Nat → Prop), k ≤ l.length ∧ i = .int .i64 (k : Int) ∧ NwS w.heap.size X (l.take k) (l.take k) wr y tv Z ∧ Below w.heap.size w wr
theorem nw_start (w : World) (N : Nat) (hN : N ≤ w.heap.size) : NwS N w.heap.size [] [] (w.alloc (.cells #[.slice none 0 0, .map none, .slice none 0 0] 59)) ⟨fun _ => w.heap.size, fun _ => none, fun _ => .slice none 0 0⟩ (.slice none 0 0) (fun _ => False) := by
 have hA : ∀ u, Nd (wsL []) u → u = [] := fun u hu => by
  rcases hu with h | ⟨x, hx, _⟩
  ·exact h
  ·simp [wsL] at hx
 refine ⟨⟨Nd.nil _, fun hu => by have := hA _ hu; simp at this, fun {u} hu => ?_, fun hu hv _ => by rw [hA _ hu, hA _ hv], fun hu _ s hs => by have := hA _ hs; simp at this, (fun hu e => by cases e), (fun hu hv e => by cases e), fun {u} hu => ?_, (fun hu hv e => by cases e)⟩, rfl, ⟨[], RowX.start _ _ _⟩, fun b hb => hb.elim, (fun b hb => by cases hb), fun b hb => ?_⟩
 rotate_left
 rotate_left
 ·obtain ⟨u, hu, h1 | h1 | h1⟩ := hb
  ·rw [← h1]; exact hN
  ·cases h1
  ·cases h1
 ·rw [hA _ hu]
  unfold NdB
  rw [if_pos rfl]
  exact Blk.new _ _ _
 ·rw [show nmL (wsL []) u = [] from nmL_nil u]
  exact World.ownsRow_nil _ _ _ _
set_option maxHeartbeats 4000000 in
theorem new_any (l : List Tm) (a : Option Addr) (c : Nat) (w : World) (Xs0 : Nat → Prop) (hs0 : Sl w Xs0 a l) :
  Calls Tryz.prog 9 #[.slice a l.length c] w fun e w' => NwPost l w e w' := by
 obtain ⟨Xs, hXs, hs⟩ : ∃ Xs : Nat → Prop, (∀ b, Xs b → b < w.heap.size) ∧ Sl w Xs a l := ⟨fun b => Xs0 b ∧ b < w.heap.size, fun _ h => h.2, hs0.mono fun b h1 h2 => ⟨h1, h2⟩⟩
 have hll := hs.1
 have HS := hide hs
 clear hs hs0
 by_cases h40 : 40 < l.length
 ·have h40i : (40 : Int) < (l.length : Int) := by omega
  have HE : Hid (newE l = 3) := by unfold Hid newE; rw [if_pos h40]
  clear h40
  go_enter Tryz.func9, Tryz.ntmps9
  go_wp2_with fail
  refine bodyPost_ret (v := .tuple #[.pointer none, .int .i64 3]) (by simp [results, Tryz.results9, go_sem]) rfl ?_
  exact ⟨Below.refl _ _, Or.inl ⟨by rw [HE.out]; decide, by rw [HE.out]⟩⟩
 have h40i : ¬ (40 : Int) < (l.length : Int) := by omega
 have HE : Hid (newE l = rowTE l) := by unfold Hid newE; rw [if_neg h40]
 go_enter Tryz.func9, Tryz.ntmps9
 go_wp2_with fail
 go_loopw [15] (fun i wr => NwC l w i wr) (fun i wr => l.length - (intOf i).toNat)
 case atStart => exact ⟨0, Nat.zero_le _, rfl, by simp [rowTE], Below.refl _ _⟩
 case round =>
  obtain ⟨k, hk, rfl, hz, hb⟩ := hrel
  have HB := hide hb
  have HZ := hide hz
  clear hz hb
  by_cases hlt : k < l.length
  ·obtain ⟨b, o, a', c', rfl, d0, d1, hx⟩ := HS.out.get HB.out (fun _ _ h => h) k hlt
   have hki : (k : Int) < (l.length : Int) := by omega
   have HTV : Hid (TV (wr.alloc (.cells #[.string l[k].name, .slice a' l[k].args.length c'] 26)) Xs (.agg #[.string l[k].name, .slice a' l[k].args.length c']) l[k]) := by
    have h1 : TV wr Xs (.agg #[.string l[k].name, .slice a' l[k].args.length c']) l[k] := hx
    exact h1.alloc _
   have HB1 : Hid (Below w.heap.size w (wr.alloc (.cells #[.string l[k].name, .slice a' l[k].args.length c'] 26))) := HB.out.alloc HB.out.size _
   clear hx
   go_wp2_with fail
   refine (check_any l[k] _ _ Xs HTV.out).mono ?_
   rintro e w3 ⟨rfl, hb3⟩
   have HB3 := hide (HB1.out.trans (hb3.mono HB1.out.size))
   clear hb3 HTV HB1
   by_cases h0 : mayE l[k] = 0
   ·have HT := hide (rowTE_take hlt HZ.out)
    rw [h0] at HT ⊢
    go_wp2_with fail
    go_roundw
    case rel => exact ⟨k + 1, hlt, by go_num, HT.out, HB3.out⟩
    case measure => simp [intOf]; omega
   ·have hb0 : (mayE l[k] == 0) = false := beq_eq_false_iff_ne.2 h0
    have hn0 : (mayE l[k] != 0) = true := by simp [bne, hb0]
    have HF := hide (rowTE_first hlt HZ.out h0)
    have H0 := hide h0
    clear h0
    go_wp2_with fail
    refine bodyPost_ret (v := .tuple #[.pointer none, .int .i64 (mayE l[k])]) (by simp [results, Tryz.results9, go_sem]) rfl ?_
    exact ⟨HB3.out, Or.inl ⟨by rw [HE.out, HF.out]; exact H0.out, by rw [HE.out, HF.out]⟩⟩
  ·have hki : ¬ (k : Int) < (l.length : Int) := by omega
   have htk : l.take k = l := List.take_of_length_le (by omega)
   rw [htk] at HZ
   clear htk hk
   have HS0 := hide (nw_start wr w.heap.size HB.out.size)
   have HBX : Hid (Below w.heap.size w (wr.alloc (.cells #[.slice none 0 0, .map none, .slice none 0 0] 59))) := HB.out.alloc HB.out.size _
   obtain ⟨X, hX⟩ : ∃ X, X = wr.heap.size := ⟨_, rfl⟩
   rw [← hX] at HS0
   have HXN : Hid (w.heap.size ≤ X) := by rw [hX]; exact HB.out.size
   go_upto_region 11 with fail
   rw [← hX]
   clear hX
   generalize wr.alloc (.cells #[.slice none 0 0, .map none, .slice none 0 0] 59) = wq at *
   clear HB hlt hki
   go_wp2_with fail
   go_loopw [29] (fun i wr => NwI l X w i wr) (fun i wr => l.length - (intOf i).toNat)
   case atStart => exact ⟨0, _, _, _, Nat.zero_le _, rfl, by simpa using HS0.out, HBX.out⟩
   case round =>
    clear HS0 HBX
    obtain ⟨k, y, tv, Z, hk, rfl, hS, hb⟩ := hrel
    have HB := hide hb
    have HSS := hide hS
    clear hb hS
    by_cases hlt : k < l.length
    ·obtain ⟨b, o, a', c', rfl, d0, d1, hx⟩ := HS.out.get HB.out (fun _ _ h => h) k hlt
     have hki : (k : Int) < (l.length : Int) := by omega
     have hmay := mayE_zero (rowTE_all HZ.out l[k] (List.getElem_mem hlt))
     have hsz := hmay.1
     have HER : Hid (errL [l[k]] = 0) := hmay.2
     clear hmay
     have HTV : Hid (TV (wr.alloc (.cells #[.string l[k].name, .slice a' l[k].args.length c'] 26)) Xs (.agg #[.string l[k].name, .slice a' l[k].args.length c']) l[k]) := by
      have h1 : TV wr Xs (.agg #[.string l[k].name, .slice a' l[k].args.length c']) l[k] := hx
      exact h1.alloc _
     have HB1 : Hid (Below w.heap.size w (wr.alloc (.cells #[.string l[k].name, .slice a' l[k].args.length c'] 26))) := HB.out.alloc HB.out.size _
     have HS1 : Hid (NwS w.heap.size X (l.take k) (l.take k) (wr.alloc (.cells #[.string l[k].name, .slice a' l[k].args.length c'] 26)) y tv Z) := HSS.out.later ((Below.refl _ _).alloc (Nat.le_refl _) _)
     have HQB : Hid (Blk (wr.alloc (.cells #[.string l[k].name, .slice a' l[k].args.length c'] 26)) wr.heap.size #[.string l[k].name, .slice a' l[k].args.length c'] 26) := Blk.new _ _ _
     have HQF : Hid (∀ b, tv.ownBlock = some b → b < wr.heap.size) := fun b hb => by obtain ⟨xs, hr⟩ := HSS.out.row; exact (hr.own.lt b hb).2
     have HKL : Hid ((l.take k).length = k) := by unfold Hid; rw [List.length_take]; omega
     obtain ⟨ta, tc, rfl⟩ : ∃ ta tc, tv = .slice ta k tc := by obtain ⟨xs, hr⟩ := HSS.out.row; have h := hr.shape; rw [HKL.out] at h; exact h
     have HQX : Hid (wr.heap.size ≠ X) := by have := HSS.out.xlt; intro e; omega
     have HTW : Hid (TV w Xs (.agg #[.string l[k].name, .slice a' l[k].args.length c']) l[k]) := by
      have h1 : TV wr Xs (.agg #[.string l[k].name, .slice a' l[k].args.length c']) l[k] := hx
      obtain ⟨a9, c9, e9, h2⟩ := h1
      exact ⟨a9, c9, e9, h2.back HB.out hXs⟩
     clear hx HSS
     go_upto_region 14 with fail
     clear d0 d1
     generalize wr.heap.size = QB at *
     generalize wr.alloc (.cells #[.string l[k].name, .slice a' l[k].args.length c'] 26) = w1 at *
     go_cut [42] (fun v wc => NwM l k X QB a' c' hlt w wc)
     case first =>
      refine wp_region_held_drew (S := fun w' => w'.cell? ⟨QB, 0, none⟩ = some (.string l[k].name) ∧ w'.cell? ⟨QB, 1, none⟩ = some (.slice a' l[k].args.length c')) (by kernel_rfl) (by exact ⟨HQB.out.c0, HQB.out.c1⟩) (fun hHeld => ?_)
      have HS2 : Hid (NwS w.heap.size X (l.take k) (l.take k) w1.drew y (.slice ta k tc) Z) := HS1.out.later ((Below.refl _ _).drew)
      have HQ2 : Hid (Blk w1.drew QB #[.string l[k].name, .slice a' l[k].args.length c'] 26) := HQB.out
      have HTV2 : Hid (TV w1.drew Xs (.agg #[.string l[k].name, .slice a' l[k].args.length c']) l[k]) := HTV.out.later (Below.refl _ _).drew
      have HB2 : Hid (Below w.heap.size w w1.drew) := HB1.out.drew
      have HXL : Hid (X < w1.drew.heap.size) := HS2.out.xlt
      have HQL : Hid (QB < w1.drew.heap.size) := HQ2.out.lt
      generalize w1.drew = w2 at *
      have HB0 : Hid (Below w2.heap.size w2 w2) := Below.refl _ _
      clear HS1 HQB HTV HB1
      refine tkq (v := ?_) 0 rfl ?_ ?_
      rotate_left
      ·intro w' hSw
       obtain ⟨x0, x1⟩ := hSw
       go_simp <;> with_reducible rfl
      try simp only [Act.put, sq]
      refine tkq (v := ?_) 1 rfl ?_ ?_
      rotate_left
      ·intro w' hSw
       obtain ⟨x0, x1⟩ := hSw
       go_simp <;> with_reducible rfl
      try simp only [Act.put, sq]
      refine tkq (v := ?_) 2 rfl ?_ ?_
      rotate_left
      ·intro w' hSw
       obtain ⟨x0, x1⟩ := hSw
       go_simp <;> with_reducible rfl
      try simp only [Act.put, sq]
      refine tkq (v := ?_) 4 rfl ?_ ?_
      rotate_left
      ·intro w' hSw
       obtain ⟨x0, x1⟩ := hSw
       go_simp <;> with_reducible rfl
      try simp only [Act.put, sq]
      refine wpAnyH_ready (rs := [3, 5, 7]) (by kernel_rfl) (by simp) ?_
      refine AllReadyH.cons rfl (fun K hK => ?_) (AllReadyH.cons rfl (fun K hK => ?_) (AllReadyH.cons rfl (fun K hK => ?_) AllReadyH.nil))
      ·have c3 : w2.cell? ⟨X, 0, none⟩ = some (.slice ta k tc) := (HS2.out.blk.below HB0.out HXL.out).c0
       go_simp
       refine hK.out _ _ (by exact ⟨(HQ2.out.below HB0.out HQL.out).c0, (HQ2.out.below HB0.out HQL.out).c1⟩) (fun hHeld => ?_)
       clear hK K
       try simp only [Act.put, sq]
       clear c3
       refine tkq (v := ?_) 6 rfl ?_ ?_
       rotate_left
       ·intro w' hSw
        obtain ⟨x0, x1⟩ := hSw
        go_simp <;> with_reducible rfl
       try simp only [Act.put, sq]
       refine wpAnyH_ready (rs := [5, 7]) (by kernel_rfl) (by simp) ?_
       refine AllReadyH.cons rfl (fun K hK => ?_) (AllReadyH.cons rfl (fun K hK => ?_) AllReadyH.nil)
       ·go_simp
        go_at_call 24
        refine (copyOf_any l[k] _ w2 Xs (HTV2.out.later HB0.out) (by omega)).mono ?_
        rintro e v35 ⟨vv, rfl, ⟨a1, c1, rfl, hs1⟩, hb1⟩
        have HC35 : Hid (Below w2.heap.size w2 v35) := HB0.out.trans (hb1.mono HB0.out.size)
        have HSC : Hid (Sl v35 (fun b => w2.heap.size ≤ b) a1 l[k].args) := hs1.mono fun b hb _ => Nat.le_trans HB0.out.size hb
        clear hs1 hb1
        go_simp
        refine hK.out _ _ (by exact ⟨(HQ2.out.below HC35.out HQL.out).c0, (HQ2.out.below HC35.out HQL.out).c1⟩) (fun hHeld => ?_)
        clear hK K
        try simp only [Act.put, sq]
        refine rdq 7 rfl fun K hK => ?_
        have HBZ0 : Hid (Blk (v35.alloc (.cells #[.string ⟨#[]⟩, .slice none 0 0] 26)) v35.heap.size #[.string ⟨#[]⟩, .slice none 0 0] 26) := Blk.new _ _ _
        have HC357 : Hid (Below w2.heap.size w2 (v35.alloc (.cells #[.string ⟨#[]⟩, .slice none 0 0] 26))) := HC35.out.alloc HC35.out.size _
        have HSA : Hid (Sl (v35.alloc (.cells #[.string ⟨#[]⟩, .slice none 0 0] 26)) (fun b => w2.heap.size ≤ b) a1 l[k].args) := HSC.out.later ((Below.refl _ _).alloc (Nat.le_refl _) _)
        go_simp
        refine hK.out _ _ (by exact ⟨(HQ2.out.below HC357.out HQL.out).c0, (HQ2.out.below HC357.out HQL.out).c1⟩) (fun hHeld => ?_)
        clear hK K
        try simp only [Act.put, sq]
        obtain ⟨v357, hv357⟩ : ∃ z, z = v35.alloc (.cells #[.string ⟨#[]⟩, .slice none 0 0] 26) := ⟨_, rfl⟩
        obtain ⟨BZ, hBZ⟩ : ∃ z, z = v35.heap.size := ⟨_, rfl⟩
        rw [← hv357, ← hBZ] at HBZ0
        rw [← hv357] at HC357
        rw [← hv357] at HSA
        rw [← hv357, ← hBZ]
        clear hv357 hBZ
        have HBZ := HBZ0
        clear HBZ0
        obtain ⟨xs, hrx⟩ := HS2.out.row
        have hr7 := hrx.below HC357.out
        obtain ⟨g, cap, W8, hr8, ho8, hg8, hat8, hgl8⟩ := app_zeroX hr7 (Nat.le_trans HB2.out.size HC357.out.size) (by rw [HKL.out]; omega) _ HBZ.out
        have hp := HS2.out.push (c1 := c1) (t := l[k]) HB2.out.size HC357.out hr7 HSA.out ho8 hg8 hat8
        rw [HKL.out] at hp hr8 ho8
        have HP := hide hp
        clear hp
        have HR8 := hide hr8
        have HO8 := hide ho8
        have HQ8 : Hid (Blk W8 QB #[.string l[k].name, .slice a' l[k].args.length c'] 26) := (HQ2.out.below HC357.out HQL.out).grown hg8 (fun e => by have h1 := (hrx.own.lt QB e.symm).2; have h2 := HQL.out; have h3 := HQF.out _ e.symm; omega)
        have HX8 : Hid (Blk W8 X #[.slice ta k tc, .map (y.mp []), y.nv []] 59) := (HS2.out.blk.below HC357.out HXL.out).grown hg8 (fun e => HS2.out.own X e.symm ⟨[], HS2.out.tri.root, Or.inl HS2.out.here⟩)
        have HXK : Hid (xs.length = k * 2) := by have h := hrx.own.1; rw [HKL.out] at h; exact h
        have HNE : Hid (X ≠ g ∧ QB ≠ g ∧ QB ≠ X) := ne3 HS2.out HXL.out HQL.out HQF.out HQX.out HC357.out.size hat8
        have HFIN := hide (nw_mid hlt HKL.out HP.out HB2.out HXN.out HS2.out HQ2.out HQF.out HQX.out)
        clear hr7 hr8 ho8 hg8 hat8 hgl8 hrx HP
        refine rdq 8 rfl fun K hK => ?_
        refine step_append_eqX rfl _ _ _ _ rfl rfl rfl HR8.out ?_
        refine hK.out _ _ (by exact ⟨HQ8.out.c0, HQ8.out.c1⟩) (fun hHeld => ?_)
        clear hK K
        try simp only [Act.put, sq]
        have hk1 : (k : Int) < ((k + 1 : Nat) : Int) := by omega
        have hk2 : (k : Int) < (k : Int) + 1 := by omega
        refine tkq (v := ?_) 9 rfl ?_ ?_
        rotate_left
        ·intro w' hSw
         obtain ⟨x0, x1⟩ := hSw
         go_simp <;> with_reducible rfl
        try simp only [Act.put, sq]
        refine tkq (v := ?_) 11 rfl ?_ ?_
        rotate_left
        ·intro w' hSw
         obtain ⟨x0, x1⟩ := hSw
         go_simp <;> with_reducible rfl
        try simp only [Act.put, sq]
        refine tkq (v := ?_) 12 rfl ?_ ?_
        rotate_left
        ·intro w' hSw
         obtain ⟨x0, x1⟩ := hSw
         go_simp <;> with_reducible rfl
        try simp only [Act.put, sq]
        clear hk1 hk2
        have HG0 : Hid (W8.cell? ⟨g, k * 2, none⟩ = some (.string ⟨#[]⟩) ∧ W8.cell? ⟨g, k * 2 + 1, none⟩ = some (.slice none 0 0)) := row_last HO8.out HXK.out
        have hX0 := HX8.out.c0
        have hXf := HX8.out.frozen 0
        have hXl := HX8.out.lt
        have hg0 := HG0.out.1
        have hg1 := HG0.out.2
        have hgf := fun j => HO8.out.frozenAt j
        have hgl := (HO8.out.lt g rfl).2
        refine wpAnyH_ready (rs := [10, 13]) (by kernel_rfl) (by simp) ?_
        refine AllReadyH.cons rfl (fun K hK => ?_) (AllReadyH.cons rfl (fun K hK => ?_) AllReadyH.nil)
        ·go_simp
         refine hK.out _ _ (by exact ⟨(World.cell?_of_block (w := W8) (a := ⟨QB, 0, none⟩) (by rw [Below.heap_setCell _ _ _ _ HNE.out.2.1, Below.heap_setCell _ _ _ _ HNE.out.2.1])).trans HQ8.out.c0, (World.cell?_of_block (w := W8) (a := ⟨QB, 1, none⟩) (by rw [Below.heap_setCell _ _ _ _ HNE.out.2.1, Below.heap_setCell _ _ _ _ HNE.out.2.1])).trans HQ8.out.c1⟩) (fun hHeld => ?_)
         clear hK K
         try simp only [Act.put, sq]
         have hx3 : ((W8.setCell ⟨g, k * 2, none⟩ (.string l[k].name)).setCell ⟨g, k * 2 + 1, none⟩ (.slice a1 l[k].args.length c1)).cell? ⟨X, 0, none⟩ = some (.slice ta k tc) := (World.cell?_of_block (w := W8) (a := ⟨X, 0, none⟩) (by rw [Below.heap_setCell _ _ _ _ HNE.out.1, Below.heap_setCell _ _ _ _ HNE.out.1])).trans HX8.out.c0
         have hf3 : ((W8.setCell ⟨g, k * 2, none⟩ (.string l[k].name)).setCell ⟨g, k * 2 + 1, none⟩ (.slice a1 l[k].args.length c1)).frozen? ⟨X, 0, none⟩ = false := (World.frozen?_of_block (w := W8) (a := ⟨X, 0, none⟩) (by rw [Below.heap_setCell _ _ _ _ HNE.out.1, Below.heap_setCell _ _ _ _ HNE.out.1])).trans (HX8.out.frozen 0)
         refine rdq 13 rfl fun K hK => ?_
         go_simp
         refine hK.out _ _ (by exact ⟨HFIN.out.2.2.c0, HFIN.out.2.2.c1⟩) (fun hHeld => ?_)
         clear hK K
         try simp only [Act.put, sq]
         clear hx3 hf3
         refine wpAnyH_done (by kernel_rfl) ?_ _
         go_wp2_with fail
         go_meet
         exact HFIN.out
        ·go_simp
         refine hK.out _ _ (by exact ⟨(World.cell?_of_block (w := W8) (a := ⟨QB, 0, none⟩) (Below.heap_setCell _ _ _ _ HNE.out.2.2)).trans HQ8.out.c0, (World.cell?_of_block (w := W8) (a := ⟨QB, 1, none⟩) (Below.heap_setCell _ _ _ _ HNE.out.2.2)).trans HQ8.out.c1⟩) (fun hHeld => ?_)
         clear hK K
         try simp only [Act.put, sq]
         have hx3 : (W8.setCell ⟨X, 0, none⟩ (.slice (some ⟨g, 0, none⟩) (k + 1) cap)).cell? ⟨g, k * 2, none⟩ = some (.string ⟨#[]⟩) := (World.cell?_of_block (w := W8) (a := ⟨g, k * 2, none⟩) (Below.heap_setCell _ _ _ _ (Ne.symm HNE.out.1))).trans HG0.out.1
         have hx4 : (W8.setCell ⟨X, 0, none⟩ (.slice (some ⟨g, 0, none⟩) (k + 1) cap)).cell? ⟨g, k * 2 + 1, none⟩ = some (.slice none 0 0) := (World.cell?_of_block (w := W8) (a := ⟨g, k * 2 + 1, none⟩) (Below.heap_setCell _ _ _ _ (Ne.symm HNE.out.1))).trans HG0.out.2
         have hf3 : ∀ j, (W8.setCell ⟨X, 0, none⟩ (.slice (some ⟨g, 0, none⟩) (k + 1) cap)).frozen? ⟨g, j, none⟩ = false := fun j => (World.frozen?_of_block (w := W8) (a := ⟨g, j, none⟩) (Below.heap_setCell _ _ _ _ (Ne.symm HNE.out.1))).trans (HO8.out.frozenAt j)
         have hsw : ((W8.setCell ⟨X, 0, none⟩ (.slice (some ⟨g, 0, none⟩) (k + 1) cap)).setCell ⟨g, k * 2, none⟩ (.string l[k].name)).setCell ⟨g, k * 2 + 1, none⟩ (.slice a1 l[k].args.length c1) = ((W8.setCell ⟨g, k * 2, none⟩ (.string l[k].name)).setCell ⟨g, k * 2 + 1, none⟩ (.slice a1 l[k].args.length c1)).setCell ⟨X, 0, none⟩ (.slice (some ⟨g, 0, none⟩) (k + 1) cap) := by rw [setC_swap _ _ _ _ _ HNE.out.1, setC_swap _ _ _ _ _ HNE.out.1]
         have HFIN2 := hide hsw
         clear hsw
         refine rdq 10 rfl fun K hK => ?_
         go_simp
         refine hK.out _ _ (by exact by rw [HFIN2.out]; exact ⟨HFIN.out.2.2.c0, HFIN.out.2.2.c1⟩) (fun hHeld => ?_)
         clear hK K
         try simp only [Act.put, sq]
         clear hx3 hx4 hf3
         refine wpAnyH_done (by kernel_rfl) ?_ _
         go_wp2_with fail
         go_meet
         rw [HFIN2.out]; exact HFIN.out
       ·have HBZ0 : Hid (Blk (w2.alloc (.cells #[.string ⟨#[]⟩, .slice none 0 0] 26)) w2.heap.size #[.string ⟨#[]⟩, .slice none 0 0] 26) := Blk.new _ _ _
        have HC37 : Hid (Below w2.heap.size w2 (w2.alloc (.cells #[.string ⟨#[]⟩, .slice none 0 0] 26))) := HB0.out.alloc HB0.out.size _
        go_simp
        refine hK.out _ _ (by exact ⟨(HQ2.out.below HC37.out HQL.out).c0, (HQ2.out.below HC37.out HQL.out).c1⟩) (fun hHeld => ?_)
        clear hK K
        try simp only [Act.put, sq]
        obtain ⟨v37, hv37⟩ : ∃ z, z = w2.alloc (.cells #[.string ⟨#[]⟩, .slice none 0 0] 26) := ⟨_, rfl⟩
        obtain ⟨BZ, hBZ⟩ : ∃ z, z = w2.heap.size := ⟨_, rfl⟩
        rw [← hv37, ← hBZ] at HBZ0
        rw [← hv37] at HC37
        rw [← hv37, ← hBZ]
        clear hv37 hBZ
        have HBZ := HBZ0
        clear HBZ0
        refine rdq 5 rfl fun K hK => ?_
        go_simp
        go_at_call 24
        refine (copyOf_any l[k] _ v37 Xs (HTV2.out.later HC37.out) (by omega)).mono ?_
        rintro e v375 ⟨vv, rfl, ⟨a1, c1, rfl, hs1⟩, hb1⟩
        have HC375 : Hid (Below w2.heap.size w2 v375) := HC37.out.trans (hb1.mono HC37.out.size)
        have HSC : Hid (Sl v375 (fun b => w2.heap.size ≤ b) a1 l[k].args) := hs1.mono fun b hb _ => Nat.le_trans HC37.out.size hb
        have HZ : Hid (Blk v375 BZ #[.string ⟨#[]⟩, .slice none 0 0] 26) := HBZ.out.below hb1 HBZ.out.lt
        clear hs1 hb1
        go_simp
        refine hK.out _ _ (by exact ⟨(HQ2.out.below HC375.out HQL.out).c0, (HQ2.out.below HC375.out HQL.out).c1⟩) (fun hHeld => ?_)
        clear hK K
        try simp only [Act.put, sq]
        obtain ⟨xs, hrx⟩ := HS2.out.row
        have hr7 := hrx.below HC375.out
        obtain ⟨g, cap, W8, hr8, ho8, hg8, hat8, hgl8⟩ := app_zeroX hr7 (Nat.le_trans HB2.out.size HC375.out.size) (by rw [HKL.out]; omega) _ HZ.out
        have hp := HS2.out.push (c1 := c1) (t := l[k]) HB2.out.size HC375.out hr7 HSC.out ho8 hg8 hat8
        rw [HKL.out] at hp hr8 ho8
        have HP := hide hp
        clear hp
        have HR8 := hide hr8
        have HO8 := hide ho8
        have HQ8 : Hid (Blk W8 QB #[.string l[k].name, .slice a' l[k].args.length c'] 26) := (HQ2.out.below HC375.out HQL.out).grown hg8 (fun e => by have h1 := (hrx.own.lt QB e.symm).2; have h2 := HQL.out; have h3 := HQF.out _ e.symm; omega)
        have HX8 : Hid (Blk W8 X #[.slice ta k tc, .map (y.mp []), y.nv []] 59) := (HS2.out.blk.below HC375.out HXL.out).grown hg8 (fun e => HS2.out.own X e.symm ⟨[], HS2.out.tri.root, Or.inl HS2.out.here⟩)
        have HXK : Hid (xs.length = k * 2) := by have h := hrx.own.1; rw [HKL.out] at h; exact h
        have HNE : Hid (X ≠ g ∧ QB ≠ g ∧ QB ≠ X) := ne3 HS2.out HXL.out HQL.out HQF.out HQX.out HC375.out.size hat8
        have HFIN := hide (nw_mid hlt HKL.out HP.out HB2.out HXN.out HS2.out HQ2.out HQF.out HQX.out)
        clear hr7 hr8 ho8 hg8 hat8 hgl8 hrx HP
        refine rdq 8 rfl fun K hK => ?_
        refine step_append_eqX rfl _ _ _ _ rfl rfl rfl HR8.out ?_
        refine hK.out _ _ (by exact ⟨HQ8.out.c0, HQ8.out.c1⟩) (fun hHeld => ?_)
        clear hK K
        try simp only [Act.put, sq]
        have hk1 : (k : Int) < ((k + 1 : Nat) : Int) := by omega
        have hk2 : (k : Int) < (k : Int) + 1 := by omega
        refine tkq (v := ?_) 9 rfl ?_ ?_
        rotate_left
        ·intro w' hSw
         obtain ⟨x0, x1⟩ := hSw
         go_simp <;> with_reducible rfl
        try simp only [Act.put, sq]
        refine tkq (v := ?_) 11 rfl ?_ ?_
        rotate_left
        ·intro w' hSw
         obtain ⟨x0, x1⟩ := hSw
         go_simp <;> with_reducible rfl
        try simp only [Act.put, sq]
        refine tkq (v := ?_) 12 rfl ?_ ?_
        rotate_left
        ·intro w' hSw
         obtain ⟨x0, x1⟩ := hSw
         go_simp <;> with_reducible rfl
        try simp only [Act.put, sq]
        clear hk1 hk2
        have HG0 : Hid (W8.cell? ⟨g, k * 2, none⟩ = some (.string ⟨#[]⟩) ∧ W8.cell? ⟨g, k * 2 + 1, none⟩ = some (.slice none 0 0)) := row_last HO8.out HXK.out
        have hX0 := HX8.out.c0
        have hXf := HX8.out.frozen 0
        have hXl := HX8.out.lt
        have hg0 := HG0.out.1
        have hg1 := HG0.out.2
        have hgf := fun j => HO8.out.frozenAt j
        have hgl := (HO8.out.lt g rfl).2
        refine wpAnyH_ready (rs := [10, 13]) (by kernel_rfl) (by simp) ?_
        refine AllReadyH.cons rfl (fun K hK => ?_) (AllReadyH.cons rfl (fun K hK => ?_) AllReadyH.nil)
        ·go_simp
         refine hK.out _ _ (by exact ⟨(World.cell?_of_block (w := W8) (a := ⟨QB, 0, none⟩) (by rw [Below.heap_setCell _ _ _ _ HNE.out.2.1, Below.heap_setCell _ _ _ _ HNE.out.2.1])).trans HQ8.out.c0, (World.cell?_of_block (w := W8) (a := ⟨QB, 1, none⟩) (by rw [Below.heap_setCell _ _ _ _ HNE.out.2.1, Below.heap_setCell _ _ _ _ HNE.out.2.1])).trans HQ8.out.c1⟩) (fun hHeld => ?_)
         clear hK K
         try simp only [Act.put, sq]
         have hx3 : ((W8.setCell ⟨g, k * 2, none⟩ (.string l[k].name)).setCell ⟨g, k * 2 + 1, none⟩ (.slice a1 l[k].args.length c1)).cell? ⟨X, 0, none⟩ = some (.slice ta k tc) := (World.cell?_of_block (w := W8) (a := ⟨X, 0, none⟩) (by rw [Below.heap_setCell _ _ _ _ HNE.out.1, Below.heap_setCell _ _ _ _ HNE.out.1])).trans HX8.out.c0
         have hf3 : ((W8.setCell ⟨g, k * 2, none⟩ (.string l[k].name)).setCell ⟨g, k * 2 + 1, none⟩ (.slice a1 l[k].args.length c1)).frozen? ⟨X, 0, none⟩ = false := (World.frozen?_of_block (w := W8) (a := ⟨X, 0, none⟩) (by rw [Below.heap_setCell _ _ _ _ HNE.out.1, Below.heap_setCell _ _ _ _ HNE.out.1])).trans (HX8.out.frozen 0)
         refine rdq 13 rfl fun K hK => ?_
         go_simp
         refine hK.out _ _ (by exact ⟨HFIN.out.2.2.c0, HFIN.out.2.2.c1⟩) (fun hHeld => ?_)
         clear hK K
         try simp only [Act.put, sq]
         clear hx3 hf3
         refine wpAnyH_done (by kernel_rfl) ?_ _
         go_wp2_with fail
         go_meet
         exact HFIN.out
        ·go_simp
         refine hK.out _ _ (by exact ⟨(World.cell?_of_block (w := W8) (a := ⟨QB, 0, none⟩) (Below.heap_setCell _ _ _ _ HNE.out.2.2)).trans HQ8.out.c0, (World.cell?_of_block (w := W8) (a := ⟨QB, 1, none⟩) (Below.heap_setCell _ _ _ _ HNE.out.2.2)).trans HQ8.out.c1⟩) (fun hHeld => ?_)
         clear hK K
         try simp only [Act.put, sq]
         have hx3 : (W8.setCell ⟨X, 0, none⟩ (.slice (some ⟨g, 0, none⟩) (k + 1) cap)).cell? ⟨g, k * 2, none⟩ = some (.string ⟨#[]⟩) := (World.cell?_of_block (w := W8) (a := ⟨g, k * 2, none⟩) (Below.heap_setCell _ _ _ _ (Ne.symm HNE.out.1))).trans HG0.out.1
         have hx4 : (W8.setCell ⟨X, 0, none⟩ (.slice (some ⟨g, 0, none⟩) (k + 1) cap)).cell? ⟨g, k * 2 + 1, none⟩ = some (.slice none 0 0) := (World.cell?_of_block (w := W8) (a := ⟨g, k * 2 + 1, none⟩) (Below.heap_setCell _ _ _ _ (Ne.symm HNE.out.1))).trans HG0.out.2
         have hf3 : ∀ j, (W8.setCell ⟨X, 0, none⟩ (.slice (some ⟨g, 0, none⟩) (k + 1) cap)).frozen? ⟨g, j, none⟩ = false := fun j => (World.frozen?_of_block (w := W8) (a := ⟨g, j, none⟩) (Below.heap_setCell _ _ _ _ (Ne.symm HNE.out.1))).trans (HO8.out.frozenAt j)
         have hsw : ((W8.setCell ⟨X, 0, none⟩ (.slice (some ⟨g, 0, none⟩) (k + 1) cap)).setCell ⟨g, k * 2, none⟩ (.string l[k].name)).setCell ⟨g, k * 2 + 1, none⟩ (.slice a1 l[k].args.length c1) = ((W8.setCell ⟨g, k * 2, none⟩ (.string l[k].name)).setCell ⟨g, k * 2 + 1, none⟩ (.slice a1 l[k].args.length c1)).setCell ⟨X, 0, none⟩ (.slice (some ⟨g, 0, none⟩) (k + 1) cap) := by rw [setC_swap _ _ _ _ _ HNE.out.1, setC_swap _ _ _ _ _ HNE.out.1]
         have HFIN2 := hide hsw
         clear hsw
         refine rdq 10 rfl fun K hK => ?_
         go_simp
         refine hK.out _ _ (by exact by rw [HFIN2.out]; exact ⟨HFIN.out.2.2.c0, HFIN.out.2.2.c1⟩) (fun hHeld => ?_)
         clear hK K
         try simp only [Act.put, sq]
         clear hx3 hx4 hf3
         refine wpAnyH_done (by kernel_rfl) ?_ _
         go_wp2_with fail
         go_meet
         rw [HFIN2.out]; exact HFIN.out
      ·go_simp
       go_at_call 24
       refine (copyOf_any l[k] _ w2 Xs (HTV2.out.later HB0.out) (by omega)).mono ?_
       rintro e v5 ⟨vv, rfl, ⟨a1, c1, rfl, hs1⟩, hb1⟩
       have HC5 : Hid (Below w2.heap.size w2 v5) := HB0.out.trans (hb1.mono HB0.out.size)
       have HSC : Hid (Sl v5 (fun b => w2.heap.size ≤ b) a1 l[k].args) := hs1.mono fun b hb _ => Nat.le_trans HB0.out.size hb
       clear hs1 hb1
       go_simp
       refine hK.out _ _ (by exact ⟨(HQ2.out.below HC5.out HQL.out).c0, (HQ2.out.below HC5.out HQL.out).c1⟩) (fun hHeld => ?_)
       clear hK K
       try simp only [Act.put, sq]
       refine wpAnyH_ready (rs := [3, 7]) (by kernel_rfl) (by simp) ?_
       refine AllReadyH.cons rfl (fun K hK => ?_) (AllReadyH.cons rfl (fun K hK => ?_) AllReadyH.nil)
       ·have c3 : v5.cell? ⟨X, 0, none⟩ = some (.slice ta k tc) := (HS2.out.blk.below HC5.out HXL.out).c0
        go_simp
        refine hK.out _ _ (by exact ⟨(HQ2.out.below HC5.out HQL.out).c0, (HQ2.out.below HC5.out HQL.out).c1⟩) (fun hHeld => ?_)
        clear hK K
        try simp only [Act.put, sq]
        clear c3
        refine tkq (v := ?_) 6 rfl ?_ ?_
        rotate_left
        ·intro w' hSw
         obtain ⟨x0, x1⟩ := hSw
         go_simp <;> with_reducible rfl
        try simp only [Act.put, sq]
        refine rdq 7 rfl fun K hK => ?_
        have HBZ0 : Hid (Blk (v5.alloc (.cells #[.string ⟨#[]⟩, .slice none 0 0] 26)) v5.heap.size #[.string ⟨#[]⟩, .slice none 0 0] 26) := Blk.new _ _ _
        have HC537 : Hid (Below w2.heap.size w2 (v5.alloc (.cells #[.string ⟨#[]⟩, .slice none 0 0] 26))) := HC5.out.alloc HC5.out.size _
        have HSA : Hid (Sl (v5.alloc (.cells #[.string ⟨#[]⟩, .slice none 0 0] 26)) (fun b => w2.heap.size ≤ b) a1 l[k].args) := HSC.out.later ((Below.refl _ _).alloc (Nat.le_refl _) _)
        go_simp
        refine hK.out _ _ (by exact ⟨(HQ2.out.below HC537.out HQL.out).c0, (HQ2.out.below HC537.out HQL.out).c1⟩) (fun hHeld => ?_)
        clear hK K
        try simp only [Act.put, sq]
        obtain ⟨v537, hv537⟩ : ∃ z, z = v5.alloc (.cells #[.string ⟨#[]⟩, .slice none 0 0] 26) := ⟨_, rfl⟩
        obtain ⟨BZ, hBZ⟩ : ∃ z, z = v5.heap.size := ⟨_, rfl⟩
        rw [← hv537, ← hBZ] at HBZ0
        rw [← hv537] at HC537
        rw [← hv537] at HSA
        rw [← hv537, ← hBZ]
        clear hv537 hBZ
        have HBZ := HBZ0
        clear HBZ0
        obtain ⟨xs, hrx⟩ := HS2.out.row
        have hr7 := hrx.below HC537.out
        obtain ⟨g, cap, W8, hr8, ho8, hg8, hat8, hgl8⟩ := app_zeroX hr7 (Nat.le_trans HB2.out.size HC537.out.size) (by rw [HKL.out]; omega) _ HBZ.out
        have hp := HS2.out.push (c1 := c1) (t := l[k]) HB2.out.size HC537.out hr7 HSA.out ho8 hg8 hat8
        rw [HKL.out] at hp hr8 ho8
        have HP := hide hp
        clear hp
        have HR8 := hide hr8
        have HO8 := hide ho8
        have HQ8 : Hid (Blk W8 QB #[.string l[k].name, .slice a' l[k].args.length c'] 26) := (HQ2.out.below HC537.out HQL.out).grown hg8 (fun e => by have h1 := (hrx.own.lt QB e.symm).2; have h2 := HQL.out; have h3 := HQF.out _ e.symm; omega)
        have HX8 : Hid (Blk W8 X #[.slice ta k tc, .map (y.mp []), y.nv []] 59) := (HS2.out.blk.below HC537.out HXL.out).grown hg8 (fun e => HS2.out.own X e.symm ⟨[], HS2.out.tri.root, Or.inl HS2.out.here⟩)
        have HXK : Hid (xs.length = k * 2) := by have h := hrx.own.1; rw [HKL.out] at h; exact h
        have HNE : Hid (X ≠ g ∧ QB ≠ g ∧ QB ≠ X) := ne3 HS2.out HXL.out HQL.out HQF.out HQX.out HC537.out.size hat8
        have HFIN := hide (nw_mid hlt HKL.out HP.out HB2.out HXN.out HS2.out HQ2.out HQF.out HQX.out)
        clear hr7 hr8 ho8 hg8 hat8 hgl8 hrx HP
        refine rdq 8 rfl fun K hK => ?_
        refine step_append_eqX rfl _ _ _ _ rfl rfl rfl HR8.out ?_
        refine hK.out _ _ (by exact ⟨HQ8.out.c0, HQ8.out.c1⟩) (fun hHeld => ?_)
        clear hK K
        try simp only [Act.put, sq]
        have hk1 : (k : Int) < ((k + 1 : Nat) : Int) := by omega
        have hk2 : (k : Int) < (k : Int) + 1 := by omega
        refine tkq (v := ?_) 9 rfl ?_ ?_
        rotate_left
        ·intro w' hSw
         obtain ⟨x0, x1⟩ := hSw
         go_simp <;> with_reducible rfl
        try simp only [Act.put, sq]
        refine tkq (v := ?_) 11 rfl ?_ ?_
        rotate_left
        ·intro w' hSw
         obtain ⟨x0, x1⟩ := hSw
         go_simp <;> with_reducible rfl
        try simp only [Act.put, sq]
        refine tkq (v := ?_) 12 rfl ?_ ?_
        rotate_left
        ·intro w' hSw
         obtain ⟨x0, x1⟩ := hSw
         go_simp <;> with_reducible rfl
        try simp only [Act.put, sq]
        clear hk1 hk2
        have HG0 : Hid (W8.cell? ⟨g, k * 2, none⟩ = some (.string ⟨#[]⟩) ∧ W8.cell? ⟨g, k * 2 + 1, none⟩ = some (.slice none 0 0)) := row_last HO8.out HXK.out
        have hX0 := HX8.out.c0
        have hXf := HX8.out.frozen 0
        have hXl := HX8.out.lt
        have hg0 := HG0.out.1
        have hg1 := HG0.out.2
        have hgf := fun j => HO8.out.frozenAt j
        have hgl := (HO8.out.lt g rfl).2
        refine wpAnyH_ready (rs := [10, 13]) (by kernel_rfl) (by simp) ?_
        refine AllReadyH.cons rfl (fun K hK => ?_) (AllReadyH.cons rfl (fun K hK => ?_) AllReadyH.nil)
        ·go_simp
         refine hK.out _ _ (by exact ⟨(World.cell?_of_block (w := W8) (a := ⟨QB, 0, none⟩) (by rw [Below.heap_setCell _ _ _ _ HNE.out.2.1, Below.heap_setCell _ _ _ _ HNE.out.2.1])).trans HQ8.out.c0, (World.cell?_of_block (w := W8) (a := ⟨QB, 1, none⟩) (by rw [Below.heap_setCell _ _ _ _ HNE.out.2.1, Below.heap_setCell _ _ _ _ HNE.out.2.1])).trans HQ8.out.c1⟩) (fun hHeld => ?_)
         clear hK K
         try simp only [Act.put, sq]
         have hx3 : ((W8.setCell ⟨g, k * 2, none⟩ (.string l[k].name)).setCell ⟨g, k * 2 + 1, none⟩ (.slice a1 l[k].args.length c1)).cell? ⟨X, 0, none⟩ = some (.slice ta k tc) := (World.cell?_of_block (w := W8) (a := ⟨X, 0, none⟩) (by rw [Below.heap_setCell _ _ _ _ HNE.out.1, Below.heap_setCell _ _ _ _ HNE.out.1])).trans HX8.out.c0
         have hf3 : ((W8.setCell ⟨g, k * 2, none⟩ (.string l[k].name)).setCell ⟨g, k * 2 + 1, none⟩ (.slice a1 l[k].args.length c1)).frozen? ⟨X, 0, none⟩ = false := (World.frozen?_of_block (w := W8) (a := ⟨X, 0, none⟩) (by rw [Below.heap_setCell _ _ _ _ HNE.out.1, Below.heap_setCell _ _ _ _ HNE.out.1])).trans (HX8.out.frozen 0)
         refine rdq 13 rfl fun K hK => ?_
         go_simp
         refine hK.out _ _ (by exact ⟨HFIN.out.2.2.c0, HFIN.out.2.2.c1⟩) (fun hHeld => ?_)
         clear hK K
         try simp only [Act.put, sq]
         clear hx3 hf3
         refine wpAnyH_done (by kernel_rfl) ?_ _
         go_wp2_with fail
         go_meet
         exact HFIN.out
        ·go_simp
         refine hK.out _ _ (by exact ⟨(World.cell?_of_block (w := W8) (a := ⟨QB, 0, none⟩) (Below.heap_setCell _ _ _ _ HNE.out.2.2)).trans HQ8.out.c0, (World.cell?_of_block (w := W8) (a := ⟨QB, 1, none⟩) (Below.heap_setCell _ _ _ _ HNE.out.2.2)).trans HQ8.out.c1⟩) (fun hHeld => ?_)
         clear hK K
         try simp only [Act.put, sq]
         have hx3 : (W8.setCell ⟨X, 0, none⟩ (.slice (some ⟨g, 0, none⟩) (k + 1) cap)).cell? ⟨g, k * 2, none⟩ = some (.string ⟨#[]⟩) := (World.cell?_of_block (w := W8) (a := ⟨g, k * 2, none⟩) (Below.heap_setCell _ _ _ _ (Ne.symm HNE.out.1))).trans HG0.out.1
         have hx4 : (W8.setCell ⟨X, 0, none⟩ (.slice (some ⟨g, 0, none⟩) (k + 1) cap)).cell? ⟨g, k * 2 + 1, none⟩ = some (.slice none 0 0) := (World.cell?_of_block (w := W8) (a := ⟨g, k * 2 + 1, none⟩) (Below.heap_setCell _ _ _ _ (Ne.symm HNE.out.1))).trans HG0.out.2
         have hf3 : ∀ j, (W8.setCell ⟨X, 0, none⟩ (.slice (some ⟨g, 0, none⟩) (k + 1) cap)).frozen? ⟨g, j, none⟩ = false := fun j => (World.frozen?_of_block (w := W8) (a := ⟨g, j, none⟩) (Below.heap_setCell _ _ _ _ (Ne.symm HNE.out.1))).trans (HO8.out.frozenAt j)
         have hsw : ((W8.setCell ⟨X, 0, none⟩ (.slice (some ⟨g, 0, none⟩) (k + 1) cap)).setCell ⟨g, k * 2, none⟩ (.string l[k].name)).setCell ⟨g, k * 2 + 1, none⟩ (.slice a1 l[k].args.length c1) = ((W8.setCell ⟨g, k * 2, none⟩ (.string l[k].name)).setCell ⟨g, k * 2 + 1, none⟩ (.slice a1 l[k].args.length c1)).setCell ⟨X, 0, none⟩ (.slice (some ⟨g, 0, none⟩) (k + 1) cap) := by rw [setC_swap _ _ _ _ _ HNE.out.1, setC_swap _ _ _ _ _ HNE.out.1]
         have HFIN2 := hide hsw
         clear hsw
         refine rdq 10 rfl fun K hK => ?_
         go_simp
         refine hK.out _ _ (by exact by rw [HFIN2.out]; exact ⟨HFIN.out.2.2.c0, HFIN.out.2.2.c1⟩) (fun hHeld => ?_)
         clear hK K
         try simp only [Act.put, sq]
         clear hx3 hx4 hf3
         refine wpAnyH_done (by kernel_rfl) ?_ _
         go_wp2_with fail
         go_meet
         rw [HFIN2.out]; exact HFIN.out
       ·have HBZ0 : Hid (Blk (v5.alloc (.cells #[.string ⟨#[]⟩, .slice none 0 0] 26)) v5.heap.size #[.string ⟨#[]⟩, .slice none 0 0] 26) := Blk.new _ _ _
        have HC57 : Hid (Below w2.heap.size w2 (v5.alloc (.cells #[.string ⟨#[]⟩, .slice none 0 0] 26))) := HC5.out.alloc HC5.out.size _
        have HSA : Hid (Sl (v5.alloc (.cells #[.string ⟨#[]⟩, .slice none 0 0] 26)) (fun b => w2.heap.size ≤ b) a1 l[k].args) := HSC.out.later ((Below.refl _ _).alloc (Nat.le_refl _) _)
        go_simp
        refine hK.out _ _ (by exact ⟨(HQ2.out.below HC57.out HQL.out).c0, (HQ2.out.below HC57.out HQL.out).c1⟩) (fun hHeld => ?_)
        clear hK K
        try simp only [Act.put, sq]
        obtain ⟨v57, hv57⟩ : ∃ z, z = v5.alloc (.cells #[.string ⟨#[]⟩, .slice none 0 0] 26) := ⟨_, rfl⟩
        obtain ⟨BZ, hBZ⟩ : ∃ z, z = v5.heap.size := ⟨_, rfl⟩
        rw [← hv57, ← hBZ] at HBZ0
        rw [← hv57] at HC57
        rw [← hv57] at HSA
        rw [← hv57, ← hBZ]
        clear hv57 hBZ
        have HBZ := HBZ0
        clear HBZ0
        refine rdq 3 rfl fun K hK => ?_
        have c3 : v57.cell? ⟨X, 0, none⟩ = some (.slice ta k tc) := (HS2.out.blk.below HC57.out HXL.out).c0
        go_simp
        refine hK.out _ _ (by exact ⟨(HQ2.out.below HC57.out HQL.out).c0, (HQ2.out.below HC57.out HQL.out).c1⟩) (fun hHeld => ?_)
        clear hK K
        try simp only [Act.put, sq]
        clear c3
        refine tkq (v := ?_) 6 rfl ?_ ?_
        rotate_left
        ·intro w' hSw
         obtain ⟨x0, x1⟩ := hSw
         go_simp <;> with_reducible rfl
        try simp only [Act.put, sq]
        obtain ⟨xs, hrx⟩ := HS2.out.row
        have hr7 := hrx.below HC57.out
        obtain ⟨g, cap, W8, hr8, ho8, hg8, hat8, hgl8⟩ := app_zeroX hr7 (Nat.le_trans HB2.out.size HC57.out.size) (by rw [HKL.out]; omega) _ HBZ.out
        have hp := HS2.out.push (c1 := c1) (t := l[k]) HB2.out.size HC57.out hr7 HSA.out ho8 hg8 hat8
        rw [HKL.out] at hp hr8 ho8
        have HP := hide hp
        clear hp
        have HR8 := hide hr8
        have HO8 := hide ho8
        have HQ8 : Hid (Blk W8 QB #[.string l[k].name, .slice a' l[k].args.length c'] 26) := (HQ2.out.below HC57.out HQL.out).grown hg8 (fun e => by have h1 := (hrx.own.lt QB e.symm).2; have h2 := HQL.out; have h3 := HQF.out _ e.symm; omega)
        have HX8 : Hid (Blk W8 X #[.slice ta k tc, .map (y.mp []), y.nv []] 59) := (HS2.out.blk.below HC57.out HXL.out).grown hg8 (fun e => HS2.out.own X e.symm ⟨[], HS2.out.tri.root, Or.inl HS2.out.here⟩)
        have HXK : Hid (xs.length = k * 2) := by have h := hrx.own.1; rw [HKL.out] at h; exact h
        have HNE : Hid (X ≠ g ∧ QB ≠ g ∧ QB ≠ X) := ne3 HS2.out HXL.out HQL.out HQF.out HQX.out HC57.out.size hat8
        have HFIN := hide (nw_mid hlt HKL.out HP.out HB2.out HXN.out HS2.out HQ2.out HQF.out HQX.out)
        clear hr7 hr8 ho8 hg8 hat8 hgl8 hrx HP
        refine rdq 8 rfl fun K hK => ?_
        refine step_append_eqX rfl _ _ _ _ rfl rfl rfl HR8.out ?_
        refine hK.out _ _ (by exact ⟨HQ8.out.c0, HQ8.out.c1⟩) (fun hHeld => ?_)
        clear hK K
        try simp only [Act.put, sq]
        have hk1 : (k : Int) < ((k + 1 : Nat) : Int) := by omega
        have hk2 : (k : Int) < (k : Int) + 1 := by omega
        refine tkq (v := ?_) 9 rfl ?_ ?_
        rotate_left
        ·intro w' hSw
         obtain ⟨x0, x1⟩ := hSw
         go_simp <;> with_reducible rfl
        try simp only [Act.put, sq]
        refine tkq (v := ?_) 11 rfl ?_ ?_
        rotate_left
        ·intro w' hSw
         obtain ⟨x0, x1⟩ := hSw
         go_simp <;> with_reducible rfl
        try simp only [Act.put, sq]
        refine tkq (v := ?_) 12 rfl ?_ ?_
        rotate_left
        ·intro w' hSw
         obtain ⟨x0, x1⟩ := hSw
         go_simp <;> with_reducible rfl
        try simp only [Act.put, sq]
        clear hk1 hk2
        have HG0 : Hid (W8.cell? ⟨g, k * 2, none⟩ = some (.string ⟨#[]⟩) ∧ W8.cell? ⟨g, k * 2 + 1, none⟩ = some (.slice none 0 0)) := row_last HO8.out HXK.out
        have hX0 := HX8.out.c0
        have hXf := HX8.out.frozen 0
        have hXl := HX8.out.lt
        have hg0 := HG0.out.1
        have hg1 := HG0.out.2
        have hgf := fun j => HO8.out.frozenAt j
        have hgl := (HO8.out.lt g rfl).2
        refine wpAnyH_ready (rs := [10, 13]) (by kernel_rfl) (by simp) ?_
        refine AllReadyH.cons rfl (fun K hK => ?_) (AllReadyH.cons rfl (fun K hK => ?_) AllReadyH.nil)
        ·go_simp
         refine hK.out _ _ (by exact ⟨(World.cell?_of_block (w := W8) (a := ⟨QB, 0, none⟩) (by rw [Below.heap_setCell _ _ _ _ HNE.out.2.1, Below.heap_setCell _ _ _ _ HNE.out.2.1])).trans HQ8.out.c0, (World.cell?_of_block (w := W8) (a := ⟨QB, 1, none⟩) (by rw [Below.heap_setCell _ _ _ _ HNE.out.2.1, Below.heap_setCell _ _ _ _ HNE.out.2.1])).trans HQ8.out.c1⟩) (fun hHeld => ?_)
         clear hK K
         try simp only [Act.put, sq]
         have hx3 : ((W8.setCell ⟨g, k * 2, none⟩ (.string l[k].name)).setCell ⟨g, k * 2 + 1, none⟩ (.slice a1 l[k].args.length c1)).cell? ⟨X, 0, none⟩ = some (.slice ta k tc) := (World.cell?_of_block (w := W8) (a := ⟨X, 0, none⟩) (by rw [Below.heap_setCell _ _ _ _ HNE.out.1, Below.heap_setCell _ _ _ _ HNE.out.1])).trans HX8.out.c0
         have hf3 : ((W8.setCell ⟨g, k * 2, none⟩ (.string l[k].name)).setCell ⟨g, k * 2 + 1, none⟩ (.slice a1 l[k].args.length c1)).frozen? ⟨X, 0, none⟩ = false := (World.frozen?_of_block (w := W8) (a := ⟨X, 0, none⟩) (by rw [Below.heap_setCell _ _ _ _ HNE.out.1, Below.heap_setCell _ _ _ _ HNE.out.1])).trans (HX8.out.frozen 0)
         refine rdq 13 rfl fun K hK => ?_
         go_simp
         refine hK.out _ _ (by exact ⟨HFIN.out.2.2.c0, HFIN.out.2.2.c1⟩) (fun hHeld => ?_)
         clear hK K
         try simp only [Act.put, sq]
         clear hx3 hf3
         refine wpAnyH_done (by kernel_rfl) ?_ _
         go_wp2_with fail
         go_meet
         exact HFIN.out
        ·go_simp
         refine hK.out _ _ (by exact ⟨(World.cell?_of_block (w := W8) (a := ⟨QB, 0, none⟩) (Below.heap_setCell _ _ _ _ HNE.out.2.2)).trans HQ8.out.c0, (World.cell?_of_block (w := W8) (a := ⟨QB, 1, none⟩) (Below.heap_setCell _ _ _ _ HNE.out.2.2)).trans HQ8.out.c1⟩) (fun hHeld => ?_)
         clear hK K
         try simp only [Act.put, sq]
         have hx3 : (W8.setCell ⟨X, 0, none⟩ (.slice (some ⟨g, 0, none⟩) (k + 1) cap)).cell? ⟨g, k * 2, none⟩ = some (.string ⟨#[]⟩) := (World.cell?_of_block (w := W8) (a := ⟨g, k * 2, none⟩) (Below.heap_setCell _ _ _ _ (Ne.symm HNE.out.1))).trans HG0.out.1
         have hx4 : (W8.setCell ⟨X, 0, none⟩ (.slice (some ⟨g, 0, none⟩) (k + 1) cap)).cell? ⟨g, k * 2 + 1, none⟩ = some (.slice none 0 0) := (World.cell?_of_block (w := W8) (a := ⟨g, k * 2 + 1, none⟩) (Below.heap_setCell _ _ _ _ (Ne.symm HNE.out.1))).trans HG0.out.2
         have hf3 : ∀ j, (W8.setCell ⟨X, 0, none⟩ (.slice (some ⟨g, 0, none⟩) (k + 1) cap)).frozen? ⟨g, j, none⟩ = false := fun j => (World.frozen?_of_block (w := W8) (a := ⟨g, j, none⟩) (Below.heap_setCell _ _ _ _ (Ne.symm HNE.out.1))).trans (HO8.out.frozenAt j)
         have hsw : ((W8.setCell ⟨X, 0, none⟩ (.slice (some ⟨g, 0, none⟩) (k + 1) cap)).setCell ⟨g, k * 2, none⟩ (.string l[k].name)).setCell ⟨g, k * 2 + 1, none⟩ (.slice a1 l[k].args.length c1) = ((W8.setCell ⟨g, k * 2, none⟩ (.string l[k].name)).setCell ⟨g, k * 2 + 1, none⟩ (.slice a1 l[k].args.length c1)).setCell ⟨X, 0, none⟩ (.slice (some ⟨g, 0, none⟩) (k + 1) cap) := by rw [setC_swap _ _ _ _ _ HNE.out.1, setC_swap _ _ _ _ _ HNE.out.1]
         have HFIN2 := hide hsw
         clear hsw
         refine rdq 10 rfl fun K hK => ?_
         go_simp
         refine hK.out _ _ (by exact by rw [HFIN2.out]; exact ⟨HFIN.out.2.2.c0, HFIN.out.2.2.c1⟩) (fun hHeld => ?_)
         clear hK K
         try simp only [Act.put, sq]
         clear hx3 hx4 hf3
         refine wpAnyH_done (by kernel_rfl) ?_ _
         go_wp2_with fail
         go_meet
         rw [HFIN2.out]; exact HFIN.out
      ·have HBZ0 : Hid (Blk (w2.alloc (.cells #[.string ⟨#[]⟩, .slice none 0 0] 26)) w2.heap.size #[.string ⟨#[]⟩, .slice none 0 0] 26) := Blk.new _ _ _
       have HC7 : Hid (Below w2.heap.size w2 (w2.alloc (.cells #[.string ⟨#[]⟩, .slice none 0 0] 26))) := HB0.out.alloc HB0.out.size _
       go_simp
       refine hK.out _ _ (by exact ⟨(HQ2.out.below HC7.out HQL.out).c0, (HQ2.out.below HC7.out HQL.out).c1⟩) (fun hHeld => ?_)
       clear hK K
       try simp only [Act.put, sq]
       obtain ⟨v7, hv7⟩ : ∃ z, z = w2.alloc (.cells #[.string ⟨#[]⟩, .slice none 0 0] 26) := ⟨_, rfl⟩
       obtain ⟨BZ, hBZ⟩ : ∃ z, z = w2.heap.size := ⟨_, rfl⟩
       rw [← hv7, ← hBZ] at HBZ0
       rw [← hv7] at HC7
       rw [← hv7, ← hBZ]
       clear hv7 hBZ
       have HBZ := HBZ0
       clear HBZ0
       refine wpAnyH_ready (rs := [3, 5]) (by kernel_rfl) (by simp) ?_
       refine AllReadyH.cons rfl (fun K hK => ?_) (AllReadyH.cons rfl (fun K hK => ?_) AllReadyH.nil)
       ·have c3 : v7.cell? ⟨X, 0, none⟩ = some (.slice ta k tc) := (HS2.out.blk.below HC7.out HXL.out).c0
        go_simp
        refine hK.out _ _ (by exact ⟨(HQ2.out.below HC7.out HQL.out).c0, (HQ2.out.below HC7.out HQL.out).c1⟩) (fun hHeld => ?_)
        clear hK K
        try simp only [Act.put, sq]
        clear c3
        refine tkq (v := ?_) 6 rfl ?_ ?_
        rotate_left
        ·intro w' hSw
         obtain ⟨x0, x1⟩ := hSw
         go_simp <;> with_reducible rfl
        try simp only [Act.put, sq]
        refine rdq 5 rfl fun K hK => ?_
        go_simp
        go_at_call 24
        refine (copyOf_any l[k] _ v7 Xs (HTV2.out.later HC7.out) (by omega)).mono ?_
        rintro e v735 ⟨vv, rfl, ⟨a1, c1, rfl, hs1⟩, hb1⟩
        have HC735 : Hid (Below w2.heap.size w2 v735) := HC7.out.trans (hb1.mono HC7.out.size)
        have HSC : Hid (Sl v735 (fun b => w2.heap.size ≤ b) a1 l[k].args) := hs1.mono fun b hb _ => Nat.le_trans HC7.out.size hb
        have HZ : Hid (Blk v735 BZ #[.string ⟨#[]⟩, .slice none 0 0] 26) := HBZ.out.below hb1 HBZ.out.lt
        clear hs1 hb1
        go_simp
        refine hK.out _ _ (by exact ⟨(HQ2.out.below HC735.out HQL.out).c0, (HQ2.out.below HC735.out HQL.out).c1⟩) (fun hHeld => ?_)
        clear hK K
        try simp only [Act.put, sq]
        obtain ⟨xs, hrx⟩ := HS2.out.row
        have hr7 := hrx.below HC735.out
        obtain ⟨g, cap, W8, hr8, ho8, hg8, hat8, hgl8⟩ := app_zeroX hr7 (Nat.le_trans HB2.out.size HC735.out.size) (by rw [HKL.out]; omega) _ HZ.out
        have hp := HS2.out.push (c1 := c1) (t := l[k]) HB2.out.size HC735.out hr7 HSC.out ho8 hg8 hat8
        rw [HKL.out] at hp hr8 ho8
        have HP := hide hp
        clear hp
        have HR8 := hide hr8
        have HO8 := hide ho8
        have HQ8 : Hid (Blk W8 QB #[.string l[k].name, .slice a' l[k].args.length c'] 26) := (HQ2.out.below HC735.out HQL.out).grown hg8 (fun e => by have h1 := (hrx.own.lt QB e.symm).2; have h2 := HQL.out; have h3 := HQF.out _ e.symm; omega)
        have HX8 : Hid (Blk W8 X #[.slice ta k tc, .map (y.mp []), y.nv []] 59) := (HS2.out.blk.below HC735.out HXL.out).grown hg8 (fun e => HS2.out.own X e.symm ⟨[], HS2.out.tri.root, Or.inl HS2.out.here⟩)
        have HXK : Hid (xs.length = k * 2) := by have h := hrx.own.1; rw [HKL.out] at h; exact h
        have HNE : Hid (X ≠ g ∧ QB ≠ g ∧ QB ≠ X) := ne3 HS2.out HXL.out HQL.out HQF.out HQX.out HC735.out.size hat8
        have HFIN := hide (nw_mid hlt HKL.out HP.out HB2.out HXN.out HS2.out HQ2.out HQF.out HQX.out)
        clear hr7 hr8 ho8 hg8 hat8 hgl8 hrx HP
        refine rdq 8 rfl fun K hK => ?_
        refine step_append_eqX rfl _ _ _ _ rfl rfl rfl HR8.out ?_
        refine hK.out _ _ (by exact ⟨HQ8.out.c0, HQ8.out.c1⟩) (fun hHeld => ?_)
        clear hK K
        try simp only [Act.put, sq]
        have hk1 : (k : Int) < ((k + 1 : Nat) : Int) := by omega
        have hk2 : (k : Int) < (k : Int) + 1 := by omega
        refine tkq (v := ?_) 9 rfl ?_ ?_
        rotate_left
        ·intro w' hSw
         obtain ⟨x0, x1⟩ := hSw
         go_simp <;> with_reducible rfl
        try simp only [Act.put, sq]
        refine tkq (v := ?_) 11 rfl ?_ ?_
        rotate_left
        ·intro w' hSw
         obtain ⟨x0, x1⟩ := hSw
         go_simp <;> with_reducible rfl
        try simp only [Act.put, sq]
        refine tkq (v := ?_) 12 rfl ?_ ?_
        rotate_left
        ·intro w' hSw
         obtain ⟨x0, x1⟩ := hSw
         go_simp <;> with_reducible rfl
        try simp only [Act.put, sq]
        clear hk1 hk2
        have HG0 : Hid (W8.cell? ⟨g, k * 2, none⟩ = some (.string ⟨#[]⟩) ∧ W8.cell? ⟨g, k * 2 + 1, none⟩ = some (.slice none 0 0)) := row_last HO8.out HXK.out
        have hX0 := HX8.out.c0
        have hXf := HX8.out.frozen 0
        have hXl := HX8.out.lt
        have hg0 := HG0.out.1
        have hg1 := HG0.out.2
        have hgf := fun j => HO8.out.frozenAt j
        have hgl := (HO8.out.lt g rfl).2
        refine wpAnyH_ready (rs := [10, 13]) (by kernel_rfl) (by simp) ?_
        refine AllReadyH.cons rfl (fun K hK => ?_) (AllReadyH.cons rfl (fun K hK => ?_) AllReadyH.nil)
        ·go_simp
         refine hK.out _ _ (by exact ⟨(World.cell?_of_block (w := W8) (a := ⟨QB, 0, none⟩) (by rw [Below.heap_setCell _ _ _ _ HNE.out.2.1, Below.heap_setCell _ _ _ _ HNE.out.2.1])).trans HQ8.out.c0, (World.cell?_of_block (w := W8) (a := ⟨QB, 1, none⟩) (by rw [Below.heap_setCell _ _ _ _ HNE.out.2.1, Below.heap_setCell _ _ _ _ HNE.out.2.1])).trans HQ8.out.c1⟩) (fun hHeld => ?_)
         clear hK K
         try simp only [Act.put, sq]
         have hx3 : ((W8.setCell ⟨g, k * 2, none⟩ (.string l[k].name)).setCell ⟨g, k * 2 + 1, none⟩ (.slice a1 l[k].args.length c1)).cell? ⟨X, 0, none⟩ = some (.slice ta k tc) := (World.cell?_of_block (w := W8) (a := ⟨X, 0, none⟩) (by rw [Below.heap_setCell _ _ _ _ HNE.out.1, Below.heap_setCell _ _ _ _ HNE.out.1])).trans HX8.out.c0
         have hf3 : ((W8.setCell ⟨g, k * 2, none⟩ (.string l[k].name)).setCell ⟨g, k * 2 + 1, none⟩ (.slice a1 l[k].args.length c1)).frozen? ⟨X, 0, none⟩ = false := (World.frozen?_of_block (w := W8) (a := ⟨X, 0, none⟩) (by rw [Below.heap_setCell _ _ _ _ HNE.out.1, Below.heap_setCell _ _ _ _ HNE.out.1])).trans (HX8.out.frozen 0)
         refine rdq 13 rfl fun K hK => ?_
         go_simp
         refine hK.out _ _ (by exact ⟨HFIN.out.2.2.c0, HFIN.out.2.2.c1⟩) (fun hHeld => ?_)
         clear hK K
         try simp only [Act.put, sq]
         clear hx3 hf3
         refine wpAnyH_done (by kernel_rfl) ?_ _
         go_wp2_with fail
         go_meet
         exact HFIN.out
        ·go_simp
         refine hK.out _ _ (by exact ⟨(World.cell?_of_block (w := W8) (a := ⟨QB, 0, none⟩) (Below.heap_setCell _ _ _ _ HNE.out.2.2)).trans HQ8.out.c0, (World.cell?_of_block (w := W8) (a := ⟨QB, 1, none⟩) (Below.heap_setCell _ _ _ _ HNE.out.2.2)).trans HQ8.out.c1⟩) (fun hHeld => ?_)
         clear hK K
         try simp only [Act.put, sq]
         have hx3 : (W8.setCell ⟨X, 0, none⟩ (.slice (some ⟨g, 0, none⟩) (k + 1) cap)).cell? ⟨g, k * 2, none⟩ = some (.string ⟨#[]⟩) := (World.cell?_of_block (w := W8) (a := ⟨g, k * 2, none⟩) (Below.heap_setCell _ _ _ _ (Ne.symm HNE.out.1))).trans HG0.out.1
         have hx4 : (W8.setCell ⟨X, 0, none⟩ (.slice (some ⟨g, 0, none⟩) (k + 1) cap)).cell? ⟨g, k * 2 + 1, none⟩ = some (.slice none 0 0) := (World.cell?_of_block (w := W8) (a := ⟨g, k * 2 + 1, none⟩) (Below.heap_setCell _ _ _ _ (Ne.symm HNE.out.1))).trans HG0.out.2
         have hf3 : ∀ j, (W8.setCell ⟨X, 0, none⟩ (.slice (some ⟨g, 0, none⟩) (k + 1) cap)).frozen? ⟨g, j, none⟩ = false := fun j => (World.frozen?_of_block (w := W8) (a := ⟨g, j, none⟩) (Below.heap_setCell _ _ _ _ (Ne.symm HNE.out.1))).trans (HO8.out.frozenAt j)
         have hsw : ((W8.setCell ⟨X, 0, none⟩ (.slice (some ⟨g, 0, none⟩) (k + 1) cap)).setCell ⟨g, k * 2, none⟩ (.string l[k].name)).setCell ⟨g, k * 2 + 1, none⟩ (.slice a1 l[k].args.length c1) = ((W8.setCell ⟨g, k * 2, none⟩ (.string l[k].name)).setCell ⟨g, k * 2 + 1, none⟩ (.slice a1 l[k].args.length c1)).setCell ⟨X, 0, none⟩ (.slice (some ⟨g, 0, none⟩) (k + 1) cap) := by rw [setC_swap _ _ _ _ _ HNE.out.1, setC_swap _ _ _ _ _ HNE.out.1]
         have HFIN2 := hide hsw
         clear hsw
         refine rdq 10 rfl fun K hK => ?_
         go_simp
         refine hK.out _ _ (by exact by rw [HFIN2.out]; exact ⟨HFIN.out.2.2.c0, HFIN.out.2.2.c1⟩) (fun hHeld => ?_)
         clear hK K
         try simp only [Act.put, sq]
         clear hx3 hx4 hf3
         refine wpAnyH_done (by kernel_rfl) ?_ _
         go_wp2_with fail
         go_meet
         rw [HFIN2.out]; exact HFIN.out
       ·go_simp
        go_at_call 24
        refine (copyOf_any l[k] _ v7 Xs (HTV2.out.later HC7.out) (by omega)).mono ?_
        rintro e v75 ⟨vv, rfl, ⟨a1, c1, rfl, hs1⟩, hb1⟩
        have HC75 : Hid (Below w2.heap.size w2 v75) := HC7.out.trans (hb1.mono HC7.out.size)
        have HSC : Hid (Sl v75 (fun b => w2.heap.size ≤ b) a1 l[k].args) := hs1.mono fun b hb _ => Nat.le_trans HC7.out.size hb
        have HZ : Hid (Blk v75 BZ #[.string ⟨#[]⟩, .slice none 0 0] 26) := HBZ.out.below hb1 HBZ.out.lt
        clear hs1 hb1
        go_simp
        refine hK.out _ _ (by exact ⟨(HQ2.out.below HC75.out HQL.out).c0, (HQ2.out.below HC75.out HQL.out).c1⟩) (fun hHeld => ?_)
        clear hK K
        try simp only [Act.put, sq]
        refine rdq 3 rfl fun K hK => ?_
        have c3 : v75.cell? ⟨X, 0, none⟩ = some (.slice ta k tc) := (HS2.out.blk.below HC75.out HXL.out).c0
        go_simp
        refine hK.out _ _ (by exact ⟨(HQ2.out.below HC75.out HQL.out).c0, (HQ2.out.below HC75.out HQL.out).c1⟩) (fun hHeld => ?_)
        clear hK K
        try simp only [Act.put, sq]
        clear c3
        refine tkq (v := ?_) 6 rfl ?_ ?_
        rotate_left
        ·intro w' hSw
         obtain ⟨x0, x1⟩ := hSw
         go_simp <;> with_reducible rfl
        try simp only [Act.put, sq]
        obtain ⟨xs, hrx⟩ := HS2.out.row
        have hr7 := hrx.below HC75.out
        obtain ⟨g, cap, W8, hr8, ho8, hg8, hat8, hgl8⟩ := app_zeroX hr7 (Nat.le_trans HB2.out.size HC75.out.size) (by rw [HKL.out]; omega) _ HZ.out
        have hp := HS2.out.push (c1 := c1) (t := l[k]) HB2.out.size HC75.out hr7 HSC.out ho8 hg8 hat8
        rw [HKL.out] at hp hr8 ho8
        have HP := hide hp
        clear hp
        have HR8 := hide hr8
        have HO8 := hide ho8
        have HQ8 : Hid (Blk W8 QB #[.string l[k].name, .slice a' l[k].args.length c'] 26) := (HQ2.out.below HC75.out HQL.out).grown hg8 (fun e => by have h1 := (hrx.own.lt QB e.symm).2; have h2 := HQL.out; have h3 := HQF.out _ e.symm; omega)
        have HX8 : Hid (Blk W8 X #[.slice ta k tc, .map (y.mp []), y.nv []] 59) := (HS2.out.blk.below HC75.out HXL.out).grown hg8 (fun e => HS2.out.own X e.symm ⟨[], HS2.out.tri.root, Or.inl HS2.out.here⟩)
        have HXK : Hid (xs.length = k * 2) := by have h := hrx.own.1; rw [HKL.out] at h; exact h
        have HNE : Hid (X ≠ g ∧ QB ≠ g ∧ QB ≠ X) := ne3 HS2.out HXL.out HQL.out HQF.out HQX.out HC75.out.size hat8
        have HFIN := hide (nw_mid hlt HKL.out HP.out HB2.out HXN.out HS2.out HQ2.out HQF.out HQX.out)
        clear hr7 hr8 ho8 hg8 hat8 hgl8 hrx HP
        refine rdq 8 rfl fun K hK => ?_
        refine step_append_eqX rfl _ _ _ _ rfl rfl rfl HR8.out ?_
        refine hK.out _ _ (by exact ⟨HQ8.out.c0, HQ8.out.c1⟩) (fun hHeld => ?_)
        clear hK K
        try simp only [Act.put, sq]
        have hk1 : (k : Int) < ((k + 1 : Nat) : Int) := by omega
        have hk2 : (k : Int) < (k : Int) + 1 := by omega
        refine tkq (v := ?_) 9 rfl ?_ ?_
        rotate_left
        ·intro w' hSw
         obtain ⟨x0, x1⟩ := hSw
         go_simp <;> with_reducible rfl
        try simp only [Act.put, sq]
        refine tkq (v := ?_) 11 rfl ?_ ?_
        rotate_left
        ·intro w' hSw
         obtain ⟨x0, x1⟩ := hSw
         go_simp <;> with_reducible rfl
        try simp only [Act.put, sq]
        refine tkq (v := ?_) 12 rfl ?_ ?_
        rotate_left
        ·intro w' hSw
         obtain ⟨x0, x1⟩ := hSw
         go_simp <;> with_reducible rfl
        try simp only [Act.put, sq]
        clear hk1 hk2
        have HG0 : Hid (W8.cell? ⟨g, k * 2, none⟩ = some (.string ⟨#[]⟩) ∧ W8.cell? ⟨g, k * 2 + 1, none⟩ = some (.slice none 0 0)) := row_last HO8.out HXK.out
        have hX0 := HX8.out.c0
        have hXf := HX8.out.frozen 0
        have hXl := HX8.out.lt
        have hg0 := HG0.out.1
        have hg1 := HG0.out.2
        have hgf := fun j => HO8.out.frozenAt j
        have hgl := (HO8.out.lt g rfl).2
        refine wpAnyH_ready (rs := [10, 13]) (by kernel_rfl) (by simp) ?_
        refine AllReadyH.cons rfl (fun K hK => ?_) (AllReadyH.cons rfl (fun K hK => ?_) AllReadyH.nil)
        ·go_simp
         refine hK.out _ _ (by exact ⟨(World.cell?_of_block (w := W8) (a := ⟨QB, 0, none⟩) (by rw [Below.heap_setCell _ _ _ _ HNE.out.2.1, Below.heap_setCell _ _ _ _ HNE.out.2.1])).trans HQ8.out.c0, (World.cell?_of_block (w := W8) (a := ⟨QB, 1, none⟩) (by rw [Below.heap_setCell _ _ _ _ HNE.out.2.1, Below.heap_setCell _ _ _ _ HNE.out.2.1])).trans HQ8.out.c1⟩) (fun hHeld => ?_)
         clear hK K
         try simp only [Act.put, sq]
         have hx3 : ((W8.setCell ⟨g, k * 2, none⟩ (.string l[k].name)).setCell ⟨g, k * 2 + 1, none⟩ (.slice a1 l[k].args.length c1)).cell? ⟨X, 0, none⟩ = some (.slice ta k tc) := (World.cell?_of_block (w := W8) (a := ⟨X, 0, none⟩) (by rw [Below.heap_setCell _ _ _ _ HNE.out.1, Below.heap_setCell _ _ _ _ HNE.out.1])).trans HX8.out.c0
         have hf3 : ((W8.setCell ⟨g, k * 2, none⟩ (.string l[k].name)).setCell ⟨g, k * 2 + 1, none⟩ (.slice a1 l[k].args.length c1)).frozen? ⟨X, 0, none⟩ = false := (World.frozen?_of_block (w := W8) (a := ⟨X, 0, none⟩) (by rw [Below.heap_setCell _ _ _ _ HNE.out.1, Below.heap_setCell _ _ _ _ HNE.out.1])).trans (HX8.out.frozen 0)
         refine rdq 13 rfl fun K hK => ?_
         go_simp
         refine hK.out _ _ (by exact ⟨HFIN.out.2.2.c0, HFIN.out.2.2.c1⟩) (fun hHeld => ?_)
         clear hK K
         try simp only [Act.put, sq]
         clear hx3 hf3
         refine wpAnyH_done (by kernel_rfl) ?_ _
         go_wp2_with fail
         go_meet
         exact HFIN.out
        ·go_simp
         refine hK.out _ _ (by exact ⟨(World.cell?_of_block (w := W8) (a := ⟨QB, 0, none⟩) (Below.heap_setCell _ _ _ _ HNE.out.2.2)).trans HQ8.out.c0, (World.cell?_of_block (w := W8) (a := ⟨QB, 1, none⟩) (Below.heap_setCell _ _ _ _ HNE.out.2.2)).trans HQ8.out.c1⟩) (fun hHeld => ?_)
         clear hK K
         try simp only [Act.put, sq]
         have hx3 : (W8.setCell ⟨X, 0, none⟩ (.slice (some ⟨g, 0, none⟩) (k + 1) cap)).cell? ⟨g, k * 2, none⟩ = some (.string ⟨#[]⟩) := (World.cell?_of_block (w := W8) (a := ⟨g, k * 2, none⟩) (Below.heap_setCell _ _ _ _ (Ne.symm HNE.out.1))).trans HG0.out.1
         have hx4 : (W8.setCell ⟨X, 0, none⟩ (.slice (some ⟨g, 0, none⟩) (k + 1) cap)).cell? ⟨g, k * 2 + 1, none⟩ = some (.slice none 0 0) := (World.cell?_of_block (w := W8) (a := ⟨g, k * 2 + 1, none⟩) (Below.heap_setCell _ _ _ _ (Ne.symm HNE.out.1))).trans HG0.out.2
         have hf3 : ∀ j, (W8.setCell ⟨X, 0, none⟩ (.slice (some ⟨g, 0, none⟩) (k + 1) cap)).frozen? ⟨g, j, none⟩ = false := fun j => (World.frozen?_of_block (w := W8) (a := ⟨g, j, none⟩) (Below.heap_setCell _ _ _ _ (Ne.symm HNE.out.1))).trans (HO8.out.frozenAt j)
         have hsw : ((W8.setCell ⟨X, 0, none⟩ (.slice (some ⟨g, 0, none⟩) (k + 1) cap)).setCell ⟨g, k * 2, none⟩ (.string l[k].name)).setCell ⟨g, k * 2 + 1, none⟩ (.slice a1 l[k].args.length c1) = ((W8.setCell ⟨g, k * 2, none⟩ (.string l[k].name)).setCell ⟨g, k * 2 + 1, none⟩ (.slice a1 l[k].args.length c1)).setCell ⟨X, 0, none⟩ (.slice (some ⟨g, 0, none⟩) (k + 1) cap) := by rw [setC_swap _ _ _ _ _ HNE.out.1, setC_swap _ _ _ _ _ HNE.out.1]
         have HFIN2 := hide hsw
         clear hsw
         refine rdq 10 rfl fun K hK => ?_
         go_simp
         refine hK.out _ _ (by exact by rw [HFIN2.out]; exact ⟨HFIN.out.2.2.c0, HFIN.out.2.2.c1⟩) (fun hHeld => ?_)
         clear hK K
         try simp only [Act.put, sq]
         clear hx3 hx4 hf3
         refine wpAnyH_done (by kernel_rfl) ?_ _
         go_wp2_with fail
         go_meet
         rw [HFIN2.out]; exact HFIN.out
     case rest =>
      obtain ⟨⟨y1, tv1, Z1, hS9⟩, hb9, hq9⟩ := hcut
      rename World => w9
      have HS9 := hide hS9
      have HB9 := hide hb9
      have HQ9 := hide hq9
      have HTV9 : Hid (TV w9 Xs (.agg #[.string l[k].name, .slice a' l[k].args.length c']) l[k]) := HTW.out.below HB9.out (fun b h _ => hXs b h)
      clear hS9 hb9 hq9
      go_upto_region 15 with fail
      refine wp_region_held_drew (S := fun w' => w'.cell? ⟨QB, 0, none⟩ = some (.string l[k].name) ∧ w'.cell? ⟨QB, 1, none⟩ = some (.slice a' l[k].args.length c')) (by kernel_rfl) (by exact ⟨HQ9.out.c0, HQ9.out.c1⟩) (fun hHeld => ?_)
      have HS10 : Hid (NwS w.heap.size X (l.take k) (l.take (k + 1)) w9.drew y1 tv1 Z1) := HS9.out.later ((Below.refl _ _).drew)
      have HB10 : Hid (Below w.heap.size w w9.drew) := HB9.out.drew
      have HQ10 : Hid (Blk w9.drew QB #[.string l[k].name, .slice a' l[k].args.length c'] 26) := HQ9.out
      have HTV10 : Hid (TV w9.drew Xs (.agg #[.string l[k].name, .slice a' l[k].args.length c']) l[k]) := HTV9.out.later (Below.refl _ _).drew
      clear HS9 HB9 HQ9 HTV9
      generalize w9.drew = w10 at *
      refine tkq (v := ?_) 0 rfl ?_ ?_
      rotate_left
      ·intro w' hSw
       obtain ⟨x0, x1⟩ := hSw
       go_simp <;> with_reducible rfl
      try simp only [Act.put, sq]
      refine tkq (v := ?_) 1 rfl ?_ ?_
      rotate_left
      ·intro w' hSw
       obtain ⟨x0, x1⟩ := hSw
       go_simp <;> with_reducible rfl
      try simp only [Act.put, sq]
      refine tkq (v := ?_) 2 rfl ?_ ?_
      rotate_left
      ·intro w' hSw
       obtain ⟨x0, x1⟩ := hSw
       go_simp <;> with_reducible rfl
      try simp only [Act.put, sq]
      refine tkq (v := ?_) 3 rfl ?_ ?_
      rotate_left
      ·intro w' hSw
       obtain ⟨x0, x1⟩ := hSw
       go_simp <;> with_reducible rfl
      try simp only [Act.put, sq]
      refine tkq (v := ?_) 5 rfl ?_ ?_
      rotate_left
      ·intro w' hSw
       obtain ⟨x0, x1⟩ := hSw
       go_simp <;> with_reducible rfl
      try simp only [Act.put, sq]
      refine rdq 4 rfl fun K hK => ?_
      go_simp
      go_at_call 26
      refine (spots_any l[k] [] (.slice none 0 0) _ w10 Xs w10.heap.size HTV10.out (by show 0 + sizeL [l[k]] ≤ 100000; omega) (Nat.le_refl _) (fun b hb => Nat.lt_of_lt_of_le (hXs b hb) HB10.out.size) (World.ownsRow_nil _ _ _ _)).mono ?_
      rintro e w11 ⟨g, cap, rfl, ho, he, hat⟩
      simp only [List.length_nil, Nat.zero_add, List.nil_append] at ho
      have hbe : Below w10.heap.size w10 w11 := ⟨he.os, he.tape, he.output, he.size, fun b hb => he.block b hb (fun e => by cases e)⟩
      have HS11 := hide (HS10.out.later hbe)
      have HB11 := hide (HB10.out.trans (hbe.mono HB10.out.size))
      have HQ11 := hide (HQ10.out.below hbe HQ10.out.lt)
      have hgn : ¬ OwnT (Nd (wsL (l.take k))) y1 g := fun e => by have h1 := HS10.out.tri.lt e; have h2 := (ho.lt g rfl).1; omega
      have CL := lay_any (L := wsL (l.take k)) (x := wdL [l[k]]) (sp := spL 0 [l[k]]) (g := g) (cap := cap) w11 HS11.out.tri HB11.out.size (spL_words [l[k]] 0) (sg_ok [l[k]] HER.out (by omega)) (by rw [wsL_length, HKL.out]; omega) (by rw [spL_length]; exact ho) hgn
      rw [wsL_length, HKL.out, HS11.out.here, spL_length] at CL
      have HCL := hide CL
      clear ho he hat hbe hgn CL
      simp only [List.length_nil, Nat.zero_add]
      go_simp
      refine hK.out _ _ (by exact ⟨HQ11.out.c0, HQ11.out.c1⟩) (fun hHeld => ?_)
      clear hK K
      try simp only [Act.put, sq]
      refine rdq 6 rfl fun K hK => ?_
      go_simp
      go_at_call 25
      refine HCL.out.mono ?_
      rintro e w12 ⟨rfl, hly⟩
      have hex := ly_frame hly
      have HQ12 : Hid (Blk w12 QB #[.string l[k].name, .slice a' l[k].args.length c'] 26) := HQ11.out.exq hex (term_apart HS11.out.tri HQ11.out)
      have HB12 : Hid (Below w.heap.size w w12) := HB11.out.trans (hex.below HB11.out.size fun b hq => HS11.out.ge b hq)
      obtain ⟨y2, hS12⟩ := NwS.laid HB11.out.size HS11.out hly
      rw [← List.take_succ_eq_append_getElem hlt] at hS12
      have HS12 := hide hS12
      clear hly hS12 HCL hex
      go_simp
      refine hK.out _ _ (by exact ⟨HQ12.out.c0, HQ12.out.c1⟩) (fun hHeld => ?_)
      clear hK K
      try simp only [Act.put, sq]
      refine wpAnyH_done (by kernel_rfl) ?_ _
      go_wp2_with fail
      go_roundw
      case rel => exact ⟨k + 1, y2, tv1, Z1, hlt, by go_num, HS12.out, HB12.out⟩
      case measure => simp [intOf]; omega
    ·have hki : ¬ (k : Int) < (l.length : Int) := by omega
     have htk : l.take k = l := List.take_of_length_le (by omega)
     rw [htk] at HSS
     go_wp2_with fail
     refine bodyPost_ret (v := .tuple #[.pointer (some ⟨X, 0, none⟩), .int .i64 0]) (by simp [results, Tryz.results9, go_sem]) rfl ?_
     exact ⟨HB.out, Or.inr ⟨by rw [HE.out]; exact HZ.out, X, y, tv, Z, rfl, HSS.out⟩⟩
end Go.Proofs.YtdebiiodhkcnkaaGreat
