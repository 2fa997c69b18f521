/- Plain: the document's marks of unlike terms, by their places in the row (LeastOf). -/
import Derived.Test.YtfodgmnnjgcpgaaZKAutoKindsOwn
import Derived.Test.YtfodgmnnjgcpgaaZMAutoKindsOwn
namespace Go.Proofs.Ytfodgmnnjgcpgaa
open Go.RowKit
set_option linter.unusedSimpArgs false
set_option linter.unusedVariables false
set_option maxRecDepth 8000

theorem ApT.symm {A : Au} {l : List Tm} {t u : Tm} (h : ApT A l t u) : ApT A l u t := by
  induction h with
  | last ht hu h => exact .last hu ht fun e => h e.symm
  | step m xs i hm hl hx hi hs hu hv eu ev h ih =>
    rename_i a s u v
    obtain ⟨g1, g2⟩ := List.getElem?_eq_some_iff.1 hi
    have e : (xs.set i s).set i a = xs := by rw [List.set_set, ← g2, List.set_getElem_self]
    refine .step (u := v) (v := u) m (xs.set i s) i hm (by simpa using hl) (set_inT hx hs) (by simp [g1]) (hx a (by rw [← g2]; exact List.getElem_mem g1)) hv hu ev (by rw [e]; exact eu) ih
/-- What stands below a symbol: one term in one place, another one elsewhere. -/
def pAr (n side : Nat) (x o : Tm) : List Tm := (List.replicate n o).set side x
theorem pAr_len (n side : Nat) (x o : Tm) : (pAr n side x o).length = n := by simp [pAr]
theorem pAr_set (n side : Nat) (x y o : Tm) : (pAr n side x o).set side y = pAr n side y o := by simp [pAr]
theorem pAr_at {n side : Nat} (h : side < n) (x o : Tm) : (pAr n side x o)[side]? = some x := by simp [pAr, h]
theorem pAr_in {n side : Nat} {x o : Tm} {l : List Tm} (hx : x ∈ l) (ho : o ∈ l) : ∀ y ∈ pAr n side x o, y ∈ l := fun y hy => by
  rcases List.mem_or_eq_of_mem_set hy with h | h
  · rw [(List.mem_replicate.1 h).2]; exact ho
  · rw [h]; exact hx
/-- All rows of one or two are such. -/
theorem pAr_all {xs : List Tm} (h2 : xs.length ≤ 2) {i : Nat} {a : Tm} (hi : xs[i]? = some a) : ∃ o ∈ xs, xs = pAr xs.length i a o := by
  match xs, h2, i with
  | [], _, _ => simp at hi
  | [x], _, 0 => exact ⟨x, by simp, by simp at hi; simp [pAr, hi]⟩
  | [x], _, i + 1 => simp at hi
  | [x, y], _, 0 => exact ⟨y, by simp, by simp at hi; simp [pAr, hi, List.replicate]⟩
  | [x, y], _, 1 => exact ⟨x, by simp, by simp at hi; simp [pAr, hi, List.replicate]⟩
  | [x, y], _, i + 2 => simp at hi
/-- Marks so far. -/
structure MarksT (A : Au) (l : List Tm) (U : Nat → Nat → Bool) : Prop where
  sound : ∀ (i k : Nat) (hi : i < l.length) (hk : k < l.length), U i k = true → ApT A l l[i] l[k]
  last : ∀ (i k : Nat) (hi : i < l.length) (hk : k < l.length), accB A l[i] ≠ accB A l[k] → U i k = true
theorem MarksT.start {A : Au} {l : List Tm} {U : Nat → Nat → Bool} (h : ∀ (i k : Nat) (hi : i < l.length) (hk : k < l.length), U i k = (accB A l[i] != accB A l[k])) : MarksT A l U :=
  ⟨fun i k hi hk e => .last (List.getElem_mem hi) (List.getElem_mem hk) (by rw [h i k hi hk] at e; simpa using e), fun i k hi hk e => by rw [h i k hi hk]; simpa using e⟩
/-- They are parted, as the document says. -/
def PtB (A : Au) (l : List Tm) (U : Nat → Nat → Bool) (m : Mv) (side o i k : Nat) : Prop := ∃ (p q : Nat) (hp : p < l.length) (hq : q < l.length) (ho : o < l.length) (hi : i < l.length) (hk : k < l.length), endT A l[p] = endT A ⟨m.name, pAr m.frm.length side l[i] l[o]⟩ ∧ endT A l[q] = endT A ⟨m.name, pAr m.frm.length side l[k] l[o]⟩ ∧ U p q = true
def PtP (A : Au) (l : List Tm) (U : Nat → Nat → Bool) (i k : Nat) : Prop := ∃ m ∈ A.mv, ∃ side o, side < m.frm.length ∧ PtB A l U m side o i k
def setU (U : Nat → Nat → Bool) (i k : Nat) : Nat → Nat → Bool := fun x y => if x = i ∧ y = k then true else U x y
theorem MarksT.mark {A : Au} {l : List Tm} {U : Nat → Nat → Bool} (h : MarksT A l U) {i k : Nat} (hp : PtP A l U i k) : MarksT A l (setU (setU U i k) k i) := by
  obtain ⟨m, hm, side, o, hs, p, q, hp, hq, ho, hi, hk, e1, e2, hU⟩ := hp
  have key : ApT A l l[i] l[k] := .step (u := l[p]) (v := l[q]) m (pAr m.frm.length side l[i] l[o]) side hm (pAr_len ..) (pAr_in (List.getElem_mem hi) (List.getElem_mem ho)) (pAr_at hs _ _) (List.getElem_mem hk) (List.getElem_mem hp) (List.getElem_mem hq) e1 (by rw [pAr_set]; exact e2) (h.sound p q hp hq hU)
  refine ⟨fun x y hx hy e => ?_, fun x y hx hy e => ?_⟩
  · unfold setU at e
    by_cases c1 : x = k ∧ y = i
    · obtain ⟨rfl, rfl⟩ := c1
      exact key.symm
    · rw [if_neg c1] at e
      by_cases c2 : x = i ∧ y = k
      · obtain ⟨rfl, rfl⟩ := c2
        exact key
      · rw [if_neg c2] at e
        exact h.sound x y hx hy e
  · unfold setU
    rw [h.last x y hx hy e]
    simp
/-- When nothing is new. -/
theorem MarksT.full {A : Au} {l : List Tm} {U : Nat → Nat → Bool} (h : MarksT A l U) (hnd : ∀ (i j : Nat) (hi : i < l.length) (hj : j < l.length), endT A l[i] = endT A l[j] → i = j) (h2 : ∀ m ∈ A.mv, m.frm.length ≤ 2) (hno : ∀ i k, i < l.length → k < l.length → PtP A l U i k → U i k = true) {a s : Tm} (hap : ApT A l a s) : ∀ (i k : Nat) (hi : i < l.length) (hk : k < l.length), l[i] = a → l[k] = s → U i k = true := by
  induction hap with
  | last ht hu e =>
    intro i k hi hk e1 e2
    exact h.last i k hi hk (by rw [e1, e2]; exact e)
  | step m xs j hm hl hx hj hs hu hv eu ev _ ih =>
    rename_i a s u v
    intro i k hi hk e1 e2
    obtain ⟨o, hox, exs⟩ := pAr_all (by rw [hl]; exact h2 m hm) hj
    obtain ⟨oi, ho, eo⟩ := List.mem_iff_getElem.1 (hx o hox)
    obtain ⟨p, hp, ep⟩ := List.mem_iff_getElem.1 hu
    obtain ⟨q, hq, eq⟩ := List.mem_iff_getElem.1 hv
    have hj2 : j < xs.length := (List.getElem?_eq_some_iff.1 hj).1
    refine hno i k hi hk ⟨m, hm, j, oi, by omega, p, q, hp, hq, ho, hi, hk, ?_, ?_, ih p q hp hq ep eq⟩
    · rw [ep, eu, e1, eo, ← hl, ← exs]
    · rw [eq, ev, e2, eo, ← hl]
      conv => lhs; rw [exs, pAr_set]
theorem MarksT.alk {A : Au} {l : List Tm} {U : Nat → Nat → Bool} (h : MarksT A l U) (hnd : ∀ (i j : Nat) (hi : i < l.length) (hj : j < l.length), endT A l[i] = endT A l[j] → i = j) (h2 : ∀ m ∈ A.mv, m.frm.length ≤ 2) (hno : ∀ i k, i < l.length → k < l.length → PtP A l U i k → U i k = true) (i k : Nat) (hi : i < l.length) (hk : k < l.length) : alkT A l l[i] l[k] = !U i k := by
  rw [Bool.eq_iff_iff, alkT_iff]
  constructor
  · intro e
    cases hu : U i k with
    | false => rfl
    | true => exact absurd (h.sound i k hi hk hu) e
  · intro e g
    rw [h.full hnd h2 hno g i k hi hk rfl rfl] at e
    cases e
end Go.Proofs.Ytfodgmnnjgcpgaa
