/- Pairs of terms in memory; what is wrong with them. -/
import Derived.Test.YthlgknglalcggacZRewriteSaysOwn
namespace Go.Proofs.Ythlgknglalcggac
open Go.RowKit
set_option linter.unusedSimpArgs false
set_option linter.unusedVariables false

/-- Two terms. -/
structure Pr where
  l : Tm
  r : Tm

/-- A list of pairs in memory. -/
def QV (w : World) (X : Nat → Prop) (v : Value) (l : List Pr) : Prop :=
  ∃ a c, v = .slice a l.length c ∧ (l.length ≤ 9223372036854775807 ∧ l.length ≤ c) ∧ (l = [] ∨ ∃ b o, a = some ⟨b, o, none⟩ ∧ X b ∧ ∀ i (h : i < l.length), ∃ a1 c1 a2 c2, w.cell? ⟨b, o + i * 4, none⟩ = some (.string l[i].l.name) ∧ w.cell? ⟨b, o + i * 4 + 1, none⟩ = some (.slice a1 l[i].l.args.length c1) ∧ w.cell? ⟨b, o + i * 4 + 2, none⟩ = some (.string l[i].r.name) ∧ w.cell? ⟨b, o + i * 4 + 3, none⟩ = some (.slice a2 l[i].r.args.length c2) ∧ Sl w X a1 l[i].l.args ∧ Sl w X a2 l[i].r.args)

theorem QV.kept {w w' : World} {X : Nat → Prop} {v : Value} {l : List Pr} (h : QV w X v l) (hk : ∀ b, X b → w'.heap[b]? = w.heap[b]?) : QV w' X v l := by
  obtain ⟨a, c, e, hl, h⟩ := h
  refine ⟨a, c, e, hl, ?_⟩
  rcases h with h | ⟨b, o, ea, hX, h⟩
  · exact Or.inl h
  · refine Or.inr ⟨b, o, ea, hX, fun i hi => ?_⟩
    obtain ⟨a1, c1, a2, c2, h1, h2, h3, h4, h5, h6⟩ := h i hi
    have hb := hk b hX
    exact ⟨a1, c1, a2, c2, by simpa [World.cell?, hb] using h1, by simpa [World.cell?, hb] using h2, by simpa [World.cell?, hb] using h3, by simpa [World.cell?, hb] using h4, h5.kept hk, h6.kept hk⟩
theorem QV.mono {w : World} {X Y : Nat → Prop} {v : Value} {l : List Pr} (h : QV w X v l) (hk : ∀ b, X b → b < w.heap.size → Y b) : QV w Y v l := by
  obtain ⟨a, c, e, hl, h⟩ := h
  refine ⟨a, c, e, hl, ?_⟩
  rcases h with h | ⟨b, o, ea, hX, h⟩
  · exact Or.inl h
  · by_cases h0 : l = []
    · exact Or.inl h0
    · have hp : 0 < l.length := List.length_pos_iff.2 h0
      obtain ⟨_, _, _, _, g, _⟩ := h 0 hp
      refine Or.inr ⟨b, o, ea, hk b hX (cell_lt g), fun i hi => ?_⟩
      obtain ⟨a1, c1, a2, c2, h1, h2, h3, h4, h5, h6⟩ := h i hi
      exact ⟨a1, c1, a2, c2, h1, h2, h3, h4, h5.mono hk, h6.mono hk⟩
theorem QV.later {w w' : World} {X : Nat → Prop} {v : Value} {l : List Pr} (h : QV w X v l) (hb : Below w.heap.size w w') : QV w' X v l :=
  ((h.mono (Y := fun b => X b ∧ b < w.heap.size) fun b h1 h2 => ⟨h1, h2⟩).kept fun b hx => hb.block b hx.2).mono fun b hx _ => hx.1
theorem QV.alloc {w : World} {X : Nat → Prop} {v : Value} {l : List Pr} (h : QV w X v l) (o : Obj) : QV (w.alloc o) X v l := h.later ((Below.refl _ _).alloc (Nat.le_refl _) o)
theorem QV.get {w : World} {X : Nat → Prop} {a : Option Addr} {n c : Nat} {l : List Pr} (h : QV w X (.slice a n c) l) (i : Nat) (hi : i < l.length) :
    ∃ b o a1 c1 a2 c2, a = some ⟨b, o, none⟩ ∧ w.cell? ⟨b, o + i * 4, none⟩ = some (.string l[i].l.name) ∧ w.cell? ⟨b, o + i * 4 + 1, none⟩ = some (.slice a1 l[i].l.args.length c1) ∧ w.cell? ⟨b, o + i * 4 + 2, none⟩ = some (.string l[i].r.name) ∧ w.cell? ⟨b, o + i * 4 + 3, none⟩ = some (.slice a2 l[i].r.args.length c2) ∧ Sl w X a1 l[i].l.args ∧ Sl w X a2 l[i].r.args := by
  obtain ⟨a2, c2, e, hl, h⟩ := h
  simp at e
  obtain ⟨rfl, rfl, rfl⟩ := e
  rcases h with h | ⟨b, o, ea, hX, h⟩
  · subst h; simp at hi
  · obtain ⟨a1, c1, a2, c2, h1, h2, h3, h4, h5, h6⟩ := h i hi
    exact ⟨b, o, a1, c1, a2, c2, ea, h1, h2, h3, h4, h5, h6⟩

/-- What is wrong with the first that is wrong. -/
def pmT (ls : List Pr) : Nat → Int
  | 0 => 0
  | k + 1 => if pmT ls k = 0 then (match ls[k]? with | some p => twoE p.l p.r | none => 0) else pmT ls k
def pairsE (ls : List Pr) : Int := if 40 < ls.length then 3 else pmT ls ls.length
theorem pmT_stays {ls : List Pr} {k : Nat} (h : pmT ls k ≠ 0) : ∀ n, k ≤ n → pmT ls n = pmT ls k
  | 0, hn => by have : k = 0 := by omega
                subst this; rfl
  | n + 1, hn => by
    by_cases e : k = n + 1
    · subst e; rfl
    · have ih := pmT_stays h n (by omega)
      rw [pmT, if_neg (by rw [ih]; exact h)]
      exact ih
theorem pmT_next {ls : List Pr} {k : Nat} (hk : k < ls.length) (h0 : pmT ls k = 0) : pmT ls (k + 1) = twoE ls[k].l ls[k].r := by rw [pmT, if_pos h0, List.getElem?_eq_getElem hk]
theorem pmT_err {ls : List Pr} {k : Nat} (hk : k < ls.length) (h40 : ¬ 40 < ls.length) (h0 : pmT ls k = 0) (hne : twoE ls[k].l ls[k].r ≠ 0) : pairsE ls = twoE ls[k].l ls[k].r := by
  unfold pairsE
  rw [if_neg h40]
  have h1 := pmT_next hk h0
  rw [← h1]
  exact pmT_stays (by rw [h1]; exact hne) _ (by omega)
theorem pairsE_len {ls : List Pr} (h : pairsE ls = 0) : ls.length ≤ 40 := by
  unfold pairsE at h
  split at h
  · cases h
  · omega
theorem pairsE_all {ls : List Pr} (h : pairsE ls = 0) : ∀ p ∈ ls, mayE p.l = 0 ∧ mayE p.r = 0 := by
  intro p hp
  obtain ⟨k, hk, rfl⟩ := List.getElem_of_mem hp
  have h40 := pairsE_len h
  unfold pairsE at h
  rw [if_neg (by omega)] at h
  have h0 : ∀ n, n ≤ ls.length → pmT ls n = 0 := fun n hn => by
    by_cases e : pmT ls n = 0
    · exact e
    · have := pmT_stays e _ hn
      rw [this] at h
      exact absurd h e
  have h1 := pmT_next hk (h0 k (by omega))
  rw [h0 (k + 1) (by omega)] at h1
  have h2 := h1.symm
  unfold twoE at h2
  by_cases e : mayE ls[k].l = 0
  · rw [if_pos e] at h2; exact ⟨e, h2⟩
  · rw [if_neg e] at h2; exact absurd h2 e
#print axioms pairsE_all
end Go.Proofs.Ythlgknglalcggac
