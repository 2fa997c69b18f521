/- What stands for variables while equations are worked off, in a map: what was put in, and when. -/
import Derived.Test.YteojdfmdhgnmfaaGreatU4
import Derived.Test.YteojdfmdhgnmfaaGreatFl1
import Derived.Test.YteojdfmdhgnmfaaGreatZTopEmbedOwn
namespace Go.Proofs.YteojdfmdhgnmfaaGreat
open Go.RowKit
set_option linter.unusedSimpArgs false
set_option linter.unusedVariables false
set_option maxRecDepth 8000

theorem gL_onL {s : List Bd} (hs : ∀ d ∈ s, varB d.nm = true) : ∀ l : List Tm, errL l = 0 → gL (forT s) l = onL s l := by
  intro l
  induction l using Tm.indL with
  | h0 => intro _; simp [gL, onL]
  | h n l r ihl ihr =>
    intro he
    obtain ⟨g1, g2, g3⟩ := errL_parts he
    rw [gL, onL_cons, ihr g3, ihl g2]
    congr 1
    cases hv : varB n with
    | false => rw [onT_sym2 hs hv, gN, hv]; rfl
    | true =>
      have e := g1 hv
      subst e
      rw [onT_leaf, gN, hv]
      cases forT s n with
      | none => simp [onL]
      | some x => rfl
theorem gT_onT {s : List Bd} (hs : ∀ d ∈ s, varB d.nm = true) {t : Tm} (he : errL [t] = 0) : gT (forT s) t = onT s t := by
  have h := gL_onL hs [t] he
  rw [gL_map, onL_cons] at h
  simpa [onL] using h

/-- The names may be. -/
def NamesH (h : List (ByteArray × Tm)) : Prop := ∀ i (hi : i < h.length), nameB h[i].1 = true
/-- What stands for the i-th variable, as it lies in the map. -/
def StE (w : World) (Y : Nat → Prop) (h : List (ByteArray × Tm)) (i : Nat) (hi : i < h.length) (v : Value) : Prop :=
  ∃ (j : Nat) (a : Option Addr) (c : Nat), j ≤ h.length ∧ v = .agg #[.string (stood h i (max j (i + 1)) hi).name, .slice a (stood h i (max j (i + 1)) hi).args.length c, .int .i64 (j : Int)] ∧ Sl w Y a (stood h i (max j (i + 1)) hi).args
def StMap (w : World) (Y : Nat → Prop) (h : List (ByteArray × Tm)) (L : List (ByteArray × Value)) : Prop :=
  L.length = h.length ∧ ∀ i (hi : i < h.length) (hl : i < L.length), L[i].1 = h[i].1 ∧ StE w Y h i hi L[i].2
theorem StE.imp {w w' : World} {Y Z : Nat → Prop} {h : List (ByteArray × Tm)} {i : Nat} {hi : i < h.length} {v : Value} (hs : ∀ a l, Sl w Y a l → Sl w' Z a l) (e : StE w Y h i hi v) : StE w' Z h i hi v := by
  obtain ⟨j, a, c, h1, h2, h3⟩ := e
  exact ⟨j, a, c, h1, h2, hs _ _ h3⟩
theorem StMap.imp {w w' : World} {Y Z : Nat → Prop} {h : List (ByteArray × Tm)} {L : List (ByteArray × Value)} (hs : ∀ a l, Sl w Y a l → Sl w' Z a l) (e : StMap w Y h L) : StMap w' Z h L :=
  ⟨e.1, fun i hi hl => ⟨(e.2 i hi hl).1, (e.2 i hi hl).2.imp hs⟩⟩
theorem mapGet_at : ∀ (L : List (ByteArray × Value)) (i : Nat) (hi : i < L.length), (∀ k (hk : k < L.length), k < i → L[k].1 ≠ L[i].1) → mapGet L L[i].1 = some L[i].2
  | [], i, hi, _ => by simp at hi
  | p :: r, 0, hi, _ => by simp [mapGet]
  | p :: r, i + 1, hi, h => by
    have h0 := h 0 (by simp) (by omega)
    simp only [List.getElem_cons_zero, List.getElem_cons_succ] at h0 ⊢
    rw [mapGet, if_neg h0]
    refine mapGet_at r i (by simpa using hi) fun k hk hki => ?_
    have := h (k + 1) (by simpa using hk) (by omega)
    simpa using this
theorem mapGet_none : ∀ (L : List (ByteArray × Value)) (n : ByteArray), (∀ k (hk : k < L.length), L[k].1 ≠ n) → mapGet L n = none
  | [], n, _ => rfl
  | p :: r, n, h => by
    have h0 := h 0 (by simp)
    simp only [List.getElem_cons_zero] at h0
    rw [mapGet, if_neg h0]
    exact mapGet_none r n fun k hk => by have := h (k + 1) (by simpa using hk); simpa using this
theorem setAt_get : ∀ (L : List (ByteArray × Value)) (i : Nat) (hi : i < L.length) (v : Value), (∀ k (hk : k < L.length), k < i → L[k].1 ≠ L[i].1) → setAt L L[i].1 v = L.set i (L[i].1, v)
  | [], i, hi, v, _ => by simp at hi
  | p :: r, 0, hi, v, _ => by simp [setAt]
  | p :: r, i + 1, hi, v, h => by
    have h0 := h 0 (by simp) (by omega)
    simp only [List.getElem_cons_zero, List.getElem_cons_succ] at h0 ⊢
    rw [setAt, if_neg h0, setAt_get r i (by simpa using hi) v fun k hk hki => by have := h (k + 1) (by simpa using hk) (by omega); simpa using this]
    rfl
theorem StMap.apart {w : World} {Y : Nat → Prop} {h : List (ByteArray × Tm)} {L : List (ByteArray × Value)} (e : StMap w Y h L) (g : GoodH h) (i : Nat) (hi : i < L.length) : ∀ k (hk : k < L.length), k < i → L[k].1 ≠ L[i].1 := fun k hk hki hh => by
  have hl := e.1
  rw [(e.2 k (by omega) hk).1, (e.2 i (by omega) hi).1] at hh
  have := g.once (by omega) (by omega) hh
  omega
theorem StMap.get {w : World} {Y : Nat → Prop} {h : List (ByteArray × Tm)} {L : List (ByteArray × Value)} (e : StMap w Y h L) (g : GoodH h) {i : Nat} (hi : i < h.length) : ∃ v, mapGet L h[i].1 = some v ∧ StE w Y h i hi v := by
  have hl : i < L.length := by rw [e.1]; exact hi
  have h1 := mapGet_at L i hl (e.apart g i hl)
  rw [(e.2 i hi hl).1] at h1
  exact ⟨_, h1, (e.2 i hi hl).2⟩
theorem StMap.none {w : World} {Y : Nat → Prop} {h : List (ByteArray × Tm)} {L : List (ByteArray × Value)} (e : StMap w Y h L) {n : ByteArray} (hn : ∀ i (hi : i < h.length), h[i].1 ≠ n) : mapGet L n = none :=
  mapGet_none L n fun k hk => by rw [(e.2 k (by rw [← e.1]; exact hk) hk).1]; exact hn k _
theorem StMap.set {w : World} {Y : Nat → Prop} {h : List (ByteArray × Tm)} {L : List (ByteArray × Value)} (e : StMap w Y h L) (g : GoodH h) {i : Nat} (hi : i < h.length) {v : Value} (hv : StE w Y h i hi v) : StMap w Y h (setAt L h[i].1 v) := by
  have hl : i < L.length := by rw [e.1]; exact hi
  have h1 := setAt_get L i hl v (e.apart g i hl)
  rw [(e.2 i hi hl).1] at h1
  rw [h1]
  refine ⟨by simp [e.1], fun k hk hkl => ?_⟩
  by_cases hki : i = k
  · subst hki
    simp only [List.getElem_set_self]
    exact ⟨trivial, hv⟩
  · rw [List.getElem_set_ne hki]
    exact e.2 k hk (by simpa using hkl)
/-- What stands for a bound variable. -/
theorem forT_at {h : List (ByteArray × Tm)} (g : GoodH h) {i : Nat} (hi : i < h.length) : forT (sAt h) h[i].1 = some (stood h i h.length hi) := by
  obtain ⟨d, hd, e⟩ := (g.bound h.length (Nat.le_refl _) h[i].1).2 ⟨i, hi, hi, rfl⟩
  rw [List.take_length] at hd
  obtain ⟨t, ht⟩ := forT_some_of hd
  rw [e] at ht
  rw [ht]
  unfold stood
  rw [List.take_length, onT_some ht]
theorem forT_free {h : List (ByteArray × Tm)} (g : GoodH h) {n : ByteArray} (hn : ∀ i (hi : i < h.length), h[i].1 ≠ n) : forT (sAt h) n = none := by
  cases hf : forT (sAt h) n with
  | none => rfl
  | some x =>
    obtain ⟨d, hd, e, _⟩ := forT_mem hf
    have h1 := (g.bound h.length (Nat.le_refl _) n).1 ⟨d, by rw [List.take_length]; exact hd, e⟩
    obtain ⟨i, hi, _, h2⟩ := h1
    exact absurd h2 (hn i hi)
theorem stood_err {h : List (ByteArray × Tm)} (g : GoodH h) (hn : NamesH h) {i : Nat} (hi : i < h.length) {j : Nat} (hj : j ≤ h.length) : errL [stood h i j hi] = 0 := errL_onT2 (g.ok j hj) (err_leaf (hn i hi))
/-- Filled, it is what stands for it. -/
theorem stood_fill {h : List (ByteArray × Tm)} (g : GoodH h) (hn : NamesH h) {i : Nat} (hi : i < h.length) {j : Nat} (hj : j ≤ h.length) : gT (forT (sAt h)) (stood h i j hi) = stood h i h.length hi := by
  rw [gT_onT g.all.vars (stood_err g hn hi hj), stood_on g hi hj (hn i hi)]
/-- Too great: then some binding is. -/
theorem stood_great {h : List (ByteArray × Tm)} (g : GoodH h) {i : Nat} (hi : i < h.length) (hz : 2000 < sizeL [stood h i h.length hi]) : grtB (sAt h) = true := by
  obtain ⟨d, hd, e1, e2⟩ := forT_mem (forT_at g hi)
  unfold grtB
  rw [List.any_eq_true]
  exact ⟨d, hd, by rw [e2]; simpa using hz⟩

/-- What is looked into while equations are worked off. -/
def SolE (S q : Nat) (td : Value) (h : List (ByteArray × Tm)) : Ev := fun f Y w =>
  (∃ L, Blk w S #[td, .map (some q), .bool f] 107 ∧ MapAt w q L ∧ StMap w (fun b => Y b ∧ b ≠ S ∧ b ≠ q) h L) ∧ Y S ∧ Y q ∧ (∀ b, Y b → b < w.heap.size) ∧ (f = true → grtB (sAt h) = true)
def SolM (S q : Nat) : Nat → Prop := fun b => b = S ∨ b = q
theorem solE_ok (S q : Nat) (td : Value) (h : List (ByteArray × Tm)) : EvOk (SolE S q td h) (SolM S q) := by
  refine ⟨fun f Y w w' he hk => ?_, fun f Y w he => he.2.2.2.1, fun f Y w he b hb => ?_⟩
  · obtain ⟨⟨L, h1, h2, h3⟩, h4, h5, h6, h7⟩ := he
    refine ⟨⟨L, ?_, h2.kept (hk q h5), h3.imp fun a l hs => hs.kept fun b hb => hk b hb.1⟩, h4, h5, fun b hb => ?_, h7⟩
    · unfold Blk at *; rw [hk S h4]; exact h1
    · have h8 := hk b hb
      have h9 := h6 b hb
      apply Classical.byContradiction
      intro hn
      rw [Array.getElem?_eq_none (by omega), Array.getElem?_eq_getElem h9] at h8
      cases h8
  · rcases hb with rfl | rfl
    · exact he.2.1
    · exact he.2.2.1
#print axioms solE_ok
#print axioms stood_fill
end Go.Proofs.YteojdfmdhgnmfaaGreat
