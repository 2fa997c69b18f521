/- The document's classes: rows in order, one more put in (ClassesOf): a plain text. -/
import Derived.Test.YtdmaijmglblccaaGreatDoorKl31
import Derived.Test.YtdmaijmglblccaaGreatDoorKm1
namespace Go.Proofs.YtdmaijmglblccaaGreatDoor
open Go.RowKit
set_option linter.unusedSimpArgs false
set_option linter.unusedVariables false
set_option maxRecDepth 8000

/-- One more, at a place. -/
def insJ {α : Type} (ps : List α) (p : α) (j : Nat) : List α := ps.take j ++ p :: ps.drop j
theorem insJ_len {α : Type} (ps : List α) (p : α) (j : Nat) (h : j ≤ ps.length) : (insJ ps p j).length = ps.length + 1 := by unfold insJ; simp; omega
theorem insJ_map {α β : Type} (f : α → β) (ps : List α) (p : α) (j : Nat) : (insJ ps p j).map f = insJ (ps.map f) (f p) j := by unfold insJ; simp
theorem insJ_end {α : Type} (ps : List α) (p : α) : insJ ps p ps.length = ps ++ [p] := by unfold insJ; simp
theorem insJ_mem {α : Type} {ps : List α} {p x : α} {j : Nat} : x ∈ insJ ps p j ↔ x = p ∨ x ∈ ps := by
  unfold insJ
  rw [List.mem_append, List.mem_cons]
  have h := List.take_append_drop j ps
  constructor
  · rintro (h1 | h1 | h1)
    · exact Or.inr (List.mem_of_mem_take h1)
    · exact Or.inl h1
    · exact Or.inr (List.mem_of_mem_drop h1)
  · rintro (h1 | h1)
    · exact Or.inr (Or.inl h1)
    · rw [← h, List.mem_append] at h1
      exact h1.imp id Or.inr
theorem insJ_step {α : Type} {ps : List α} {p : α} {j : Nat} (h : j < ps.length) : ((insJ ps p (j + 1)).set (j + 1) ps[j]).set j p = insJ ps p j := by
  unfold insJ
  have h1 : (ps.take j).length = j := by simp; omega
  rw [List.take_succ_eq_append_getElem h, List.append_assoc, List.singleton_append, List.set_append_right _ _ (by omega), List.set_append_right _ _ (by omega), h1, Nat.sub_self, show j + 1 - j = 1 by omega, List.drop_eq_getElem_cons h]
  rfl
theorem insJ_at {α : Type} {ps : List α} {p : α} {j : Nat} (h : j < ps.length) : (insJ ps p (j + 1))[j]? = some ps[j] := by
  unfold insJ
  rw [List.getElem?_append_left (by simp; omega), List.getElem?_take, if_pos (by omega), List.getElem?_eq_getElem h]
theorem insJ_self {α : Type} {ps : List α} {p : α} {j : Nat} (h : j ≤ ps.length) : (insJ ps p j)[j]? = some p := by
  unfold insJ
  have h1 : (ps.take j).length = j := by simp; omega
  rw [List.getElem?_append_right (by omega), h1, Nat.sub_self]
  rfl
/-- The rows of the kinds below k. -/
structure CoP (L : List Tm) (K : List Nat) (k : Nat) (rows : List (List ByteArray)) : Prop where
  row : ∀ r ∈ rows, ∃ c, c < k ∧ (∃ i, i < L.length ∧ gd K 0 i = c) ∧ AscB r ∧ ∀ s, s ∈ r ↔ ∃ i, i < L.length ∧ gd K 0 i = c ∧ s = txB (gd L noK i)
  all : ∀ i, i < L.length → gd K 0 i < k → ∃ r ∈ rows, txB (gd L noK i) ∈ r
  asc : rows.Pairwise lxR
  len : rows.length ≤ k
theorem CoP.start (L : List Tm) (K : List Nat) : CoP L K 0 [] := ⟨(fun r hr => by cases hr), fun i _ h => absurd h (Nat.not_lt_zero _), List.Pairwise.nil, Nat.le_refl _⟩
/-- The texts of a kind, among the first ones. -/
def kdT (L : List Tm) (K : List Nat) (k i : Nat) : List ByteArray := ((List.range i).filter fun j => decide (gd K 0 j = k)).map fun j => txB (gd L noK j)
theorem kdT_yes {L : List Tm} {K : List Nat} {k i : Nat} (h : gd K 0 i = k) : kdT L K k (i + 1) = kdT L K k i ++ [txB (gd L noK i)] := by
  unfold kdT
  rw [List.range_succ, List.filter_append, List.map_append, List.filter_cons_of_pos (by simpa using h), List.filter_nil, List.map_singleton]
theorem kdT_no {L : List Tm} {K : List Nat} {k i : Nat} (h : ¬ gd K 0 i = k) : kdT L K k (i + 1) = kdT L K k i := by
  unfold kdT
  rw [List.range_succ, List.filter_append, List.map_append, List.filter_cons_of_neg (by simpa using h), List.filter_nil, List.map_nil, List.append_nil]
theorem kdT_len (L : List Tm) (K : List Nat) (k i : Nat) : (kdT L K k i).length ≤ i := by
  unfold kdT
  rw [List.length_map]
  have := List.length_filter_le (fun j => decide (gd K 0 j = k)) (List.range i)
  simpa using this
theorem kdT_mem {L : List Tm} {K : List Nat} {k n : Nat} {s : ByteArray} : s ∈ kdT L K k n ↔ ∃ i, i < n ∧ gd K 0 i = k ∧ s = txB (gd L noK i) := by
  unfold kdT
  rw [List.mem_map]
  constructor
  · rintro ⟨i, h, e⟩
    rw [List.mem_filter] at h
    exact ⟨i, by simpa using h.1, by simpa using h.2, e.symm⟩
  · rintro ⟨i, h1, h2, e⟩
    exact ⟨i, by rw [List.mem_filter]; exact ⟨by simpa using h1, by simpa using h2⟩, e.symm⟩
theorem CoP.skip {L : List Tm} {K : List Nat} {k : Nat} {rows : List (List ByteArray)} (h : CoP L K k rows) (h0 : kdT L K k L.length = []) : CoP L K (k + 1) rows := by
  refine ⟨fun r hr => ?_, fun i hi hk => ?_, h.asc, by have := h.len; omega⟩
  · obtain ⟨c, hc, h1⟩ := h.row r hr
    exact ⟨c, by omega, h1⟩
  · by_cases e : gd K 0 i = k
    · have : txB (gd L noK i) ∈ kdT L K k L.length := kdT_mem.2 ⟨i, hi, e, rfl⟩
      rw [h0] at this; cases this
    · exact h.all i hi (by omega)
theorem lx_head {x y : ByteArray} {r q : List ByteArray} (hne : x ≠ y) : lxR (x :: r) (y :: q) ↔ ltB x y = true := by
  rw [lxR]
  constructor
  · rintro (h | ⟨h, _⟩)
    · exact h
    · exact absurd h hne
  · exact Or.inl
theorem lx_other {x y : ByteArray} {r q : List ByteArray} (hne : x ≠ y) (h : ltB x y = false) : lxR (y :: q) (x :: r) := by
  rw [lx_head fun e => hne e.symm]
  cases h2 : ltB y x with
  | true => rfl
  | false => exact absurd (ltB_conn h h2) hne
/-- A row of this kind shares nothing with the others. -/
theorem CoP.apart {L : List Tm} {K : List Nat} {k : Nat} {rows : List (List ByteArray)} (h : CoP L K k rows) (hnd : L.Nodup) (he : ∀ x ∈ L, errL [x] = 0) {r : List ByteArray} (hr : r ∈ rows) {s : ByteArray} (hs : s ∈ r) : ¬ s ∈ kdT L K k L.length := fun hm => by
  obtain ⟨c, hc, _, _, h1⟩ := h.row r hr
  obtain ⟨i, hi, h2, e⟩ := (h1 s).1 hs
  obtain ⟨j, hj, h3, e2⟩ := kdT_mem.1 hm
  have e3 := txB_inj (he _ (gd_mem hi)) (he _ (gd_mem hj)) (e.symm.trans e2)
  rw [gd_get hi, gd_get hj] at e3
  have := (List.getElem_inj hnd).1 e3
  subst this
  omega
/-- A row is put in. -/
theorem CoP.add {L : List Tm} {K : List Nat} {k : Nat} {rows : List (List ByteArray)} (h : CoP L K k rows) {p : List ByteArray} (hp : p ≠ []) (hasc : AscB p) (hm : ∀ s, s ∈ p ↔ s ∈ kdT L K k L.length) {j : Nat} (hj : j ≤ rows.length) (hr : ∀ q ∈ rows.drop j, lxR p q) (hl : ∀ (i : Nat) (hi : i < rows.length), j = i + 1 → lxR rows[i] p) : CoP L K (k + 1) (insJ rows p j) := by
  have hasc2 := List.pairwise_append.1 (show (rows.take j ++ rows.drop j).Pairwise lxR by rw [List.take_append_drop]; exact h.asc)
  have hleft : ∀ q ∈ rows.take j, lxR q p := fun q hq => by
    cases j with
    | zero => simp at hq
    | succ i =>
      have hil : i < rows.length := by omega
      have h1 := hl i hil rfl
      rw [List.take_succ_eq_append_getElem hil] at hq
      rcases List.mem_append.1 hq with hq | hq
      · have h2 := List.pairwise_append.1 (show (rows.take i ++ rows.drop i).Pairwise lxR by rw [List.take_append_drop]; exact h.asc)
        exact lxR_trans (h2.2.2 q hq rows[i] (by rw [List.mem_drop_iff_getElem]; exact ⟨0, by omega, by simp⟩)) h1
      · simp at hq; rw [hq]; exact h1
  refine ⟨fun r hr2 => ?_, fun i hi hk => ?_, ?_, by rw [insJ_len _ _ _ hj]; have := h.len; omega⟩
  · rcases insJ_mem.1 hr2 with e | e
    · subst e
      have : ∃ s, s ∈ r := List.exists_mem_of_ne_nil r hp
      obtain ⟨s, hs⟩ := this
      obtain ⟨i, h1, h2, _⟩ := kdT_mem.1 ((hm s).1 hs)
      exact ⟨k, by omega, ⟨i, h1, h2⟩, hasc, fun s => (hm s).trans kdT_mem⟩
    · obtain ⟨c, hc, h1⟩ := h.row r e
      exact ⟨c, by omega, h1⟩
  · by_cases e : gd K 0 i = k
    · exact ⟨p, insJ_mem.2 (Or.inl rfl), (hm _).2 (kdT_mem.2 ⟨i, hi, e, rfl⟩)⟩
    · obtain ⟨r, h1, h2⟩ := h.all i hi (by omega)
      exact ⟨r, insJ_mem.2 (Or.inr h1), h2⟩
  · unfold insJ
    refine List.pairwise_append.2 ⟨hasc2.1, List.pairwise_cons.2 ⟨hr, hasc2.2.1⟩, fun a ha b hb => ?_⟩
    rcases List.mem_cons.1 hb with e | e
    · rw [e]; exact hleft a ha
    · exact hasc2.2.2 a ha b e
/-- All kinds are gone through. -/
theorem CoP.cls {ls : List Pr} {S : Tm → Prop} {L : List Tm} {K : List Nat} {k : Nat} {rows : List (List ByteArray)} (h : CoP L K k rows) (hn : Num ls L K) (hd : Done ls L K) (hm : ∀ x, x ∈ L ↔ S x) (hk : ∀ c ∈ K, c < k) : ClsR ls S rows := by
  have hS : S = (· ∈ L) := funext fun x => propext (hm x).symm
  rw [hS]
  have hlen := hn.len
  refine ⟨fun r hr => ?_, fun t ht => ?_, h.asc⟩
  · obtain ⟨c, hc, ⟨i, hi, hki⟩, h1, h2⟩ := h.row r hr
    refine ⟨h1, gd L noK i, gd_mem hi, fun s => ?_⟩
    rw [h2]
    have hiK : i < K.length := by omega
    constructor
    · rintro ⟨j, hj, hkj, e⟩
      have hjK : j < K.length := by omega
      have h3 := (num_iff hn hd hi hj hiK hjK).1 (by rw [← gd_get (d := 0) hiK, ← gd_get (d := 0) hjK, hki, hkj])
      rw [← gd_get (d := noK) hi, ← gd_get (d := noK) hj] at h3
      exact ⟨gd L noK j, gd_mem hj, h3, e⟩
    · rintro ⟨u, hu, hc2, e⟩
      obtain ⟨j, hj, ej⟩ := gd_of_mem noK hu
      have hjK : j < K.length := by omega
      rw [← ej] at hc2 e
      rw [gd_get hi, gd_get hj] at hc2
      have h3 := (num_iff hn hd hi hj hiK hjK).2 hc2
      rw [← gd_get (d := 0) hiK, ← gd_get (d := 0) hjK] at h3
      exact ⟨j, hj, by rw [← h3]; exact hki, e⟩
  · obtain ⟨i, hi, ei⟩ := gd_of_mem noK ht
    obtain ⟨r, h1, h2⟩ := h.all i hi (hk _ (gd_mem (by omega)))
    exact ⟨r, h1, by rw [← ei]; exact h2⟩
end Go.Proofs.YtdmaijmglblccaaGreatDoor
