/- What the texts of the classes are: each class once, in order (a plain text). -/
import Derived.Test.YtdmaijmglblccaaGreatDoorKl20
import Derived.Test.YtdmaijmglblccaaGreatDoorZBTopClassesOwn
import Derived.Test.YtdmaijmglblccaaGreatDoorZTopClassesOwn
namespace Go.Proofs.YtdmaijmglblccaaGreatDoor
open Go.RowKit
set_option linter.unusedSimpArgs false
set_option linter.unusedVariables false
set_option maxRecDepth 8000

theorem pig_len : ∀ (n : Nat) (L : List Nat), (∀ i, i < n → i ∈ L) → n ≤ L.length
  | 0, L, _ => Nat.zero_le _
  | n + 1, L, h => by
    have h1 := h n (by omega)
    have h2 := pig_len n (L.erase n) fun i hi => (List.mem_erase_of_ne (by omega)).2 (h i (by omega))
    rw [List.length_erase_of_mem h1] at h2
    have := List.length_pos_of_mem h1
    omega
theorem pig_nodup : ∀ (n : Nat) (L : List Nat), (∀ i, i < n → i ∈ L) → L.length ≤ n → L.Nodup
  | 0, L, _, hl => by
    have : L = [] := List.eq_nil_of_length_eq_zero (by omega)
    rw [this]; exact List.nodup_nil
  | n + 1, L, h, hl => by
    have h1 := h n (by omega)
    have hlen := List.length_erase_of_mem h1
    have hpos := List.length_pos_of_mem h1
    have hmem : ∀ i, i < n → i ∈ L.erase n := fun i hi => (List.mem_erase_of_ne (by omega)).2 (h i (by omega))
    have h2 := pig_nodup n (L.erase n) hmem (by omega)
    have h3 : n ∉ L.erase n := fun hn => by
      have h4 := pig_len n ((L.erase n).erase n) fun i hi => (List.mem_erase_of_ne (by omega)).2 (hmem i hi)
      rw [List.length_erase_of_mem hn] at h4
      have := List.length_pos_of_mem hn
      omega
    exact (List.perm_cons_erase h1).nodup_iff.2 (List.nodup_cons.2 ⟨h3, h2⟩)
theorem flat_len : ∀ L : List (List Nat), L.flatten.length = sumN L
  | [] => rfl
  | a :: r => by
    have := flat_len r
    simp only [List.flatten_cons, List.length_append, this, sumN, List.map_cons, List.sum_cons]
theorem flat_nodup : ∀ {L : List (List Nat)}, L.flatten.Nodup → ∀ l ∈ L, l.Nodup
  | [], _, l, h => by simp at h
  | a :: r, hn, l, h => by
    rw [List.flatten_cons, List.nodup_append] at hn
    rcases List.mem_cons.1 h with e | e
    · rw [e]; exact hn.1
    · exact flat_nodup hn.2.1 l e
theorem JnI.mNodup {E : List Pr} {S : Tm → Prop} {W : Nat} {k : Kl} {td : List (Nat × Nat)} {P : Nat → Prop} (h : JnI E S W k td P) {c : Nat} (hc : c < k.ts.length) : (k.M c).Nodup := by
  have hlm := h.lm
  have h1 : k.mb.flatten.Nodup := pig_nodup k.ts.length _ (fun i hi => by
    have hci := h.clt i hi
    have hm := (h.mem i (k.C i) hi hci).2 rfl
    refine List.mem_flatten.2 ⟨k.M (k.C i), ?_, hm⟩
    exact gd_mem (by omega)) (by rw [flat_len]; exact h.ms)
  exact flat_nodup h1 _ (gd_mem (by omega))
/-- The classes of the terms of S, as their texts: each one ascending; the rows in order, each once. -/
structure ClsR (E : List Pr) (S : Tm → Prop) (rows : List (List ByteArray)) : Prop where
  row : ∀ r ∈ rows, AscB r ∧ ∃ t, S t ∧ ∀ s, s ∈ r ↔ ∃ u, S u ∧ Cg E S t u ∧ s = txB u
  all : ∀ t, S t → ∃ r ∈ rows, txB t ∈ r
  asc : rows.Pairwise lxR
/-- A row stands for a class. -/
def RwM (k : Kl) (c : Nat) (r : List ByteArray) : Prop := k.M c ≠ [] ∧ r.Perm ((k.M c).map fun i => txB (k.T i)) ∧ r.Pairwise fun a b => ltB b a = false
theorem TxR.rows {k : Kl} : ∀ {c : Nat} {rows : List (List ByteArray)}, TxR k c rows → (∀ r ∈ rows, ∃ i, i < c ∧ RwM k i r) ∧ (∀ i, i < c → k.M i ≠ [] → ∃ r ∈ rows, RwM k i r) ∧ rows.Pairwise fun a b => ∃ i j, i < j ∧ j < c ∧ RwM k i a ∧ RwM k j b
  | 0, rows, h => by
    rw [show rows = [] from h]
    exact ⟨by simp, fun i hi => absurd hi (Nat.not_lt_zero i), List.Pairwise.nil⟩
  | c + 1, rows, h => by
    rcases h with ⟨h0, h⟩ | ⟨h0, r0, row, rfl, h, hp, hs⟩
    · obtain ⟨a1, a2, a3⟩ := TxR.rows h
      refine ⟨fun r hr => ?_, fun i hi hne => ?_, a3.imp fun ⟨i, j, h1, h2, h3⟩ => ⟨i, j, h1, by omega, h3⟩⟩
      · obtain ⟨i, hi, g⟩ := a1 r hr; exact ⟨i, by omega, g⟩
      · have : i ≠ c := fun e => hne (by rw [e]; exact h0)
        exact a2 i (by omega) hne
    · obtain ⟨a1, a2, a3⟩ := TxR.rows h
      have hrow : RwM k c row := ⟨h0, hp, hs⟩
      refine ⟨fun r hr => ?_, fun i hi hne => ?_, ?_⟩
      · rcases List.mem_append.1 hr with e | e
        · obtain ⟨i, hi, g⟩ := a1 r e; exact ⟨i, by omega, g⟩
        · rw [List.mem_singleton.1 e]; exact ⟨c, by omega, hrow⟩
      · by_cases e : i = c
        · subst e; exact ⟨row, by simp, hrow⟩
        · obtain ⟨r, hr, g⟩ := a2 i (by omega) hne
          exact ⟨r, by simp [hr], g⟩
      · rw [List.pairwise_append]
        refine ⟨a3.imp fun ⟨i, j, h1, h2, h3⟩ => ⟨i, j, h1, by omega, h3⟩, List.pairwise_singleton _ _, fun a ha b hb => ?_⟩
        rw [List.mem_singleton.1 hb]
        obtain ⟨i, hi, g⟩ := a1 a ha
        exact ⟨i, c, hi, by omega, g, hrow⟩
end Go.Proofs.YtdmaijmglblccaaGreatDoor
