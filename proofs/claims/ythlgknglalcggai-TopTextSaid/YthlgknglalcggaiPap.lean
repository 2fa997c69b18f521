/- Places of terms: what stands there, and what is put there. -/
import Derived.Test.YthlgknglalcggaiPl
import Derived.Test.YthlgknglalcggaiPutM
import Derived.Test.YthlgknglalcggaiW4
import Derived.Test.YthlgknglalcggaiW7
namespace Go.Proofs.Ythlgknglalcggai
open Go.RowKit
set_option linter.unusedSimpArgs false
set_option linter.unusedVariables false

theorem plcL_mem : ∀ (l : List Tm) (j : Nat) (p : List Int), p ∈ plcL j l → ∃ (k : Nat) (h : k < l.length) (p' : List Int), p = ((j + k : Nat) : Int) :: p' ∧ p' ∈ plcT l[k]
  | [], j, p, h => by simp [plcL] at h
  | t :: r, j, p, h => by
    rw [plcL_cons, List.mem_append, List.mem_map] at h
    rcases h with ⟨p', hp', rfl⟩ | h
    · exact ⟨0, by simp, p', by simp, hp'⟩
    · obtain ⟨k, hk, p', e, hp'⟩ := plcL_mem r (j + 1) p h
      exact ⟨k + 1, by simpa using hk, p', by rw [e]; congr 1; omega, by simpa using hp'⟩

theorem plc_at : ∀ (p : List Int) (t : Tm), p ∈ plcT t → ∃ y, atT t p = some y
  | [], t, _ => ⟨t, rfl⟩
  | i :: r, t, h => by
    unfold plcT at h
    rcases List.mem_cons.1 h with h | h
    · cases h
    · obtain ⟨k, hk, p', e, hp'⟩ := plcL_mem t.args 0 _ h
      simp at e
      obtain ⟨rfl, rfl⟩ := e
      obtain ⟨y, hy⟩ := plc_at r t.args[k] hp'
      refine ⟨y, ?_⟩
      rw [atT, dif_pos ⟨by omega, by simpa using hk⟩]
      simpa using hy

theorem errL_all : ∀ (l : List Tm), errL l = 0 ↔ ∀ t ∈ l, errL [t] = 0
  | [] => by simp [errL]
  | t :: r => by
    rw [errL_cons]
    by_cases h : errL [t] = 0
    · rw [if_pos h, errL_all r]
      simp [h]
    · rw [if_neg h]
      simp [h]

theorem errL_one (t : Tm) (h : errL [t] = 0) : nameB t.name = true ∧ errL t.args = 0 ∧ (0 < t.args.length → varB t.name = false) := by
  obtain ⟨s, l⟩ := t
  have hn : nameB s = true := by
    cases hn : nameB s with
    | true => rfl
    | false => simp [errL, hn] at h
  have hl : errL l = 0 ∧ (0 < l.length → varB s = false) := by
    by_cases hl : 0 < l.length
    · have hv : varB s = false := by
        cases hv : varB s with
        | false => rfl
        | true => simp [errL, hn, hv, hl] at h
      refine ⟨?_, fun _ => hv⟩
      simp only [errL, hn, hv] at h
      by_cases h0 : errL l = 0
      · exact h0
      · simp [h0] at h
    · have e : l = [] := List.length_eq_zero_iff.1 (by omega)
      subst e
      exact ⟨by simp [errL], fun h => absurd h (by simp)⟩
  exact ⟨hn, hl⟩

theorem errL_node {s : ByteArray} {l : List Tm} (h : nameB s = true) (hv : 0 < l.length → varB s = false) (hl : errL l = 0) : errL [(⟨s, l⟩ : Tm)] = 0 := by
  by_cases h0 : 0 < l.length
  · simp [errL, h, hv h0, hl]
  · have e : l = [] := List.length_eq_zero_iff.1 (by omega)
    subst e
    simp [errL, h]

theorem atT_cons {t y : Tm} {i : Int} {r : List Int} (h : atT t (i :: r) = some y) : ∃ (k : Nat) (hk : k < t.args.length), i = (k : Int) ∧ atT t.args[k] r = some y := by
  rw [atT] at h
  split at h
  · rename_i hc
    exact ⟨i.toNat, hc.2, by omega, h⟩
  · cases h
theorem atT_mk {t y : Tm} {k : Nat} {r : List Int} (hk : k < t.args.length) (h : atT t.args[k] r = some y) : atT t ((k : Int) :: r) = some y := by
  rw [atT, dif_pos ⟨by omega, by simpa using hk⟩]
  simpa using h

theorem atT_err : ∀ (p : List Int) (t y : Tm), errL [t] = 0 → atT t p = some y → errL [y] = 0
  | [], t, y, he, h => by cases h; exact he
  | i :: r, t, y, he, h => by
    obtain ⟨k, hk, rfl, h2⟩ := atT_cons h
    exact atT_err r _ y ((errL_all t.args).1 (errL_one t he).2.1 _ (List.getElem_mem hk)) h2

theorem put_at : ∀ (p : List Int) (t y : Tm), atT t p = some y → putT y p t = t
  | [], t, y, h => by cases h; rfl
  | i :: r, t, y, h => by
    obtain ⟨k, hk, rfl, h2⟩ := atT_cons h
    have ih := put_at r _ y h2
    have e : putL (putT y r) (k : Int) 0 t.args = t.args := by
      refine List.ext_getElem (putL_length _ _ _ _) fun n h1 h3 => ?_
      rw [putL_get _ _ _ _ _ h3]
      by_cases hn : n = k
      · subst hn; simp [ih]
      · rw [if_neg (by omega)]
    rw [putT, e]
    cases t
    rfl

theorem at_put (x : Tm) : ∀ (p : List Int) (t y : Tm), atT t p = some y → atT (putT x p t) p = some x
  | [], t, y, h => rfl
  | i :: r, t, y, h => by
    obtain ⟨k, hk, rfl, h2⟩ := atT_cons h
    have ih := at_put x r _ y h2
    rw [putT]
    refine atT_mk (by rw [putL_length]; exact hk) ?_
    rw [putL_get _ _ _ _ _ hk]
    simpa using ih

theorem err_put (x : Tm) (hx : errL [x] = 0) : ∀ (p : List Int) (t y : Tm), errL [t] = 0 → atT t p = some y → errL [putT x p t] = 0
  | [], t, y, _, h => hx
  | i :: r, t, y, he, h => by
    obtain ⟨k, hk, rfl, h2⟩ := atT_cons h
    obtain ⟨e1, e2, e3⟩ := errL_one t he
    rw [putT]
    refine errL_node e1 (by rw [putL_length]; exact e3) ((errL_all _).2 fun a ha => ?_)
    obtain ⟨n, hn, rfl⟩ := List.getElem_of_mem ha
    have hn' : n < t.args.length := by rw [putL_length] at hn; exact hn
    rw [putL_get _ _ _ _ _ hn']
    have hea := (errL_all t.args).1 e2 _ (List.getElem_mem hn')
    by_cases hnk : n = k
    · subst hnk
      simp only [Nat.zero_add, if_true]
      exact err_put x hx r _ y hea h2
    · rw [if_neg (by omega)]
      exact hea

theorem putL_none (f : Tm → Tm) (i : Int) : ∀ (l : List Tm) (j : Nat), i < (j : Int) → putL f i j l = l
  | [], j, h => rfl
  | a :: r, j, h => by
    rw [putL, if_neg (by omega), putL_none f i r (j + 1) (by omega)]
theorem putL_size (f : Tm → Tm) (i : Int) (M : Nat) : ∀ (l : List Tm) (j : Nat), (∀ a ∈ l, sizeL [f a] ≤ sizeL [a] + M) → sizeL (putL f i j l) ≤ sizeL l + M
  | [], j, h => by simp [putL, sizeL]
  | a :: r, j, h => by
    have e1 : ∀ b (q : List Tm), sizeL (b :: q) = sizeL [b] + sizeL q := fun b q => sizeL_append [b] q
    rw [putL, e1, e1 a r]
    by_cases hj : (j : Int) = i
    · rw [if_pos hj, putL_none f i r (j + 1) (by omega)]
      have := h a (by simp)
      omega
    · rw [if_neg hj]
      have := putL_size f i M r (j + 1) (fun b hb => h b (by simp [hb]))
      omega
theorem size_put (x : Tm) : ∀ (p : List Int) (t : Tm), sizeL [putT x p t] ≤ sizeL [t] + sizeL [x]
  | [], t => by simp [putT]
  | i :: r, t => by
    obtain ⟨s, l⟩ := t
    have h := putL_size (putT x r) i (sizeL [x]) l 0 (fun a _ => size_put x r a)
    have e : ∀ q : List Tm, sizeL [(⟨s, q⟩ : Tm)] = 1 + sizeL q := fun q => by simp [sizeL]
    rw [putT, e, e]
    show 1 + sizeL (putL (putT x r) i 0 l) ≤ _
    omega
#print axioms at_put
#print axioms size_put
end Go.Proofs.Ythlgknglalcggai
