/- The steps come to an end: plain. -/
import Derived.Test.YteojdfmdhgnmfaaGreatU2
namespace Go.Proofs.YteojdfmdhgnmfaaGreat
open Go.RowKit
set_option linter.unusedSimpArgs false
set_option linter.unusedVariables false

/-- All terms of pairs, in a row. -/
def flatP : List Pr → List Tm
  | [] => []
  | p :: l => p.l :: p.r :: flatP l
theorem flatP_append : ∀ a b : List Pr, flatP (a ++ b) = flatP a ++ flatP b
  | [], b => rfl
  | p :: a, b => by rw [List.cons_append, flatP, flatP, flatP_append a b]; rfl
theorem size_cons (t : Tm) (r : List Tm) : sizeL (t :: r) = sizeL [t] + sizeL r := by
  obtain ⟨s, l⟩ := t
  simp [sizeL]
theorem err_two {t : Tm} {r : List Tm} : errL (t :: r) = 0 ↔ errL [t] = 0 ∧ errL r = 0 := by
  rw [errL_cons]
  constructor
  · intro h
    by_cases e : errL [t] = 0
    · rw [if_pos e] at h; exact ⟨e, h⟩
    · rw [if_neg e] at h; exact absurd h e
  · rintro ⟨h1, h2⟩
    rw [if_pos h1]; exact h2
theorem err_append : ∀ {a b : List Tm}, errL (a ++ b) = 0 ↔ errL a = 0 ∧ errL b = 0
  | [], b => by simp [errL]
  | t :: a, b => by
    rw [List.cons_append, err_two, err_append, err_two (r := a), and_assoc]
theorem zip_occ {y : ByteArray} : ∀ {a b : List Tm}, occL y (flatP (zipP a b)) → occL y a ∨ occL y b
  | [], _, h => by simp only [zipP, flatP] at h; exact absurd h occL_nil
  | _ :: _, [], h => by simp only [zipP, flatP] at h; exact absurd h occL_nil
  | t :: a, u :: b, h => by
    rw [zipP, flatP, occL_cons, occL_cons (t := u)] at h
    rw [occL_cons, occL_cons (t := u)]
    rcases h with h | h | h
    · exact Or.inl (Or.inl h)
    · exact Or.inr (Or.inl h)
    · rcases zip_occ h with h | h
      · exact Or.inl (Or.inr h)
      · exact Or.inr (Or.inr h)
theorem zip_size : ∀ {a b : List Tm}, sizeL (flatP (zipP a b)) ≤ sizeL a + sizeL b
  | [], _ => by simp [zipP, flatP, sizeL]
  | _ :: _, [] => by simp [zipP, flatP, sizeL]
  | t :: a, u :: b => by
    rw [zipP, flatP]
    have h0 := zip_size (a := a) (b := b)
    have h1 := size_cons t (u :: flatP (zipP a b))
    have h2 := size_cons u (flatP (zipP a b))
    have h3 := size_cons t a
    have h4 := size_cons u b
    simp only at h1 h2 ⊢
    omega
theorem zip_err : ∀ {a b : List Tm}, errL a = 0 → errL b = 0 → errL (flatP (zipP a b)) = 0
  | [], _, _, _ => by simp [zipP, flatP, errL]
  | _ :: _, [], _, _ => by simp [zipP, flatP, errL]
  | t :: a, u :: b, h1, h2 => by
    rw [zipP, flatP]
    obtain ⟨g1, g2⟩ := err_two.1 h1
    obtain ⟨g3, g4⟩ := err_two.1 h2
    exact err_two.2 ⟨g1, err_two.2 ⟨g3, zip_err g2 g4⟩⟩

def occB (y : ByteArray) (l : List Tm) : Bool := (preL l).any fun k => k.name.toList == y.toList
theorem occB_iff {y : ByteArray} {l : List Tm} : occB y l = true ↔ occL y l := by
  unfold occB occL
  rw [List.any_eq_true]
  constructor
  · rintro ⟨k, hk, e⟩
    exact ⟨k, hk, bytes_inj (by simpa using e)⟩
  · rintro ⟨k, hk, e⟩
    exact ⟨k, hk, bytes_yes e⟩
def cntV (V : List ByteArray) (l : List Tm) : Nat := (V.filter fun y => occB y l).length
theorem filter_le {α : Type} {p q : α → Bool} : ∀ V : List α, (∀ y ∈ V, q y = true → p y = true) → (V.filter q).length ≤ (V.filter p).length
  | [], _ => by simp
  | v :: V, h => by
    have ih := filter_le V fun y hy => h y (by simp [hy])
    cases hq : q v with
    | true =>
      rw [List.filter_cons_of_pos hq, List.filter_cons_of_pos (h v (by simp) hq)]
      simp only [List.length_cons]
      omega
    | false =>
      rw [List.filter_cons_of_neg (by rw [hq]; simp)]
      cases hp : p v with
      | true => rw [List.filter_cons_of_pos hp]; simp only [List.length_cons]; omega
      | false => rw [List.filter_cons_of_neg (by rw [hp]; simp)]; exact ih
theorem filter_lt {α : Type} {p q : α → Bool} : ∀ V : List α, (∀ y ∈ V, q y = true → p y = true) → (∃ x ∈ V, p x = true ∧ q x = false) → (V.filter q).length < (V.filter p).length
  | [], _, ⟨x, hx, _⟩ => by cases hx
  | v :: V, h, ⟨x, hx, h1, h2⟩ => by
    have hle := filter_le V fun y hy => h y (by simp [hy])
    rcases List.mem_cons.1 hx with rfl | hx
    · rw [List.filter_cons_of_neg (by rw [h2]; simp), List.filter_cons_of_pos h1]
      simp only [List.length_cons]
      omega
    · have ih := filter_lt V (fun y hy => h y (by simp [hy])) ⟨x, hx, h1, h2⟩
      cases hq : q v with
      | true =>
        rw [List.filter_cons_of_pos hq, List.filter_cons_of_pos (h v (by simp) hq)]
        simp only [List.length_cons]
        omega
      | false =>
        rw [List.filter_cons_of_neg (by rw [hq]; simp)]
        cases hp : p v with
        | true => rw [List.filter_cons_of_pos hp]; simp only [List.length_cons]; omega
        | false => rw [List.filter_cons_of_neg (by rw [hp]; simp)]; exact ih
theorem not_inB {x : ByteArray} {t : Tm} (hx : varB x = true) (h : ¬ inB x (varsP [] (preL [t])) = true) : ¬ occL x [t] := by
  rintro ⟨k, hk, e⟩
  have h1 := (varsP_has (preL [t]) []).2 k hk (by rw [e]; exact hx)
  refine h ?_
  unfold inB
  rw [List.any_eq_true]
  exact ⟨k.name, h1, bytes_yes e⟩

/-- What a step of binding leaves. -/
theorem bind_facts {s : List Bd} {L : List Tm} {x : ByteArray} {t : Tm} (h : OkS s) (hx : varB x = true) (hn : ∀ d ∈ s, d.nm ≠ x) (he : errL [t] = 0) (ht : ∀ e ∈ s, ¬ occL e.nm [t]) (ho : ¬ occL x [t]) (hL : errL L = 0) :
    OkS (addS s x t) ∧ (∀ y, varB y = true → occL y (onL (addS s x t) L) → occL y (onL s L) ∨ occL y [t]) ∧ ¬ occL x (onL (addS s x t) L) := by
  have h1 := h.add hx hn he ht ho
  have h2 := add_on h hx hn h1 L hL
  have key : ∀ y, varB y = true → occL y (onL (addS s x t) L) → (occL y (onL s L) ∧ forT [⟨x, t⟩] y = none) ∨ occL y [t] := fun y hy hoc => by
    rw [h2] at hoc
    rcases occ_on (one_vars hx) hy _ (errL_on2 h L hL) hoc with h3 | ⟨d, hd, _, h4⟩
    · exact Or.inl h3
    · have e : d = ⟨x, t⟩ := by simpa using hd
      rw [e] at h4
      exact Or.inr h4
  refine ⟨h1, fun y hy hoc => (key y hy hoc).imp (fun h => h.1) id, fun hoc => ?_⟩
  rcases key x hx hoc with ⟨_, h3⟩ | h3
  · simp [forT] at h3
  · exact ho h3

/-- The steps come to an end. -/
theorem u_ends (V : List ByteArray) : ∀ (c z : Nat) (s : List Bd) (l : List Pr), OkS s → errL (flatP l) = 0 → (∀ y, varB y = true → occL y (onL s (flatP l)) → y ∈ V) → cntV (V.filter varB) (onL s (flatP l)) ≤ c → sizeL (onL s (flatP l)) ≤ z → ∃ n r, uRun false n s l = some r := by
  intro c
  induction c using Nat.strongRecOn with
  | _ c ihc =>
    intro z
    induction z using Nat.strongRecOn with
    | _ z ihz =>
      intro s l hs he hV hc hz
      have stop : ∀ e s', uNext false s l = .stop e s' → ∃ n r, uRun false n s l = some r := fun e s' h => ⟨1, (e, s'), by rw [uRun, h]⟩
      have go : ∀ s' l', uNext false s l = .go s' l' → (∃ n r, uRun false n s' l' = some r) → ∃ n r, uRun false n s l = some r := fun s' l' h ⟨n, r, h2⟩ => ⟨n + 1, r, by rw [uRun, h]; exact h2⟩
      cases l with
      | nil => exact stop 0 s rfl
      | cons p l =>
        obtain ⟨e1, e2⟩ := err_two.1 he
        obtain ⟨e2, e3⟩ := err_two.1 e2
        have ea := errL_onT2 hs e1
        have eb := errL_onT2 hs e2
        have ga := hs.goneT e1
        have gb := hs.goneT e2
        rw [flatP, onL_cons, onL_cons] at hV hc hz
        rw [uNext_cons] at stop go
        generalize onT s p.l = a at *
        generalize onT s p.r = b at *
        have hself : ∀ u : Tm, occL u.name [u] := fun u => by obtain ⟨n, k⟩ := u; exact occL_node.2 (Or.inl rfl)
        have inA : ∀ y, occL y [a] → occL y (a :: b :: onL s (flatP l)) := fun y h => occL_cons.2 (Or.inl h)
        have inBb : ∀ y, occL y [b] → occL y (a :: b :: onL s (flatP l)) := fun y h => occL_cons.2 (Or.inr (occL_cons.2 (Or.inl h)))
        have inL : ∀ y, occL y (onL s (flatP l)) → occL y (a :: b :: onL s (flatP l)) := fun y h => occL_cons.2 (Or.inr (occL_cons.2 (Or.inr h)))
        have hsz : sizeL (a :: b :: onL s (flatP l)) = sizeL [a] + (sizeL [b] + sizeL (onL s (flatP l))) := by rw [size_cons, size_cons b]
        have pa := sizeL_pos a
        have pb := sizeL_pos b
        have same : ∀ l2, errL (flatP l2) = 0 → (∀ y, occL y (onL s (flatP l2)) → occL y (a :: b :: onL s (flatP l))) → sizeL (onL s (flatP l2)) < sizeL (a :: b :: onL s (flatP l)) → ∃ n r, uRun false n s l2 = some r := fun l2 h1 h2 h3 =>
          ihz _ (Nat.lt_of_lt_of_le h3 hz) s l2 hs h1 (fun y hy ho => hV y hy (h2 y ho)) (Nat.le_trans (filter_le _ fun y hy hq => occB_iff.2 (h2 y (occB_iff.1 hq))) hc) (Nat.le_refl _)
        have bind : ∀ x t, varB x = true → (∀ d ∈ s, d.nm ≠ x) → errL [t] = 0 → (∀ e ∈ s, ¬ occL e.nm [t]) → occL x (a :: b :: onL s (flatP l)) → (∀ y, occL y [t] → occL y (a :: b :: onL s (flatP l))) → uPair false s l a b = uBind false s l x t → ∃ n r, uRun false n s (p :: l) = some r := fun x t hx hn het ht hox hot h => by
          unfold uBind at h
          by_cases hin : inB x (varsP [] (preL [t])) = true
          · rw [if_pos hin] at h
            exact stop 6 s h
          · rw [if_neg hin, if_neg (by simp)] at h
            have ho := not_inB hx hin
            obtain ⟨f1, f2, f3⟩ := bind_facts (L := flatP l) hs hx hn het ht ho e3
            have f2' : ∀ y, varB y = true → occL y (onL (addS s x t) (flatP l)) → occL y (a :: b :: onL s (flatP l)) := fun y hy hoc => (f2 y hy hoc).elim (inL y) (hot y)
            have hlt : cntV (V.filter varB) (onL (addS s x t) (flatP l)) < c := by
              refine Nat.lt_of_lt_of_le (filter_lt _ (fun y hy hq => occB_iff.2 (f2' y (List.mem_filter.1 hy).2 (occB_iff.1 hq))) ⟨x, List.mem_filter.2 ⟨hV x hx hox, hx⟩, occB_iff.2 hox, ?_⟩) hc
              cases hq : occB x (onL (addS s x t) (flatP l)) with
              | false => rfl
              | true => exact absurd (occB_iff.1 hq) f3
            exact go _ l h (ihc _ hlt _ _ _ f1 e3 (fun y hy hoc => hV y hy (f2' y hy hoc)) (Nat.le_refl _) (Nat.le_refl _))
        by_cases h1 : 2000 < sizeL [a] ∨ 2000 < sizeL [b]
        · exact stop 8 s (by unfold uPair; rw [if_pos h1])
        · by_cases h2 : varB a.name = true
          · by_cases h3 : a.name = b.name
            · exact go s l (by unfold uPair; rw [if_neg h1, if_pos h2, if_pos h3]) (same l e3 inL (by omega))
            · exact bind a.name b h2 (fun d hd e => ga d hd (by rw [e]; exact hself a)) eb gb (inA _ (hself a)) inBb (by unfold uPair; rw [if_neg h1, if_pos h2, if_neg h3])
          · by_cases h3 : varB b.name = true
            · exact bind b.name a h3 (fun d hd e => gb d hd (by rw [e]; exact hself b)) ea ga (inBb _ (hself b)) inA (by unfold uPair; rw [if_neg h1, if_neg h2, if_pos h3])
            · by_cases h4 : a.name = b.name ∧ a.args.length = b.args.length
              · refine go s (zipP a.args b.args ++ l) (by unfold uPair; rw [if_neg h1, if_neg h2, if_neg h3, if_pos h4]) ?_
                have sub : ∀ (u : Tm) y, occL y u.args → occL y [u] := fun u y h => by obtain ⟨n, k⟩ := u; exact occL_node.2 (Or.inr (Or.inl h))
                have erg : ∀ u : Tm, errL [u] = 0 → errL u.args = 0 := fun u h => by obtain ⟨n, k⟩ := u; exact (errL_parts h).2.1
                have szg : ∀ u : Tm, sizeL [u] = 1 + sizeL u.args := fun u => by obtain ⟨n, k⟩ := u; simp [sizeL]
                have hfl : onL s (flatP (zipP a.args b.args ++ l)) = flatP (zipP a.args b.args) ++ onL s (flatP l) := by
                  rw [flatP_append, onL_append, onL_id]
                  intro e hm hoc
                  rcases zip_occ hoc with hoc | hoc
                  · exact ga e hm (sub a _ hoc)
                  · exact gb e hm (sub b _ hoc)
                refine same _ ?_ ?_ ?_
                · rw [flatP_append]
                  exact err_append.2 ⟨zip_err (erg a ea) (erg b eb), e3⟩
                · intro y hoc
                  rw [hfl] at hoc
                  rcases occL_append.1 hoc with hoc | hoc
                  · rcases zip_occ hoc with hoc | hoc
                    · exact inA y (sub a y hoc)
                    · exact inBb y (sub b y hoc)
                  · exact inL y hoc
                · rw [hfl, sizeL_append, hsz, szg a, szg b]
                  have := zip_size (a := a.args) (b := b.args)
                  omega
              · exact stop 5 s (by unfold uPair; rw [if_neg h1, if_neg h2, if_neg h3, if_neg h4])
/-- The steps come to an end, from the start. -/
theorem u_ends0 (l : List Pr) (h : errL (flatP l) = 0) : ∃ n r, uRun false n [] l = some r := by
  refine u_ends ((preL (onL [] (flatP l))).map (·.name)) _ _ [] l okS_nil h (fun y _ hoc => ?_) (Nat.le_refl _) (Nat.le_refl _)
  obtain ⟨k, hk, e⟩ := hoc
  exact List.mem_map.2 ⟨k, hk, e⟩
#print axioms u_ends0
#print axioms u_ends
end Go.Proofs.YteojdfmdhgnmfaaGreat
