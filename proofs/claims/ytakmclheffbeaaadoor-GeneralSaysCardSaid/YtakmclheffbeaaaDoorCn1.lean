/- Plain: new names for variables, as the document gives them. -/
import Derived.Test.YtakmclheffbeaaaDoorGp1
import Derived.Test.YtakmclheffbeaaaDoorZGeneralSaysOwn
namespace Go.Proofs.YtakmclheffbeaaaDoor
open Go.RowKit
set_option linter.unusedSimpArgs false
set_option linter.unusedVariables false
set_option maxRecDepth 8000

theorem inB_memC {x : ByteArray} {l : List ByteArray} : inB x l = true ↔ x ∈ l := by
  unfold inB
  rw [List.any_eq_true]
  constructor
  · rintro ⟨y, hy, he⟩
    have e : y.toList = x.toList := eq_of_beq he
    have : y = x := by
      rw [ByteArray.toList_eq, ByteArray.toList_eq] at e
      obtain ⟨⟨a⟩⟩ := y
      obtain ⟨⟨b⟩⟩ := x
      simpa using e
    rw [← this]; exact hy
  · exact fun h => ⟨x, h, by simp⟩
/-- A name is kept once. -/
def addI (acc : List ByteArray) (s : ByteArray) : List ByteArray := if inB s acc = true then acc else acc ++ [s]
theorem idxS_mem (s : ByteArray) : ∀ ns : List ByteArray, idxS s ns < ns.length ↔ s ∈ ns
  | [] => by simp [idxS]
  | n :: r => by
    by_cases e : n = s
    · simp [idxS, e]
    · have := idxS_mem s r
      have e2 : ¬ s = n := fun h => e h.symm
      simp [idxS, e, e2, this]
theorem addS_addI (ns : List ByteArray) (s : ByteArray) : addS ns s = addI ns s := by
  unfold addS addI
  by_cases h : s ∈ ns
  · rw [if_pos ((idxS_mem s ns).2 h), if_pos (inB_memC.2 h)]
  · rw [if_neg (fun k => h ((idxS_mem s ns).1 k)), if_neg (fun k => h (inB_memC.1 k))]
theorem addV_addI {acc : List ByteArray} {s : ByteArray} (h : varB s = true) : addV acc s = addI acc s := by
  unfold addV addI
  cases hi : inB s acc <;> simp [h]
theorem addI_mem (acc : List ByteArray) (s x : ByteArray) : x ∈ addI acc s ↔ x ∈ acc ∨ x = s := by
  unfold addI
  split
  · rename_i h
    have := inB_memC.1 h
    constructor
    · exact Or.inl
    · rintro (h | rfl)
      · exact h
      · exact this
  · simp
theorem foldI_mem (x : ByteArray) : ∀ (vs acc : List ByteArray), x ∈ vs.foldl addI acc ↔ x ∈ acc ∨ x ∈ vs
  | [], acc => by simp
  | s :: r, acc => by
    rw [List.foldl_cons, foldI_mem x r, addI_mem]
    simp only [List.mem_cons]
    constructor
    · rintro ((h | h) | h)
      · exact Or.inl h
      · exact Or.inr (Or.inl h)
      · exact Or.inr (Or.inr h)
    · rintro (h | h | h)
      · exact Or.inl (Or.inl h)
      · exact Or.inl (Or.inr h)
      · exact Or.inr h
theorem foldI_addV (acc vs : List ByteArray) (s : ByteArray) : (addV vs s).foldl addI acc = addV (vs.foldl addI acc) s := by
  cases hv : varB s with
  | false => rw [addV_no hv, addV_no hv]
  | true =>
    rw [addV_addI hv, addV_addI hv]
    by_cases h : s ∈ vs
    · have h2 : s ∈ vs.foldl addI acc := (foldI_mem s vs acc).2 (Or.inr h)
      unfold addI
      rw [if_pos (inB_memC.2 h)]
      rw [if_pos]
      exact inB_memC.2 h2
    · have e : addI vs s = vs ++ [s] := by
        unfold addI
        rw [if_neg (fun k => h (inB_memC.1 k))]
      rw [e, List.foldl_append]
      rfl
theorem foldI_varsP (acc : List ByteArray) : ∀ (ks : List Tm) (vs : List ByteArray), (varsP vs ks).foldl addI acc = varsP (vs.foldl addI acc) ks
  | [], vs => by simp [varsP]
  | k :: r, vs => by
    have e : ∀ us, varsP us (k :: r) = varsP (addV us k.name) r := fun us => by simp [varsP]
    rw [e, e, foldI_varsP acc r, foldI_addV]
theorem varsP_cons (acc : List ByteArray) (k : Tm) (r : List Tm) : varsP acc (k :: r) = varsP (addV acc k.name) r := by simp [varsP]
/-- The names that were asked for are the variables, as they come. -/
theorem ren_vars (l : List Tm) : ∀ ns : List ByteArray, errL l = 0 → (renL ns l).2 = varsP ns (preL l) := by
  induction l using Tm.indL with
  | h0 => intro ns _; simp [renL_nil, preL, varsP]
  | h s l r ihl ihr =>
    intro ns he
    obtain ⟨h1, h2, h3⟩ := err_splitP he
    rw [renL_cons]
    simp only [preL]
    rw [varsP_cons, varsP_append, ihr _ h3]
    congr 1
    unfold renT
    cases hv : varB s with
    | true =>
      have hl := h1 hv
      subst hl
      simp only [hv, if_pos, preL]
      rw [addS_addI, addV_addI hv]
      simp [varsP]
    | false =>
      simp only [hv, Bool.false_eq_true, if_false]
      rw [ihl ns h2, addV_no hv]
/-- Each name stands for Z and its number. -/
def bdN : Nat → List ByteArray → List Bd
  | _, [] => []
  | k, n :: r => ⟨n, ⟨nmZ (k + 1), []⟩⟩ :: bdN (k + 1) r
theorem bdN_len : ∀ (k : Nat) (ns : List ByteArray), (bdN k ns).length = ns.length
  | _, [] => rfl
  | k, n :: r => by simp [bdN, bdN_len (k + 1) r]
theorem bdN_push (n : ByteArray) : ∀ (k : Nat) (ns : List ByteArray), bdN k (ns ++ [n]) = bdN k ns ++ [⟨n, ⟨nmZ (k + ns.length + 1), []⟩⟩]
  | k, [] => by simp [bdN]
  | k, m :: r => by
    rw [List.cons_append]
    simp only [bdN]
    rw [bdN_push n (k + 1) r]
    simp only [List.cons_append, List.length_cons]
    rw [show k + 1 + r.length + 1 = k + (r.length + 1) + 1 by omega]
theorem forT_bdN (s : ByteArray) : ∀ (k : Nat) (ns : List ByteArray), s ∈ ns → forT (bdN k ns) s = some ⟨nmZ (k + idxS s ns + 1), []⟩
  | k, n :: r, h => by
    simp only [bdN, forT]
    by_cases e : n = s
    · simp [e, idxS]
    · rw [if_neg e, forT_bdN s (k + 1) r (by simpa [Ne.symm (Ne.intro e)] using (List.mem_cons.1 h).resolve_left (fun h => e h.symm))]
      simp only [idxS, e, if_false]
      rw [show k + 1 + idxS s r + 1 = k + (idxS s r + 1) + 1 by omega]
theorem forT_bdN_none {s : ByteArray} : ∀ {k : Nat} {ns : List ByteArray}, s ∉ ns → forT (bdN k ns) s = none
  | k, [], _ => by simp [bdN, forT]
  | k, n :: r, h => by
    simp only [List.mem_cons, not_or] at h
    simp only [bdN, forT]
    rw [if_neg (fun e => h.1 e.symm), forT_bdN_none h.2]
theorem idxS_pre {s : ByteArray} : ∀ {ns N : List ByteArray}, ns <+: N → s ∈ ns → idxS s N = idxS s ns
  | n :: r, N, hp, h => by
    obtain ⟨q, rfl⟩ := hp
    simp only [List.cons_append, idxS]
    by_cases e : n = s
    · simp [e]
    · rw [if_neg e, if_neg e, idxS_pre (ns := r) ⟨q, rfl⟩ ((List.mem_cons.1 h).resolve_left (fun h => e h.symm))]
theorem addS_pre (ns : List ByteArray) (s : ByteArray) : ns <+: addS ns s := by
  unfold addS
  split
  · exact List.prefix_refl _
  · exact ⟨_, rfl⟩
theorem ren_pre (l : List Tm) : ∀ ns : List ByteArray, ns <+: (renL ns l).2 := by
  induction l using Tm.indL with
  | h0 => intro ns; rw [renL_nil]; exact List.prefix_refl _
  | h s l r ihl ihr =>
    intro ns
    rw [renL_cons]
    refine List.IsPrefix.trans ?_ (ihr _)
    unfold renT
    split
    · exact addS_pre _ _
    · exact ihl ns
/-- To put the new names in is to rename. -/
theorem ren_on {N : List ByteArray} (hN : ∀ n ∈ N, varB n = true) (l : List Tm) : ∀ ns : List ByteArray, errL l = 0 → (renL ns l).2 <+: N → (renL ns l).1 = onL (bdN 0 N) l := by
  induction l using Tm.indL with
  | h0 => intro ns _ _; simp [renL_nil, onL]
  | h s l r ihl ihr =>
    intro ns he hp
    obtain ⟨h1, h2, h3⟩ := err_splitP he
    rw [renL_cons] at hp ⊢
    simp only at hp
    rw [onL_cons, ← ihr _ h3 hp]
    congr 1
    have hq : (renT ns ⟨s, l⟩).2 <+: N := (ren_pre r _).trans hp
    cases hv : varB s with
    | true =>
      have hl := h1 hv
      subst hl
      have e : renT ns ⟨s, []⟩ = (⟨nmZ (idxS s ns + 1), []⟩, addS ns s) := by simp [renT, hv]
      rw [e] at hq ⊢
      simp only at hq
      have hm : s ∈ addS ns s := by rw [addS_addI, addI_mem]; exact Or.inr rfl
      rw [onT_some (forT_bdN s 0 N (hq.subset hm)), idxS_pre hq hm, addS_idx]
      simp
    | false =>
      have e : renT ns ⟨s, l⟩ = (⟨s, (renL ns l).1⟩, (renL ns l).2) := by simp [renT, hv]
      rw [e] at hq ⊢
      simp only at hq
      rw [onT_deep (Or.inr (forT_bdN_none fun h => by rw [hN s h] at hv; cases hv)), ihl ns h2 hq]
theorem varsP_var : ∀ (ks : List Tm) (acc : List ByteArray), (∀ n ∈ acc, varB n = true) → ∀ n ∈ varsP acc ks, varB n = true
  | [], acc, h => by simpa [varsP] using h
  | k :: r, acc, h => by
    rw [varsP_cons]
    refine varsP_var r _ fun n hn => ?_
    cases hv : varB k.name with
    | false => rw [addV_no hv] at hn; exact h n hn
    | true =>
      rw [addV_addI hv, addI_mem] at hn
      rcases hn with h1 | h1
      · exact h n h1
      · rw [h1]; exact hv
/-- Terms renamed together. -/
theorem canon_on {l : List Tm} (he : errL l = 0) : onL (bdN 0 (varsP [] (preL l))) l = (renL [] l).1 := by
  have h := ren_vars l [] he
  exact (ren_on (varsP_var _ [] (by simp)) l [] he (by rw [h]; exact List.prefix_refl _)).symm
end Go.Proofs.YtakmclheffbeaaaDoor
