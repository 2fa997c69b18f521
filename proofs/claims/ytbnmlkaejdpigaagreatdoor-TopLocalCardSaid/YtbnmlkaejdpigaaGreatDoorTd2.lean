import Derived.Test.YtbnmlkaejdpigaaGreatDoorZCTopLocalOwn
import Derived.Test.YtbnmlkaejdpigaaGreatDoorW35
import Derived.Test.YtbnmlkaejdpigaaGreatDoorZBTopLocalOwn
import Derived.ProofKit
namespace Go.Proofs.YtbnmlkaejdpigaaGreatDoor
open Go.RowKit
set_option linter.unusedSimpArgs false
set_option linter.unusedVariables false
set_option maxRecDepth 8000
def ten : List (List ByteArray) := [[⟨#[102, 40, 97, 44, 88, 41]⟩, ⟨#[88]⟩, ⟨#[102, 40, 104, 40, 88, 41, 44, 89, 41]⟩, ⟨#[104, 40, 102, 40, 88, 44, 89, 41, 41]⟩], [⟨#[102, 40, 88, 44, 97, 41]⟩, ⟨#[88]⟩, ⟨#[102, 40, 88, 44, 104, 40, 89, 41, 41]⟩, ⟨#[104, 40, 102, 40, 88, 44, 89, 41, 41]⟩, ⟨#[102, 40, 97, 44, 88, 41]⟩, ⟨#[88]⟩], [⟨#[102, 40, 102, 40, 88, 44, 89, 41, 44, 90, 41]⟩, ⟨#[102, 40, 88, 44, 102, 40, 89, 44, 90, 41, 41]⟩], [⟨#[107, 40, 107, 40, 88, 41, 41]⟩, ⟨#[88]⟩, ⟨#[107, 40, 97, 41]⟩, ⟨#[97]⟩, ⟨#[107, 40, 102, 40, 88, 44, 89, 41, 41]⟩, ⟨#[102, 40, 107, 40, 89, 41, 44, 107, 40, 88, 41, 41]⟩], [⟨#[102, 40, 88, 44, 88, 41]⟩, ⟨#[88]⟩], [⟨#[104, 40, 107, 40, 88, 41, 41]⟩, ⟨#[107, 40, 104, 40, 88, 41, 41]⟩, ⟨#[104, 40, 104, 40, 88, 41, 41]⟩, ⟨#[104, 40, 88, 41]⟩], [⟨#[102, 40, 97, 44, 98, 41]⟩, ⟨#[99]⟩, ⟨#[97]⟩, ⟨#[98]⟩], [⟨#[103, 40, 88, 44, 89, 41]⟩, ⟨#[102, 40, 89, 44, 88, 41]⟩], [⟨#[104, 40, 97, 41]⟩, ⟨#[98]⟩, ⟨#[104, 40, 97, 41]⟩, ⟨#[99]⟩], [⟨#[102, 40, 88, 44, 103, 40, 89, 44, 90, 41, 41]⟩, ⟨#[103, 40, 102, 40, 88, 44, 89, 41, 44, 102, 40, 88, 44, 90, 41, 41]⟩]]
def rsOf : List ByteArray → List Pr
 | a :: b :: r => ⟨(rdAll a).t, (rdAll b).t⟩ :: rsOf r
 | _ => []
theorem rsOf_next : ∀ (k : Nat) (l : List ByteArray) (h : 2 * k + 1 < l.length), rsOf (l.take (2 * k + 2)) = rsOf (l.take (2 * k)) ++ [⟨(rdAll (l[2 * k]'(by omega))).t, (rdAll l[2 * k + 1]).t⟩]
 | _, [], h => by simp at h
 | _, [a], h => by simp at h
 | 0, a :: b :: r, h => by simp [rsOf]
 | k + 1, a :: b :: r, h => by
  have ih := rsOf_next k r (by simp at h; omega)
  have e1 : (a :: b :: r).take (2 * (k + 1) + 2) = a :: b :: r.take (2 * k + 2) := by rw [show 2 * (k + 1) + 2 = (2 * k + 2) + 1 + 1 by omega, List.take_succ_cons, List.take_succ_cons]
  have e2 : (a :: b :: r).take (2 * (k + 1)) = a :: b :: r.take (2 * k) := by rw [show 2 * (k + 1) = (2 * k) + 1 + 1 by omega, List.take_succ_cons, List.take_succ_cons]
  rw [e1, e2, rsOf, rsOf, ih]
  simp [show 2 * (k + 1) = 2 * k + 1 + 1 by omega]
theorem ten_read : ∀ l ∈ ten, (∀ s ∈ l, (rdAll s).err = 0) ∧ l.length % 2 = 0 ∧ l.length ≤ 6 := by decide +kernel
theorem ruleE_ofD {p : Pr} (h1 : mayE p.l = 0) (h2 : mayE p.r = 0) (h3 : varB p.l.name = false) (h4 : ((preL [p.r]).all fun k => !varB k.name || ((preL [p.l]).any fun x => decide (x.name = k.name))) = true) : ruleE p = 0 := by
 have e : twoE p.l p.r = 0 := by unfold twoE; rw [if_pos h1]; exact h2
 unfold ruleE
 rw [if_pos e, if_neg (by rw [h3]; simp), if_pos]
 rw [List.all_eq_true]
 intro n hn
 rcases varsP_sub _ _ _ hn with h | ⟨k, hk, rfl, hv⟩
 ·simp at h
 ·have h5 := List.all_eq_true.1 h4 k hk
  rw [hv] at h5
  obtain ⟨k', hk', e2⟩ := List.any_eq_true.1 (show ((preL [p.l]).any fun x => decide (x.name = k.name)) = true by simpa using h5)
  replace e2 : k'.name = k.name := by simpa using e2
  have := (varsP_has (preL [p.l]) []).2 k' hk' (by rw [e2]; exact hv)
  rw [e2] at this
  unfold inB
  exact List.any_eq_true.2 ⟨_, this, by simp⟩
theorem rulesE_ofD {ls : List Pr} (h40 : ls.length ≤ 40) (h : ∀ p ∈ ls, ruleE p = 0) : rulesE ls = 0 := by
 unfold rulesE
 rw [if_neg (by omega)]
 have key : ∀ k, k ≤ ls.length → rmT ls k = 0 := by
  intro k
  induction k with
  | zero => intro _; rfl
  | succ k ih => intro hk; rw [rmT_next (by omega) (ih (by omega))]; exact h _ (List.getElem_mem _)
 exact key _ (Nat.le_refl _)
def rulesTen : List (List Pr) := [[⟨⟨⟨#[102]⟩, [⟨⟨#[97]⟩, []⟩, ⟨⟨#[88]⟩, []⟩]⟩, ⟨⟨#[88]⟩, []⟩⟩, ⟨⟨⟨#[102]⟩, [⟨⟨#[104]⟩, [⟨⟨#[88]⟩, []⟩]⟩, ⟨⟨#[89]⟩, []⟩]⟩, ⟨⟨#[104]⟩, [⟨⟨#[102]⟩, [⟨⟨#[88]⟩, []⟩, ⟨⟨#[89]⟩, []⟩]⟩]⟩⟩], [⟨⟨⟨#[102]⟩, [⟨⟨#[88]⟩, []⟩, ⟨⟨#[97]⟩, []⟩]⟩, ⟨⟨#[88]⟩, []⟩⟩, ⟨⟨⟨#[102]⟩, [⟨⟨#[88]⟩, []⟩, ⟨⟨#[104]⟩, [⟨⟨#[89]⟩, []⟩]⟩]⟩, ⟨⟨#[104]⟩, [⟨⟨#[102]⟩, [⟨⟨#[88]⟩, []⟩, ⟨⟨#[89]⟩, []⟩]⟩]⟩⟩, ⟨⟨⟨#[102]⟩, [⟨⟨#[97]⟩, []⟩, ⟨⟨#[88]⟩, []⟩]⟩, ⟨⟨#[88]⟩, []⟩⟩], [⟨⟨⟨#[102]⟩, [⟨⟨#[102]⟩, [⟨⟨#[88]⟩, []⟩, ⟨⟨#[89]⟩, []⟩]⟩, ⟨⟨#[90]⟩, []⟩]⟩, ⟨⟨#[102]⟩, [⟨⟨#[88]⟩, []⟩, ⟨⟨#[102]⟩, [⟨⟨#[89]⟩, []⟩, ⟨⟨#[90]⟩, []⟩]⟩]⟩⟩], [⟨⟨⟨#[107]⟩, [⟨⟨#[107]⟩, [⟨⟨#[88]⟩, []⟩]⟩]⟩, ⟨⟨#[88]⟩, []⟩⟩, ⟨⟨⟨#[107]⟩, [⟨⟨#[97]⟩, []⟩]⟩, ⟨⟨#[97]⟩, []⟩⟩, ⟨⟨⟨#[107]⟩, [⟨⟨#[102]⟩, [⟨⟨#[88]⟩, []⟩, ⟨⟨#[89]⟩, []⟩]⟩]⟩, ⟨⟨#[102]⟩, [⟨⟨#[107]⟩, [⟨⟨#[89]⟩, []⟩]⟩, ⟨⟨#[107]⟩, [⟨⟨#[88]⟩, []⟩]⟩]⟩⟩], [⟨⟨⟨#[102]⟩, [⟨⟨#[88]⟩, []⟩, ⟨⟨#[88]⟩, []⟩]⟩, ⟨⟨#[88]⟩, []⟩⟩], [⟨⟨⟨#[104]⟩, [⟨⟨#[107]⟩, [⟨⟨#[88]⟩, []⟩]⟩]⟩, ⟨⟨#[107]⟩, [⟨⟨#[104]⟩, [⟨⟨#[88]⟩, []⟩]⟩]⟩⟩, ⟨⟨⟨#[104]⟩, [⟨⟨#[104]⟩, [⟨⟨#[88]⟩, []⟩]⟩]⟩, ⟨⟨#[104]⟩, [⟨⟨#[88]⟩, []⟩]⟩⟩], [⟨⟨⟨#[102]⟩, [⟨⟨#[97]⟩, []⟩, ⟨⟨#[98]⟩, []⟩]⟩, ⟨⟨#[99]⟩, []⟩⟩, ⟨⟨⟨#[97]⟩, []⟩, ⟨⟨#[98]⟩, []⟩⟩], [⟨⟨⟨#[103]⟩, [⟨⟨#[88]⟩, []⟩, ⟨⟨#[89]⟩, []⟩]⟩, ⟨⟨#[102]⟩, [⟨⟨#[89]⟩, []⟩, ⟨⟨#[88]⟩, []⟩]⟩⟩], [⟨⟨⟨#[104]⟩, [⟨⟨#[97]⟩, []⟩]⟩, ⟨⟨#[98]⟩, []⟩⟩, ⟨⟨⟨#[104]⟩, [⟨⟨#[97]⟩, []⟩]⟩, ⟨⟨#[99]⟩, []⟩⟩], [⟨⟨⟨#[102]⟩, [⟨⟨#[88]⟩, []⟩, ⟨⟨#[103]⟩, [⟨⟨#[89]⟩, []⟩, ⟨⟨#[90]⟩, []⟩]⟩]⟩, ⟨⟨#[103]⟩, [⟨⟨#[102]⟩, [⟨⟨#[88]⟩, []⟩, ⟨⟨#[89]⟩, []⟩]⟩, ⟨⟨#[102]⟩, [⟨⟨#[88]⟩, []⟩, ⟨⟨#[90]⟩, []⟩]⟩]⟩⟩]]
theorem rsOf_ten : ten.map rsOf = rulesTen := by kernel_rfl
theorem nmD_X : nameB ⟨#[88]⟩ = true ∧ varB ⟨#[88]⟩ = true := by decide
theorem nmD_Y : nameB ⟨#[89]⟩ = true ∧ varB ⟨#[89]⟩ = true := by decide
theorem nmD_Z : nameB ⟨#[90]⟩ = true ∧ varB ⟨#[90]⟩ = true := by decide
theorem nmD_a : nameB ⟨#[97]⟩ = true ∧ varB ⟨#[97]⟩ = false := by decide
theorem nmD_b : nameB ⟨#[98]⟩ = true ∧ varB ⟨#[98]⟩ = false := by decide
theorem nmD_c : nameB ⟨#[99]⟩ = true ∧ varB ⟨#[99]⟩ = false := by decide
theorem nmD_f : nameB ⟨#[102]⟩ = true ∧ varB ⟨#[102]⟩ = false := by decide
theorem nmD_g : nameB ⟨#[103]⟩ = true ∧ varB ⟨#[103]⟩ = false := by decide
theorem nmD_h : nameB ⟨#[104]⟩ = true ∧ varB ⟨#[104]⟩ = false := by decide
theorem nmD_k : nameB ⟨#[107]⟩ = true ∧ varB ⟨#[107]⟩ = false := by decide
theorem plain_ten : ∀ rs ∈ rulesTen, rs.length ≤ 40 ∧ ∀ p ∈ rs, mayE p.l = 0 ∧ mayE p.r = 0 ∧ varB p.l.name = false ∧ ((preL [p.r]).all fun k => !varB k.name || ((preL [p.l]).any fun x => decide (x.name = k.name))) = true ∧ sizeL [p.r] ≤ 7 := by
 simp [rulesTen, mayE, errL, sizeL, preL, nmD_X, nmD_Y, nmD_Z, nmD_a, nmD_b, nmD_c, nmD_f, nmD_g, nmD_h, nmD_k]
theorem ten_plain : ∀ l ∈ ten, (rsOf l).length ≤ 40 ∧ ∀ p ∈ rsOf l, mayE p.l = 0 ∧ mayE p.r = 0 ∧ varB p.l.name = false ∧ ((preL [p.r]).all fun k => !varB k.name || ((preL [p.l]).any fun x => decide (x.name = k.name))) = true ∧ sizeL [p.r] ≤ 7 := fun l hl => plain_ten _ (by rw [← rsOf_ten]; exact List.mem_map.2 ⟨l, hl, rfl⟩)
theorem ten_rules : ∀ l ∈ ten, rulesE (rsOf l) = 0 ∧ ∀ p ∈ rsOf l, sizeL [p.r] ≤ 7 := fun l hl =>
 ⟨rulesE_ofD (ten_plain l hl).1 fun p hp => by obtain ⟨a, b, c, d, _⟩ := (ten_plain l hl).2 p hp; exact ruleE_ofD a b c d, fun p hp => ((ten_plain l hl).2 p hp).2.2.2.2⟩
end Go.Proofs.YtbnmlkaejdpigaaGreatDoor
