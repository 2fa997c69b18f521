import Derived.Test.YtbnmlkaejdpigaaGreatDoorZCTopLocalOwn
import Derived.Test.YtbnmlkaejdpigaaGreatDoorK7
import Derived.Test.YtbnmlkaejdpigaaGreatDoorIt
import Derived.Test.YtbnmlkaejdpigaaGreatDoorW113
import Derived.Test.YtbnmlkaejdpigaaGreatDoorW86
import Derived.Test.YtbnmlkaejdpigaaGreatDoorZBTopLocalOwn
namespace Go.Proofs.YtbnmlkaejdpigaaGreatDoor
open Go.RowKit
set_option linter.unusedSimpArgs false
set_option linter.unusedVariables false
set_option maxRecDepth 8000
theorem may_parts {t : Tm} (h : mayE t = 0) : errL [t] = 0 ∧ sizeL [t] ≤ 2000 := by
 unfold mayE at h
 split at h
 ·cases h
 ·exact ⟨h, by omega⟩
theorem flat_size : ∀ (l : List Pr), (∀ p ∈ l, sizeL [p.l] ≤ 2000 ∧ sizeL [p.r] ≤ 2000) → sizeL (flatP l) ≤ 4000 * l.length
 | [], _ => by simp [flatP, sizeL]
 | p :: l, h => by
  have h1 := h p (by simp)
  have h2 := flat_size l fun q hq => h q (by simp [hq])
  have e1 := size_cons p.l (p.r :: flatP l)
  have e2 := size_cons p.r (flatP l)
  rw [flatP]
  simp only [List.length_cons]
  omega
theorem flat_err : ∀ (l : List Pr), (∀ p ∈ l, errL [p.l] = 0 ∧ errL [p.r] = 0) → errL (flatP l) = 0
 | [], _ => by simp [flatP, errL]
 | p :: l, h => by
  rw [flatP]
  exact err_two.2 ⟨(h p (by simp)).1, err_two.2 ⟨(h p (by simp)).2, flat_err l fun q hq => h q (by simp [hq])⟩⟩
theorem pairs_start {ls : List Pr} (h : pairsE ls = 0) : errL (flatP ls) = 0 ∧ ls.length ≤ 40 ∧ UI ((preL (onL [] (flatP ls))).map (·.name)) [] ls ∧ ((preL (onL [] (flatP ls))).map (·.name)).length ≤ 400000 := by
 have h1 := pairsE_all h
 have h2 := pairsE_len h
 have he : errL (flatP ls) = 0 := flat_err ls fun p hp => ⟨(may_parts (h1 p hp).1).1, (may_parts (h1 p hp).2).1⟩
 have hs : ∀ p ∈ ls, sizeL [p.l] ≤ 2000 ∧ sizeL [p.r] ≤ 2000 := fun p hp => ⟨(may_parts (h1 p hp).1).2, (may_parts (h1 p hp).2).2⟩
 refine ⟨he, h2, UI.start he hs h2, ?_⟩
 rw [List.length_map, preL_length, onL_id _ (by simp)]
 have := flat_size ls hs
 omega
theorem solve_any {ls : List Pr} (hp : pairsE ls = 0) (R : Int × List Bd) (g0 : Nat) (hrun : uRun false g0 [] ls = some R) (u : Value) (w : World) (X : Nat → Prop) (hu : QV w X u ls) :
  Calls Tryz.prog 62 #[u] w fun e w' => SoPost R w e w' := by
 obtain ⟨he, hl, hU, hV⟩ := pairs_start hp
 obtain ⟨a, c, rfl, _, hc⟩ := hu.mono (Y := fun b => b < w.heap.size) fun _ _ h => h
 rcases hc with rfl | ⟨b, o, rfl, hb, hcell⟩
 ·exact callsIn_wide.1 (solve_in (hide sortedKeys) 6 (by omega) 0 0 a [] c (Or.inl rfl) (by simp) _ hV hU R g0 hrun w (Nat.zero_le _) (Or.inl rfl) (fun j u h => by simp [flat4] at h) (by simp))
 ·obtain ⟨xs, hx1, hx2, hx3⟩ := pairs_cells ls b o hcell
  subst hx1
  have hl2 : xs.length ≤ 40 := by simpa using hl
  have := solve_in (hide sortedKeys) 6 (by omega) b o (some ⟨b, o, none⟩) xs c (Or.inr rfl) hl2 _ hV hU R g0 hrun w (Nat.le_of_lt hb) (Or.inr hb) hx2 hx3
  rw [List.length_map]
  exact callsIn_wide.1 this
def UnPost (ls : List Pr) (R : Int × List Bd) (w : World) (e : Ending) (w' : World) : Prop :=
 (pairsE ls ≠ 0 ∧ Below w.heap.size w w' ∧ e = .returned (.tuple #[.slice none 0 0, .int .i64 (pairsE ls)])) ∨ (pairsE ls = 0 ∧ SoPost R w e w')
theorem eSolve_any {ls : List Pr} (hp : pairsE ls = 0) (R : Int × List Bd) (g0 : Nat) (hrun : uRun false g0 [] ls = some R) (u : Value) (w : World) (X : Nat → Prop) (hu : QV w X u ls) :
  Calls Tryz.prog 31 #[u] w fun e w' => SoPost R w e w' := by
 have HU := hide hu
 have HR := hide hrun
 have HP := hide hp
 clear hu hrun hp
 go_enter Tryz.func31, Tryz.ntmps31
 go_wp2_with fail
 refine (uRefusal_any ls (pairs_start HP.out).1 u w X HU.out).mono ?_
 rintro e w9 ⟨code, rfl, hb9, hcd⟩
 have HB9 := hide hb9
 have HCD := hide hcd
 clear hb9 hcd
 by_cases hc0 : code = 0
 ·subst hc0
  go_wp2_with fail
  refine (solve_any HP.out R g0 HR.out u w9 X (HU.out.later HB9.out)).mono ?_
  rintro e w2 ⟨hb2, hc⟩
  have HB2 := hide (HB9.out.trans (hb2.mono HB9.out.size))
  have HC := hide hc
  clear hb2 hc
  rcases HC.out with ⟨h1, rfl⟩ | ⟨h1, h2, rfl⟩ | ⟨h1, h2, v, rfl, h3⟩
  ·go_wp2_with fail
   refine bodyPost_ret (v := .tuple #[.slice none 0 0, .int .i64 8]) (by simp [results, Tryz.results31, go_sem]) rfl ?_
   exact ⟨HB2.out, Or.inl ⟨h1, rfl⟩⟩
  ·go_wp2_with fail
   refine bodyPost_ret (v := .tuple #[.slice none 0 0, .int .i64 R.1]) (by simp [results, Tryz.results31, go_sem]) rfl ?_
   exact ⟨HB2.out, Or.inr (Or.inl ⟨h1, h2, rfl⟩)⟩
  ·have H3 := hide h3
   clear h3
   go_wp2_with fail
   refine bodyPost_ret (v := .tuple #[v, .int .i64 0]) (by simp [results, Tryz.results31, go_sem]) rfl ?_
   exact ⟨HB2.out, Or.inr (Or.inr ⟨h1, h2, v, rfl, H3.out.mono fun b hb _ => Nat.le_trans HB9.out.size hb⟩)⟩
 ·obtain ⟨n9, sf, hr9, hg9⟩ := HCD.out hc0
  have hRR := uRun_det _ _ _ _ _ _ HR.out hr9
  subst hRR
  have hcb : (code == 0) = false := beq_eq_false_iff_ne.2 hc0
  have hcn : (code != 0) = true := by simp [bne, hcb]
  have HG9 := hide hg9
  have HC0 := hide hc0
  clear hr9 hg9 hc0
  go_wp2_with fail
  refine bodyPost_ret (v := .tuple #[.slice none 0 0, .int .i64 code]) (by simp [results, Tryz.results31, go_sem]) rfl ?_
  exact ⟨HB9.out, Or.inr (Or.inl ⟨HG9.out, HC0.out, rfl⟩)⟩
theorem unify_any (ls : List Pr) (R : Int × List Bd) (g0 : Nat) (hrun : pairsE ls = 0 → uRun false g0 [] ls = some R) (u : Value) (w : World) (X : Nat → Prop) (hu : QV w X u ls) :
  Calls Tryz.prog 16 #[u] w fun e w' => UnPost ls R w e w' := by
 have HU := hide hu
 have HR := hide hrun
 clear hu hrun
 by_cases hp : pairsE ls = 0
 ·have HP := hide hp
  go_enter Tryz.func16, Tryz.ntmps16
  go_wp2_with (go_at_call 30; refine (ucheck_any ls u w X HU.out).mono ?_; rintro e w1 ⟨rfl, hb1⟩; rw [HP.out]; have HB1 := hide hb1; clear hb1)
  refine (eSolve_any HP.out R g0 (HR.out HP.out) u w1 X (HU.out.later HB1.out)).mono ?_
  rintro e w2 ⟨hb2, hc⟩
  have HB2 := hide (HB1.out.trans (hb2.mono HB1.out.size))
  have HC := hide hc
  clear hb2 hc
  rcases HC.out with ⟨h1, rfl⟩ | ⟨h1, h2, rfl⟩ | ⟨h1, h2, v, rfl, h3⟩
  ·go_wp2_with fail
   refine bodyPost_ret (v := .tuple #[.slice none 0 0, .int .i64 8]) (by simp [results, Tryz.results16, go_sem]) rfl ?_
   exact Or.inr ⟨HP.out, HB2.out, Or.inl ⟨h1, rfl⟩⟩
  ·go_wp2_with fail
   refine bodyPost_ret (v := .tuple #[.slice none 0 0, .int .i64 R.1]) (by simp [results, Tryz.results16, go_sem]) rfl ?_
   exact Or.inr ⟨HP.out, HB2.out, Or.inr (Or.inl ⟨h1, h2, rfl⟩)⟩
  ·have H3 := hide h3
   clear h3
   go_wp2_with fail
   refine bodyPost_ret (v := .tuple #[v, .int .i64 0]) (by simp [results, Tryz.results16, go_sem]) rfl ?_
   exact Or.inr ⟨HP.out, HB2.out, Or.inr (Or.inr ⟨h1, h2, v, rfl, H3.out.mono fun b hb _ => Nat.le_trans HB1.out.size hb⟩)⟩
 ·have hpb : (pairsE ls == 0) = false := beq_eq_false_iff_ne.2 hp
  have HP := hide hp
  clear hp
  go_enter Tryz.func16, Tryz.ntmps16
  go_wp2_with (go_at_call 30; refine (ucheck_any ls u w X HU.out).mono ?_; rintro e w1 ⟨rfl, hb1⟩; have HB1 := hide hb1; clear hb1)
  refine bodyPost_ret (v := .tuple #[.slice none 0 0, .int .i64 (pairsE ls)]) (by simp [results, Tryz.results16, go_sem]) rfl ?_
  exact Or.inl ⟨HP.out, HB1.out, rfl⟩
theorem unify_some (ls : List Pr) (hp : pairsE ls = 0) (R : Int × List Bd) (g : Nat) (hR : uRun false g [] ls = some R) (hg : grtB R.2 = false) (h0 : R.1 = 0) (u : Value) (w : World) (X : Nat → Prop) (hu : QV w X u ls) :
  Calls Tryz.prog 16 #[u] w fun e w' => ∃ v, e = .returned (.tuple #[v, .int .i64 0]) ∧ BV w' (fun b => w.heap.size ≤ b) v R.2 ∧ Below w.heap.size w w' := by
 refine (unify_any ls R g (fun _ => hR) u w X hu).mono ?_
 rintro e w' (⟨h, _⟩ | ⟨_, hb, ⟨h, _⟩ | ⟨_, h, _⟩ | ⟨_, _, v, rfl, hv⟩⟩)
 ·exact absurd hp h
 ·rw [hg] at h; cases h
 ·exact absurd h0 h
 ·exact ⟨v, rfl, hv, hb⟩
end Go.Proofs.YtbnmlkaejdpigaaGreatDoor
