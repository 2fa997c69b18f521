import Derived.Test.YthnncjgjmohinaaGreatDoorIf20
namespace Go.Proofs.YthnncjgjmohinaaGreatDoor
open Go.RowKit
set_option linter.unusedSimpArgs false
set_option linter.unusedVariables false
theorem ixB_le (s : ByteArray) : ∀ l : List ByteArray, ixB s l ≤ l.length
 | [] => by simp [ixB]
 | a :: r => by
  have := ixB_le s r
  simp only [ixB, List.length_cons]
  split <;> omega
theorem ay_sh (ns : List ByteArray) (hn : ns.length ≤ 2000) (l : List Tm) : KnL l → shY (ayL ns l) ∧ bsY (ayL ns l) := by
 induction l using Tm.indL with
 | h0 => intro _; rw [ayL_nil]; exact ⟨by simp [shY], by simp [bsY]⟩
 | h s l r ihl ihr =>
  intro h
  obtain ⟨h1, h2, h3⟩ := KnL.cons.1 h
  have i1 := ihl h2
  have i2 := ihr h3
  rw [ayL_cons, shY_cons, bsY_cons]
  rcases h1 with ⟨_, h1⟩ | ⟨_, h1⟩
  ·have h1' : l = [] := h1
   subst h1'
   have e : ayT ns ⟨s, []⟩ = ⟨((ixB s ns : Nat) : Int), []⟩ := by simp [ayT, ayK]
   rw [e]
   exact ⟨⟨Or.inl rfl, by simp [shY], i2.1⟩, ⟨_, rfl, by have := ixB_le s ns; omega⟩, by simp [bsY], i2.2⟩
  ·have h1' : l.length = 2 := h1
   have e : ayT ns ⟨s, l⟩ = ⟨0, ayL ns l⟩ := by simp [ayT, ayK, h1']
   have el : (ayL ns l).length = 2 := by
    match l, h1' with
    | [a, b], _ => rw [ayL_cons, ayL_cons, ayL_nil]; rfl
   rw [e]
   exact ⟨⟨Or.inr el, i1.1, i2.1⟩, ⟨0, rfl, by omega⟩, i1.2, i2.2⟩
theorem out_same {R R' : Int × List Bd} {x : Tm} (hx : DnL DoN [x]) (hd : DnB DoN R.2) (h1 : grtB R.2 = true → R'.1 = 8) (h2 : grtB R.2 = false → R' = R) : outI (R.1, R.2.map (mpB swp)) (mpT swp x) = outY R' x := by
 unfold outI
 rw [show (R.1, R.2.map (mpB swp)).2 = R.2.map (mpB swp) from rfl, grtB_mp]
 cases hg : grtB R.2 with
 | true =>
  rw [if_pos rfl]
  unfold outY
  rw [h1 hg, if_neg (by decide), if_pos (by decide)]
 | false =>
  rw [if_neg (by decide), h2 hg]
  obtain ⟨e1, e2⟩ := onT_mp okF_swp hd hx
  unfold outY
  rw [show (R.1, R.2.map (mpB swp)).2 = R.2.map (mpB swp) from rfl, show (R.1, R.2.map (mpB swp)).1 = R.1 from rfl, e1, mpT_size, ayT_mp okF_swp e2]
theorem out_sh {R : Int × List Bd} {x : Tm} (hb : KnB R.2) (hx : KnL [x]) (h0 : (outY R x).1 = 0) : shY [(outY R x).2] ∧ bsY [(outY R x).2] := by
 unfold outY at h0 ⊢
 by_cases e1 : R.1 = 6
 ·rw [if_pos e1] at h0; cases h0
 rw [if_neg e1] at h0 ⊢
 by_cases e2 : R.1 ≠ 0
 ·rw [if_pos e2] at h0; exact absurd h0 e2
 rw [if_neg e2] at h0 ⊢
 by_cases e3 : 2000 < sizeL [onT R.2 x]
 ·rw [if_pos e3] at h0; cases h0
 rw [if_neg e3] at h0 ⊢
 have hn : (varsP [] (preL [onT R.2 x])).length ≤ 2000 := by
  have h := varsP_len (preL [onT R.2 x]) []
  rw [preL_length] at h
  simp at h
  omega
 have k := ay_sh _ hn [onT R.2 x] (onT_kn hb hx)
 rw [ayL_cons, ayL_nil] at k
 exact k
theorem infer_agree {t : Lm} (he : errM 0 0 [t] = 0) (hc : csL [t] = false) (hz : sizeM [t] ≤ 60) : ∃ (g : Nat) (R R' : Int × List Bd), uRun true g [] (tyT 84 t [] 0).2.1 = some R' ∧ uRun false g [] (tyT 86 t [] 0).2.1 = some R ∧ outI R (tyT 86 t [] 0).1 = outY R' (tyT 84 t [] 0).1 ∧
  ((outY R' (tyT 84 t [] 0).1).1 = 0 → shY [(outY R' (tyT 84 t [] 0).1).2] ∧ bsY [(outY R' (tyT 84 t [] 0).1).2]) := by
 obtain ⟨g, R, R', h1, h2, h3, h4⟩ := two_runs (ty_pairs (p := 84) (Or.inl rfl) he hc hz)
 obtain ⟨d1, d2⟩ := tyT_dn t 0
 obtain ⟨m1, m2⟩ := uRun_mp okF_swp false g (s := []) (fun d hd => by cases hd) d2 h1
 obtain ⟨k1, k2⟩ := ty_kn (p := 84) (Or.inl rfl) t [] 0 he hc KnL.nil
 refine ⟨g, (R.1, R.2.map (mpB swp)), R', h2, ?_, ?_, fun h0 => out_sh (uRun_kn true g (s := []) (fun d hd => by cases hd) k2 h2) k1 h0⟩
 ·rw [tyT_mp]
  exact m1
 ·rw [tyT_mp]
  exact out_same d1 m2 h3 h4
end Go.Proofs.YthnncjgjmohinaaGreatDoor
