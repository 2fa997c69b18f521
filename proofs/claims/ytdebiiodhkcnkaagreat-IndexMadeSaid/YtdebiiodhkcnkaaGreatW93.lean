import Derived.Test.YtdebiiodhkcnkaaGreatW92
namespace Go.Proofs.YtdebiiodhkcnkaaGreat
open Go.RowKit
set_option linter.unusedSimpArgs false
set_option linter.unusedVariables false
set_option maxRecDepth 8000
def mtB (p t : Tm) : Bool := (mtT p t []).isSome
def MoPost (w : World) (Z : Nat → Prop) (p t : Tm) (e : Ending) (w' : World) : Prop :=
 Below w.heap.size w w' ∧ ((mtT p t [] = none ∧ e = .returned (.tuple #[.slice none 0 0, .bool false])) ∨
  ∃ h' v l', mtT p t [] = some h' ∧ e = .returned (.tuple #[v, .bool true]) ∧ BV w' Z v l' ∧ l'.Perm h' ∧ l'.Pairwise fun a b => ltB b.nm a.nm = false)
set_option maxHeartbeats 400000 in
theorem matchOf_any (p t : Tm) (pv tv : Value) (w : World) (X : Nat → Prop) (hp : TV w X pv p) (ht : TV w X tv t) (hsz : sizeL [p] ≤ 1000000) :
  Calls Tryz.prog 20 #[pv, tv] w fun e w' => MoPost w (fun b => (X b ∧ b < w.heap.size) ∨ w.heap.size ≤ b) p t e w' := by
 obtain ⟨a, c, rfl, hs⟩ := hp
 obtain ⟨a2, c2, rfl, hs2⟩ := ht
 have HS := hide (hs.mono (Y := fun b => X b ∧ b < w.heap.size) fun b h1 h2 => ⟨h1, h2⟩)
 have HS2 := hide (hs2.mono (Y := fun b => X b ∧ b < w.heap.size) fun b h1 h2 => ⟨h1, h2⟩)
 clear hs hs2
 have HB2 : Hid (Below w.heap.size w ((w.alloc (.cells #[.string p.name, .slice a p.args.length c] 26)).alloc (.cells #[.string t.name, .slice a2 t.args.length c2] 26))) := below2 _ _
 go_enter Tryz.func20, Tryz.ntmps20
 go_wp2_with fail
 generalize (w.alloc (.cells #[.string p.name, .slice a p.args.length c] 26)).alloc (.cells #[.string t.name, .slice a2 t.args.length c2] 26) = w2 at *
 refine (matched_any p t [] _ _ (.slice none 0 0) w2 w.heap.size (fun b => X b ∧ b < w.heap.size) ⟨a, c, rfl, HS.out.later HB2.out⟩ ⟨a2, c2, rfl, HS2.out.later HB2.out⟩ (BRow.start _ _ _) HB2.out.size (fun b h => h.2) (by simpa using hsz) List.Pairwise.nil).mono ?_
 rintro e w3 ⟨hg3, hc3⟩
 have HB3 : Hid (Below w.heap.size w w3) := HB2.out.grown hg3 HB2.out.size (fun j hj => by simp [Value.ownBlock] at hj)
 clear hg3
 rcases hc3 with ⟨h0, v3, rfl⟩ | ⟨h', v3, cs3, h0, rfl, hcs, hrow, _⟩
 ·have H0 := hide h0
  clear h0
  go_wp2_with fail
  refine bodyPost_ret (v := .tuple #[.slice none 0 0, .bool false]) (by simp [results, Tryz.results20, go_sem]) rfl ?_
  exact ⟨HB3.out, Or.inl ⟨H0.out, rfl⟩⟩
 ·have H0 := hide h0
  have HCS := hide hcs
  have HROW := hide hrow
  have hl3 : cs3.length ≤ 1000000 := by
   have h1 := (mtT_apart h0 List.Pairwise.nil).2
   rw [← hcs] at h1
   simp at h1
   omega
  clear h0 hcs hrow
  go_wp2_with fail
  refine (sorted_any (cs3.map (·.1)) v3 w3 _ HROW.out.bv (by simpa using hl3)).mono ?_
  rintro e w5 ⟨v5, cs5, rfl, hr5, hp5, hw5, hb5⟩
  have HR5 := hide hr5
  have HP5 := hide hp5
  have HW5 := hide hw5
  have HB5 := hide (HB3.out.trans (hb5.mono HB3.out.size))
  have hzz := HB3.out.size
  clear hr5 hp5 hw5 hb5
  go_wp2_with fail
  refine bodyPost_ret (v := .tuple #[v5, .bool true]) (by simp [results, Tryz.results20, go_sem]) rfl ?_
  refine ⟨HB5.out, Or.inr ⟨h', v5, cs5.map (·.1), H0.out, rfl, HR5.out.bv.mono fun b hb _ => ?_, by rw [← HCS.out]; exact HP5.out, List.pairwise_map.2 (show cs5.Pairwise (fun a b => ltB b.1.nm a.1.nm = false) from HW5.out)⟩⟩
  rcases hb with ⟨hb, _⟩ | hb
  ·exact hb
  ·exact Or.inr (by omega)
theorem matchOf_b (p t : Tm) (pv tv : Value) (w : World) (X : Nat → Prop) (hp : TV w X pv p) (ht : TV w X tv t) (hsz : sizeL [p] ≤ 1000000) :
  Calls Tryz.prog 20 #[pv, tv] w fun e w' => ∃ v, e = .returned (.tuple #[v, .bool (mtB p t)]) ∧ Below w.heap.size w w' := by
 refine (matchOf_any p t pv tv w X hp ht hsz).mono ?_
 rintro e w1 ⟨hb, ⟨h0, rfl⟩ | ⟨h', v, l', h0, rfl, _⟩⟩
 ·exact ⟨_, by unfold mtB; rw [h0]; rfl, hb⟩
 ·exact ⟨v, by unfold mtB; rw [h0]; rfl, hb⟩
end Go.Proofs.YtdebiiodhkcnkaaGreat
