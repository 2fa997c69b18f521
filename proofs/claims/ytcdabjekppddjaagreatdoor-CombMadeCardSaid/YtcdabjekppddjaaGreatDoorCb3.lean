/- Walks: whether the program finds all put together by ap. -/
import Derived.Test.YtcdabjekppddjaaGreatDoorZCombMadeOwn
namespace Go.Proofs.YtcdabjekppddjaaGreatDoor
open Go.RowKit
set_option linter.unusedSimpArgs false
set_option linter.unusedVariables false
set_option maxRecDepth 8000

set_option maxHeartbeats 1000000 in
theorem isPut_any (t : Tm) : ∀ (v : Value) (w : World) (X : Nat → Prop), TV w X v t →
    Calls Tryz.prog 35 #[v] w fun e w' => e = .returned (.bool (isC t)) ∧ Below w.heap.size w w' := by
  induction t using Tm.ind with
  | h s l ih =>
    intro v w X hv
    obtain ⟨a, c, rfl, hs⟩ := hv
    have IH := hide ih
    have hl := hs.1
    have HS := hide hs
    clear ih hs
    dsimp only
    have HC := hide (isC_mk s l)
    by_cases h0 : l.length = 0
    · have HR : Hid (isC ⟨s, l⟩ = true) := by unfold Hid; rw [List.length_eq_zero_iff.1 h0]; exact isC_leaf s
      rw [h0]
      rw [HR.out]
      go_enter Tryz.func35, Tryz.ntmps35
      go_wp2_with fail
      go_ret
      exact ⟨rfl, (Below.refl _ _).alloc (Nat.le_refl _) _⟩
    · have e0 : ((l.length : Int) == 0) = false := beq_eq_false_iff_ne.2 (by omega)
      by_cases hnm : s = apB
      · have e1 : (s.toList == [97, 112]) = true := nm_yes hnm
        have HN := hide hnm
        clear hnm
        by_cases h2 : l.length = 2
        · obtain ⟨f, x, rfl⟩ : ∃ f x, l = [f, x] := by
            match l, h2 with
            | [f, x], _ => exact ⟨f, x, rfl⟩
          have HR : Hid (isC ⟨s, [f, x]⟩ = (isC f && isC x)) := by unfold Hid; rw [HN.out]; exact isC_ap f x
          rw [HR.out]
          obtain ⟨b, o, a1, c1, a2, c2, rfl, hb, d0, d1, d2, d3, hs1, hs2⟩ := sl_twoC HS.out
          have D2 := hide d2
          have D3 := hide d3
          have HS1 : Hid (TV w X (.agg #[.string f.name, .slice a1 f.args.length c1]) f) := ⟨a1, c1, rfl, hs1⟩
          have HS2 : Hid (TV w X (.agg #[.string x.name, .slice a2 x.args.length c2]) x) := ⟨a2, c2, rfl, hs2⟩
          have HBX : Hid (Below w.heap.size w (w.alloc (.cells #[.string s, .slice (some ⟨b, o, none⟩) 2 c] 24))) := (Below.refl _ _).alloc (Nat.le_refl _) _
          have HBK : Hid (Blk (w.alloc (.cells #[.string s, .slice (some ⟨b, o, none⟩) 2 c] 24)) w.heap.size #[.string s, .slice (some ⟨b, o, none⟩) 2 c] 24) := Blk.new _ _ _
          clear hs1 hs2 h2 e0 h0 hl HS HC
          simp only [List.length_cons, List.length_nil]
          cases hcf : isC f with
          | false =>
            have HF := hide hcf
            clear hcf
            go_enter Tryz.func35, Tryz.ntmps35
            go_wp2_with (go_at_call 35; refine (IH.out f (by simp) _ _ X (HS1.out.alloc _)).mono ?_; rintro e w1 ⟨rfl, hb1⟩; rw [HF.out])
            go_ret
            exact ⟨rfl, HBX.out.trans (hb1.mono (by simp))⟩
          | true =>
            have HF := hide hcf
            clear hcf
            have HAV : Hid (∀ (v' : Value) (y : Tm), ((v' = .agg #[.string f.name, .slice a1 f.args.length c1] ∧ y = f) ∨ (v' = .agg #[.string x.name, .slice a2 x.args.length c2] ∧ y = x)) → ∀ w', Below w.heap.size w w' → Calls Tryz.prog 35 #[v'] w' fun e w'' => e = .returned (.bool (isC y)) ∧ Below w'.heap.size w' w'') := fun v' y h w' hb => by
              rcases h with ⟨rfl, rfl⟩ | ⟨rfl, rfl⟩
              · exact IH.out _ (by simp) _ _ X (HS1.out.later hb)
              · exact IH.out _ (by simp) _ _ X (HS2.out.later hb)
            go_enter Tryz.func35, Tryz.ntmps35
            go_wp2_with (first
              | (go_at_call 35; refine (HAV.out _ _ (by exact Or.inl ⟨rfl, rfl⟩) _ (by exact HBX.out)).mono ?_; rintro e w1 ⟨rfl, hb1⟩; rw [HF.out]; have k1 : w1.cell? ⟨w.heap.size, 1, none⟩ = some (.slice (some ⟨b, o, none⟩) 2 c) := (HBK.out.below hb1 (by simp)).cell 1; have k2 : w1.cell? ⟨b, o + 2, none⟩ = some (.string x.name) := ((HBX.out.trans (hb1.mono (by simp))).cell (p := ⟨b, o + 2, none⟩) hb).trans D2.out; have k3 : w1.cell? ⟨b, o + 3, none⟩ = some (.slice a2 x.args.length c2) := ((HBX.out.trans (hb1.mono (by simp))).cell (p := ⟨b, o + 3, none⟩) hb).trans D3.out; have HB1 := hide (HBX.out.trans (hb1.mono (by simp))))
              | (go_at_call 35; refine (HAV.out _ _ (by exact Or.inr ⟨rfl, rfl⟩) _ (by exact HB1.out)).mono ?_; rintro e w2 ⟨rfl, hb2⟩))
            go_ret
            exact ⟨rfl, (HBX.out.trans (hb1.mono (by simp))).trans (hb2.mono (by have := hb1.size; simp at this; omega))⟩
        · have e2 : ((l.length : Int) == 2) = false := beq_eq_false_iff_ne.2 (by omega)
          have HR : Hid (isC ⟨s, l⟩ = false) := by unfold Hid; rw [HC.out]; simp [okK, h0, h2]
          rw [HR.out]
          clear HC HS IH h0 h2
          go_enter Tryz.func35, Tryz.ntmps35
          go_wp2_with fail
          go_ret
          exact ⟨rfl, (Below.refl _ _).alloc (Nat.le_refl _) _⟩
      · have e1 : (s.toList == [97, 112]) = false := nm_no hnm
        have HR : Hid (isC ⟨s, l⟩ = false) := by unfold Hid; rw [HC.out]; simp [okK, h0, hnm]
        rw [HR.out]
        clear HC HS IH h0 hnm
        go_enter Tryz.func35, Tryz.ntmps35
        go_wp2_with fail
        go_ret
        exact ⟨rfl, (Below.refl _ _).alloc (Nat.le_refl _) _⟩
end Go.Proofs.YtcdabjekppddjaaGreatDoor
