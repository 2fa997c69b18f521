import Derived.Test.YtdebiiodhkcnkaaGreatZTopIndexOwn
namespace Go.Proofs.YtdebiiodhkcnkaaGreat
open Go.RowKit
set_option linter.unusedSimpArgs false
set_option linter.unusedVariables false
set_option maxRecDepth 8000
set_option maxHeartbeats 2000000 in
theorem sameK_all (t : Tm) : ∀ (x : Tm) (v u : Value) (w : World) (X Y : Nat → Prop), TV w X v t → TV w Y u x →
  Calls Tryz.prog 53 #[v, u] w fun e w' => e = .returned (.bool (sameB t x)) ∧ Below w.heap.size w w' := by
 induction t using Tm.ind with
 | h s l ih =>
  intro x v u w X Y hv hu
  obtain ⟨s2, m⟩ := x
  have IH := hide ih
  clear ih
  obtain ⟨a, c, rfl, hs⟩ := hv
  obtain ⟨a2, c2, rfl, hs2⟩ := hu
  have hl := hs.1
  have hl2 := hs2.1
  dsimp only
  cases hn : (s.toList == s2.toList) with
  | false =>
   have HR : Hid (false = sameB ⟨s, l⟩ ⟨s2, m⟩) := by unfold Hid sameB; rw [hn]; rfl
   go_enter Tryz.func53, Tryz.ntmps53
   go_wp2_with fail
   go_ret
   exact ⟨ret_bool HR.out, below2 _ _⟩
  | true =>
   by_cases hm : l.length = m.length
   ·have HR : Hid (eqL l m = sameB ⟨s, l⟩ ⟨s2, m⟩) := by unfold Hid sameB; simp [hn, hm]
    have HM := hide hm
    rw [← hm]
    clear hm
    go_enter Tryz.func53, Tryz.ntmps53
    go_wp2_with fail
    go_loopw [23] (fun i wr => SaInv w l m a a2 c c2 i wr) (fun i wr => l.length - (intOf i).toNat)
    case atStart => exact ⟨0, Nat.zero_le _, rfl, by simp [eqL], below2 _ _, by simp, by simp, by simp⟩
    case round =>
     obtain ⟨k, hk, rfl, hq, hb, hc1, hc2, hsz⟩ := hrel
     have HQ := hide hq
     clear hq
     by_cases hlt : k < l.length
     ·obtain ⟨b, o, a', c', rfl, d0, d1, hx⟩ := hs.get hb (fun _ _ h => h) k hlt
      obtain ⟨b2, o2, a2', c2', rfl, e0, e1, hx2⟩ := hs2.get hb (fun _ _ h => h) k (by have := HM.out; omega)
      have hltm : k < m.length := by have := HM.out; omega
      have HX := hide hx
      have HX2 := hide hx2
      have HB := hide hb
      have HS0 := hide (And.intro hc1 (And.intro hc2 (And.intro d0 (And.intro d1 (And.intro e0 e1)))))
      have IHK := hide (fun (w' : World) => IH.out l[k] (List.getElem_mem hlt) m[k] (.agg #[.string l[k].name, .slice a' l[k].args.length c']) (.agg #[.string m[k].name, .slice a2' m[k].args.length c2']) w' X Y)
      have HT := hide (eqL_take hlt hltm)
      have HNO := hide (eqL_no hlt HM.out)
      clear hx hx2 hb
      generalize l[k] = y at *
      generalize m[k] = z at *
      go_wp2_with fail
      cases hsm : sameB y z with
      | true =>
       rw [hsm] at IHK HT
       go_region_held3 (fun w' => w'.cell? ⟨w.heap.size, 1, none⟩ = some (.slice (some ⟨b, o, none⟩) l.length c) ∧ w'.cell? ⟨w.heap.size + 1, 1, none⟩ = some (.slice (some ⟨b2, o2, none⟩) l.length c2) ∧ w'.cell? ⟨b, o + k * 2, none⟩ = some (.string y.name) ∧ w'.cell? ⟨b, o + k * 2 + 1, none⟩ = some (.slice a' y.args.length c') ∧ w'.cell? ⟨b2, o2 + k * 2, none⟩ = some (.string z.name) ∧ w'.cell? ⟨b2, o2 + k * 2 + 1, none⟩ = some (.slice a2' z.args.length c2')) (first | exact HS0.out | exact hS1 | go_keep)
        ((go_at_call 53; refine (IHK.out _ (by exact HX.out.later (below_drewN (Below.refl _ _) 1)) (by exact HX2.out.later (below_drewN (Below.refl _ _) 1))).mono ?_; rintro e w1 ⟨rfl, hb1⟩; have hS1 := same_cells (n := 1) hb1 HS0.out))
       go_wp2_with fail
       go_roundw
       case rel => exact ⟨k + 1, by omega, by go_num, by rw [HT.out, HQ.out]; rfl, (HB.out.trans (below_drewN (Below.refl _ _) 1)).trans (hb1.mono (by simp; omega)), hS1.1, hS1.2.1, by have := hb1.size; simp at this; omega⟩
       case measure => simp [intOf]; omega
      | false =>
       have HF : Hid (false = sameB ⟨s, l⟩ ⟨s2, m⟩) := by unfold Hid; rw [← HR.out, HNO.out hsm]
       rw [hsm] at IHK
       go_region_held3 (fun w' => w'.cell? ⟨w.heap.size, 1, none⟩ = some (.slice (some ⟨b, o, none⟩) l.length c) ∧ w'.cell? ⟨w.heap.size + 1, 1, none⟩ = some (.slice (some ⟨b2, o2, none⟩) l.length c2) ∧ w'.cell? ⟨b, o + k * 2, none⟩ = some (.string y.name) ∧ w'.cell? ⟨b, o + k * 2 + 1, none⟩ = some (.slice a' y.args.length c') ∧ w'.cell? ⟨b2, o2 + k * 2, none⟩ = some (.string z.name) ∧ w'.cell? ⟨b2, o2 + k * 2 + 1, none⟩ = some (.slice a2' z.args.length c2')) (first | exact HS0.out | exact hS1 | go_keep)
        ((go_at_call 53; refine (IHK.out _ (by exact HX.out.later (below_drewN (Below.refl _ _) 1)) (by exact HX2.out.later (below_drewN (Below.refl _ _) 1))).mono ?_; rintro e w1 ⟨rfl, hb1⟩; have hS1 := same_cells (n := 1) hb1 HS0.out))
       go_wp2_with fail
       go_ret
       exact ⟨ret_bool HF.out, (HB.out.trans (below_drewN (Below.refl _ _) 1)).trans (hb1.mono (by simp; omega))⟩
     ·have HF : Hid (true = sameB ⟨s, l⟩ ⟨s2, m⟩) := by
       unfold Hid
       rw [← HR.out, ← HQ.out, List.take_of_length_le (by omega), List.take_of_length_le (by have := HM.out; omega)]
      go_wp2_with fail
      go_ret
      exact ⟨ret_bool HF.out, hb⟩
   ·have HR : Hid (false = sameB ⟨s, l⟩ ⟨s2, m⟩) := by unfold Hid sameB; simp [hn, hm]
    have hm2 : ((l.length : Int) == (m.length : Int)) = false := beq_eq_false_iff_ne.2 (by omega)
    clear hm
    go_enter Tryz.func53, Tryz.ntmps53
    go_wp2_with fail
    go_ret
    exact ⟨ret_bool HR.out, below2 _ _⟩
end Go.Proofs.YtdebiiodhkcnkaaGreat
