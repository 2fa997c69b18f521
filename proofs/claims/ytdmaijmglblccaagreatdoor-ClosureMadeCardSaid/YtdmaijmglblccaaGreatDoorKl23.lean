/- Walks: the document's GroundMay. -/
import Derived.Test.YtdmaijmglblccaaGreatDoorKl14
import Derived.Test.YtdmaijmglblccaaGreatDoorZClosureMadeOwn
namespace Go.Proofs.YtdmaijmglblccaaGreatDoor
open Go.RowKit
set_option linter.unusedSimpArgs false
set_option linter.unusedVariables false
set_option maxRecDepth 8000

theorem mayE_size {t : Tm} (ht : mayE t = 0) : sizeL [t] ≤ 200 := by
  unfold mayE at ht
  split at ht
  · cases ht
  · omega
set_option maxHeartbeats 4000000 in
theorem groundMay_any (ls : List Pr) (u : Value) (w : World) (X : Nat → Prop) (hu : QV w X u ls) :
    Calls Tryz.prog 8 #[u] w fun e w' => e = .returned (.int .i64 (grdE ls)) ∧ Below w.heap.size w w' := by
  obtain ⟨ua, uc, rfl, hul, huu⟩ := id hu
  have HUX := hide hu
  clear hu huu
  go_enter Tryz.func8, Tryz.ntmps8
  go_wp2_with fail
  refine (pairsMay_any ls _ w X HUX.out).mono ?_
  rintro e w1 ⟨rfl, hb1⟩
  have HB1 := hide hb1
  clear hb1
  by_cases hp : pairsE ls = 0
  · have HE : Hid (grdE ls = if ls.any opP = true then 15 else 0) := by unfold Hid grdE; rw [if_pos hp]
    have HALL := hide (pairsE_all hp)
    rw [hp]
    clear hp
    go_wp2_with fail
    go_loopw [4] (fun i wr => ∃ k : Nat, k ≤ ls.length ∧ i = .int .i64 (k : Int) ∧ (ls.take k).any opP = false ∧ Below w.heap.size w wr) (fun i wr => ls.length - (intOf i).toNat)
    case atStart => exact ⟨0, Nat.zero_le _, rfl, by simp, HB1.out⟩
    case round =>
      obtain ⟨k, hk, rfl, hno, hbr⟩ := hrel
      have HNO := hide hno
      have HBR := hide hbr
      by_cases hlt : k < ls.length
      · have hki : (k : Int) < (ls.length : Int) := by omega
        obtain ⟨b, o, a1, c1, a2, c2, hva, d0, d1, d2, d3, s1, s2⟩ := (HUX.out.later hbr).get k hlt
        subst hva
        have HS1 := hide s1
        have HS2 := hide s2
        have HAT : Hid (opP ls[k] = true → grdE ls = 15) := fun h => by rw [HE.out, if_pos (anyP_at hlt h)]
        have HAN : Hid (opP ls[k] = false → (ls.take (k + 1)).any opP = false) := fun h => anyPK_take hlt HNO.out h
        have hz := HALL.out _ (List.getElem_mem hlt)
        have HZ1 := hide (mayE_size hz.1)
        have HZ2 := hide (mayE_size hz.2)
        clear s1 s2 hno hbr hz
        generalize ls[k] = d at *
        go_wp2_with fail
        have VL : Hid (∀ w', Below wr.heap.size wr w' → Calls Tryz.prog 10 #[.agg #[.string d.l.name, .slice a1 d.l.args.length c1]] w' fun e w'' => (∃ va vc, e = .returned (.slice va (varsP [] (preL [d.l])).length vc)) ∧ Below wr.heap.size wr w'' ∧ (w''.cell? ⟨b, o + k * 4, none⟩ = some (.string d.l.name) ∧ w''.cell? ⟨b, o + k * 4 + 1, none⟩ = some (.slice a1 d.l.args.length c1) ∧ w''.cell? ⟨b, o + k * 4 + 2, none⟩ = some (.string d.r.name) ∧ w''.cell? ⟨b, o + k * 4 + 3, none⟩ = some (.slice a2 d.r.args.length c2))) := fun w' hb => by
          refine (varsOf_any d.l _ w' _ ⟨_, _, rfl, HS1.out.later hb⟩ (by have := HZ1.out; omega)).mono ?_
          rintro e w'' ⟨v', rfl, hl, hb2⟩
          obtain ⟨va, vc, rfl, _⟩ := hl
          have hb3 := hb.trans (hb2.mono hb.size)
          exact ⟨⟨va, vc, rfl⟩, hb3, cell_later hb3 d0, cell_later hb3 d1, cell_later hb3 d2, cell_later hb3 d3⟩
        have VR : Hid (∀ w', Below wr.heap.size wr w' → Calls Tryz.prog 10 #[.agg #[.string d.r.name, .slice a2 d.r.args.length c2]] w' fun e w'' => (∃ va vc, e = .returned (.slice va (varsP [] (preL [d.r])).length vc)) ∧ Below wr.heap.size wr w'' ∧ (w''.cell? ⟨b, o + k * 4, none⟩ = some (.string d.l.name) ∧ w''.cell? ⟨b, o + k * 4 + 1, none⟩ = some (.slice a1 d.l.args.length c1) ∧ w''.cell? ⟨b, o + k * 4 + 2, none⟩ = some (.string d.r.name) ∧ w''.cell? ⟨b, o + k * 4 + 3, none⟩ = some (.slice a2 d.r.args.length c2))) := fun w' hb => by
          refine (varsOf_any d.r _ w' _ ⟨_, _, rfl, HS2.out.later hb⟩ (by have := HZ2.out; omega)).mono ?_
          rintro e w'' ⟨v', rfl, hl, hb2⟩
          obtain ⟨va, vc, rfl, _⟩ := hl
          have hb3 := hb.trans (hb2.mono hb.size)
          exact ⟨⟨va, vc, rfl⟩, hb3, cell_later hb3 d0, cell_later hb3 d1, cell_later hb3 d2, cell_later hb3 d3⟩
        refine (VL.out wr (Below.refl _ _)).mono ?_
        rintro e w5 ⟨⟨va5, vc5, rfl⟩, hb5, e0, e1, e2, e3⟩
        have HB5 := hide hb5
        have HW5 := hide (HBR.out.trans (hb5.mono HBR.out.size))
        clear hb5 d0 d1 d2 d3 VL
        by_cases ho : opnB d.l = true
        · have HA := hide (HAT.out (by unfold opP; rw [ho]; rfl))
          have hpos := (opn_vars d.l).2 ho
          generalize (varsP [] (preL [d.l])).length = nl at *
          have hdec : (0 : Int) < (nl : Int) := by omega
          clear ho
          go_wp2_with fail
          go_ret
          exact ⟨by rw [HA.out]; rfl, HW5.out⟩
        · have ho' : opnB d.l = false := by simpa using ho
          have hzero : ¬ 0 < (varsP [] (preL [d.l])).length := fun h => ho ((opn_vars d.l).1 h)
          generalize (varsP [] (preL [d.l])).length = nl at *
          have hdec : ¬ (0 : Int) < (nl : Int) := by omega
          have hnl : nl = 0 := by omega
          subst hnl
          clear ho hzero
          have HO := hide ho'
          clear ho'
          go_wp2_with fail
          refine (VR.out w5 HB5.out).mono ?_
          rintro e w6 ⟨⟨va6, vc6, rfl⟩, hb6, -, -, -, -⟩
          have HW6 := hide (HBR.out.trans (hb6.mono HBR.out.size))
          clear hb6 VR e0 e1 e2 e3
          by_cases ho2 : opnB d.r = true
          · have HA := hide (HAT.out (by unfold opP; rw [HO.out, ho2]; rfl))
            have hpos := (opn_vars d.r).2 ho2
            generalize (varsP [] (preL [d.r])).length = nr at *
            have hdec2 : (0 : Int) < (nr : Int) := by omega
            clear ho2
            go_wp2_with fail
            go_ret
            exact ⟨by rw [HA.out]; rfl, HW6.out⟩
          · have ho2' : opnB d.r = false := by simpa using ho2
            have hzero : ¬ 0 < (varsP [] (preL [d.r])).length := fun h => ho2 ((opn_vars d.r).1 h)
            have HA := hide (HAN.out (by unfold opP; rw [HO.out, ho2']; rfl))
            generalize (varsP [] (preL [d.r])).length = nr at *
            have hnr : nr = 0 := by omega
            subst hnr
            clear ho2 ho2' hzero
            go_wp2_with fail
            go_roundw
            case rel => exact ⟨k + 1, by omega, by go_num, HA.out, HW6.out⟩
            case measure => simp [intOf]; omega
      · have hki : ¬ (k : Int) < (ls.length : Int) := by omega
        have HA : Hid (grdE ls = 0) := by
          have h := HNO.out
          rw [List.take_of_length_le (by omega)] at h
          unfold Hid
          rw [HE.out, if_neg (by rw [h]; simp)]
        clear hno hbr
        go_wp2_with fail
        go_ret
        exact ⟨by rw [HA.out]; rfl, HBR.out⟩
  · have HE : Hid (grdE ls = pairsE ls) := by unfold Hid grdE; rw [if_neg hp]
    have hne : (pairsE ls != 0) = true := by simp [hp]
    generalize pairsE ls = er at *
    clear hp
    go_wp2_with fail
    go_ret
    exact ⟨by rw [HE.out]; rfl, HB1.out⟩
end Go.Proofs.YtdmaijmglblccaaGreatDoor
