/- The law CombRuns. -/
import Derived.Test.YtcdabjekppddjaaGreatDoorCb13
import Derived.Test.YtcdabjekppddjaaGreatDoorW11
namespace Go.Proofs.YtcdabjekppddjaaGreatDoor
open Go.RowKit
set_option linter.unusedSimpArgs false
set_option linter.unusedVariables false
set_option maxRecDepth 8000

set_option maxHeartbeats 4000000 in
theorem combRuns_any (t : Tm) (v : Value) (z : Int) (w : World) (X : Nat → Prop) (hv : TV w X v t) :
    Calls Tryz.prog 22 #[v, .int .i64 z] w fun e w' => e = .returned (.bool true) ∧ Below w.heap.size w w' := by
  obtain ⟨a, c, rfl, hs0⟩ := hv
  obtain ⟨X', hX', hs⟩ : ∃ X' : Nat → Prop, (∀ b, X' b → b < w.heap.size) ∧ Sl w X' a t.args := ⟨fun b => X b ∧ b < w.heap.size, fun b h => h.2, hs0.mono fun b h1 h2 => ⟨h1, h2⟩⟩
  clear hs0
  have HV : Hid (TV w X' (.agg #[.string t.name, .slice a t.args.length c]) t) := ⟨a, c, rfl, hs⟩
  have HT0 := hide (Blk.new w #[.string t.name, .slice a t.args.length c] 24)
  have HB0 : Hid (Below w.heap.size w (w.alloc (.cells #[.string t.name, .slice a t.args.length c] 24))) := (Below.refl _ _).alloc (Nat.le_refl _) _
  clear hs
  go_enter Tryz.func22, Tryz.ntmps22
  go_wp2_with fail
  refine (huge_any t _ _ X' (by exact HV.out.alloc _)).mono ?_
  rintro e w1 ⟨rfl, hb1⟩
  have T1 := hide (HT0.out.below hb1 (by simp))
  have B1 := hide (HB0.out.trans (hb1.mono (by simp)))
  have hl1 := T1.out.lt
  have c0 : w1.cell? ⟨w.heap.size, 0, none⟩ = some (.string t.name) := T1.out.cell 0
  have c1 : w1.cell? ⟨w.heap.size, 1, none⟩ = some (.slice a t.args.length c) := T1.out.cell 1
  clear hb1
  by_cases h1 : 3000 < sizeL [t]
  · rw [decide_eq_true h1]
    go_wp2_with fail
    go_ret
    exact ⟨rfl, B1.out⟩
  · rw [decide_eq_false h1]
    have hsz : sizeL [t] ≤ 3000 := by omega
    clear h1
    by_cases hmid : 30 < z ∧ z ≤ 400
    · have g1 : decide (z > 30) = true := decide_eq_true hmid.1
      have g2 : decide (z ≤ 400) = true := decide_eq_true hmid.2
      go_wp2_with fail
      go_ret
      exact ⟨rfl, B1.out⟩
    · have hzz : z ≤ 30 ∨ 400 < z := by omega
      have HFW : Hid (∀ w', Below w1.heap.size w1 w' → Blk w' w.heap.size #[.string t.name, .slice a t.args.length c] 24 ∧ TV w' X' (.agg #[.string t.name, .slice a t.args.length c]) t ∧ Below w.heap.size w w') := fun w' hb => ⟨T1.out.below hb hl1, (HV.out.later B1.out).later hb, B1.out.trans (hb.mono (by omega))⟩
      have hcut : ∀ P : Prop, P → P := fun _ h => h
      rcases hzz with hzz | hzz
      · have g1 : decide (z > 30) = false := decide_eq_false (by omega)
        go_wp2_with fail
        refine (combMay_any t _ _ X' (by exact HV.out.later B1.out)).mono ?_
        rintro e w2 ⟨rfl, hb2⟩
        have HB2 := hide hb2
        have hz2 := hb2.size
        have T2 := (HFW.out _ hb2).1
        have c0' : w2.cell? ⟨w.heap.size, 0, none⟩ = some (.string t.name) := T2.cell 0
        have c1' : w2.cell? ⟨w.heap.size, 1, none⟩ = some (.slice a t.args.length c) := T2.cell 1
        clear hb2 T2
        by_cases he : combE t = 0
        · rw [he]
          go_wp2_with fail
          refine (size_any t _ 60 _ X' (HFW.out _ HB2.out).2.1 (by omega) (by omega)).mono ?_
          rintro e w5 ⟨rfl, hb5⟩
          have HB5 := hide (HB2.out.trans (hb5.mono hz2))
          have hz5 := HB5.out.size
          clear hb5 c0' c1'
          by_cases h60 : 60 < sizeL [t]
          · rw [show min ((sizeL [t] : Int)) (60 + 1) = 61 by omega]
            go_wp2_with fail
            go_ret
            exact ⟨rfl, (HFW.out _ HB5.out).2.2⟩
          · rw [show min ((sizeL [t] : Int)) (60 + 1) = (sizeL [t] : Int) by omega]
            have g60 : decide ((sizeL [t] : Int) > 60) = false := decide_eq_false (by omega)
            by_cases hneg : z < 0
            · have g3 : decide (z < 0) = true := decide_eq_true hneg
              have HRE : Hid (RunE t z = 10) := by unfold Hid RunE; rw [if_pos he, if_pos (by omega)]
              have HF0 : Hid ((10 : Int) ≠ 0) := by unfold Hid; decide
              clear he

              have BW := hide ((HB5.out).trans ((Below.refl _ _).alloc (by have := HB5.out.size; omega) (.cells #[.string ⟨#[]⟩, .slice none 0 0] 24)))
              have cA : ∀ o, (w5.alloc o).cell? ⟨w.heap.size, 0, none⟩ = some (.string t.name) := fun o => ((HFW.out _ HB5.out).1.alloc o).cell 0
              have cB : ∀ o, (w5.alloc o).cell? ⟨w.heap.size, 1, none⟩ = some (.slice a t.args.length c) := fun o => ((HFW.out _ HB5.out).1.alloc o).cell 1
              have HT2 : Hid (∀ w', Calls Tryz.prog 13 #[.agg #[.string ⟨#[]⟩, .slice none 0 0], .int .i64 (10), .agg #[.string ⟨#[]⟩, .slice none 0 0], .int .i64 (10)] w' fun e w'' => e = .returned (.bool true) ∧ Below w'.heap.size w' w'') := fun w' => term2_err _ _ ⟨#[]⟩ none 0 0 rfl w' HF0.out
              have HRN := hide (runErr_any z t _ (w5.alloc (.cells #[.string ⟨#[]⟩, .slice none 0 0] 24)) X' (HFW.out _ BW.out).2.1 (by rw [HRE.out]; exact HF0.out))
              rw [HRE.out] at HRN
              go_wp2_with fail
              refine HRN.out.mono ?_
              rintro e w3 ⟨rfl, hb3⟩
              have KW := hide ((Blk.new w5 #[.string ⟨#[]⟩, .slice none 0 0] 24).below hb3 (by simp))
              have k0 : ∀ o, (w3.alloc o).cell? ⟨w5.heap.size, 0, none⟩ = some (.string ⟨#[]⟩) := fun o => (KW.out.alloc o).cell 0
              have k1 : ∀ o, (w3.alloc o).cell? ⟨w5.heap.size, 1, none⟩ = some (.slice none 0 0) := fun o => (KW.out.alloc o).cell 1
              have B3 := hide ((HFW.out _ BW.out).2.2.trans (hb3.mono (HFW.out _ BW.out).2.2.size))
              clear hb3 HRN
              go_wp2_with (go_at_call 13; refine (HT2.out _).mono ?_; rintro e w4 ⟨rfl, hb4⟩)
              go_ret
              exact ⟨rfl, (B3.out.alloc B3.out.size _).trans (hb4.mono (by have := B3.out.size; simp; omega))⟩
            · have g3 : decide (z < 0) = false := decide_eq_false hneg
              have g4 : decide (z > 400) = false := decide_eq_false (by omega)
              obtain ⟨m, rfl⟩ : ∃ m : Nat, z = (m : Int) := ⟨z.toNat, by omega⟩
              have hmm : m ≤ 30 := by omega
              have hic : isC t = true := by
                apply Classical.byContradiction
                intro hn
                unfold combE at he
                by_cases hm : mayE t = 0
                · rw [if_pos hm, if_neg hn] at he; cases he
                · rw [if_neg hm] at he; exact hm he
              have BW := hide (HB5.out.trans ((Below.refl _ _).alloc (by omega) (.cells #[.string ⟨#[]⟩, .slice none 0 0] 24)))
              have cA : ∀ o, (w5.alloc o).cell? ⟨w.heap.size, 0, none⟩ = some (.string t.name) := fun o => ((HFW.out _ HB5.out).1.alloc o).cell 0
              have cB : ∀ o, (w5.alloc o).cell? ⟨w.heap.size, 1, none⟩ = some (.slice a t.args.length c) := fun o => ((HFW.out _ HB5.out).1.alloc o).cell 1
              have HDE := hide (docEnd_any m t _ (w5.alloc (.cells #[.string ⟨#[]⟩, .slice none 0 0] 24)) X' (by omega) hic (by omega) (HFW.out _ BW.out).2.1)
              go_wp2_with fail
              refine HDE.out.mono ?_
              rintro e w6 ⟨hb6, hcase⟩
              have hz6 := hb6.size
              simp only [World.size_alloc] at hz6
              have KW := hide ((Blk.new w5 #[.string ⟨#[]⟩, .slice none 0 0] 24).below hb6 (by simp))
              have TW := hide ((HFW.out _ (BW.out.trans (hb6.mono (by have := BW.out.size; omega)))).1)
              have BX := hide (BW.out.trans (hb6.mono (by have := BW.out.size; omega)))
              have k0 : w6.cell? ⟨w5.heap.size, 0, none⟩ = some (.string ⟨#[]⟩) := KW.out.cell 0
              have k1 : w6.cell? ⟨w5.heap.size, 1, none⟩ = some (.slice none 0 0) := KW.out.cell 1
              have kf : ∀ i, w6.frozen? ⟨w5.heap.size, i, none⟩ = false := KW.out.frozen
              have d0 : w6.cell? ⟨w.heap.size, 0, none⟩ = some (.string t.name) := TW.out.cell 0
              have d1 : w6.cell? ⟨w.heap.size, 1, none⟩ = some (.slice a t.args.length c) := TW.out.cell 1
              have hne5 : w.heap.size ≠ w5.heap.size := by omega
              have hw65 : w5.heap.size < w6.heap.size := by omega
              have HRUN : Hid (∀ u u', Calls Tryz.prog 51 #[.agg #[.string t.name, .slice a t.args.length c], .int .i64 (m : Int)] ((w6.setCell ⟨w5.heap.size, 0, none⟩ u).setCell ⟨w5.heap.size, 1, none⟩ u') fun e w' => EnPost ((w6.setCell ⟨w5.heap.size, 0, none⟩ u).setCell ⟨w5.heap.size, 1, none⟩ u') X' m t e w') := fun u u' => by
                refine run_any m t _ _ X' (by omega) he hic (by omega) ⟨a, c, rfl, ?_⟩
                obtain ⟨_, _, e9, h9⟩ := (HFW.out _ BX.out).2.1
                cases e9
                refine h9.kept fun b hb => ?_
                have hne : b ≠ w5.heap.size := by have := hX' b hb; omega
                rw [Below.heap_setCell _ _ _ _ (by simpa using hne), Below.heap_setCell _ _ _ _ (by simpa using hne)]
              have BY : Hid (∀ u u', Below w.heap.size w ((w6.setCell ⟨w5.heap.size, 0, none⟩ u).setCell ⟨w5.heap.size, 1, none⟩ u')) := fun u u' => (((HFW.out _ BX.out).2.2).setCell (p := ⟨w5.heap.size, 0, none⟩) (by simp; omega) _).setCell (p := ⟨w5.heap.size, 1, none⟩) (by simp; omega) _
              have KY : Hid (∀ u u', Blk ((w6.setCell ⟨w5.heap.size, 0, none⟩ u).setCell ⟨w5.heap.size, 1, none⟩ u') w5.heap.size #[u, u'] 24) := fun u u' => (KW.out.set 0 u).set 1 u'
              clear cA cB HDE
              rcases hcase with ⟨e1, v6, rfl, ⟨a6, c6, rfl, hs6⟩⟩ | ⟨e1, rfl⟩
              · have HRU := hide (HRUN.out (.string (endC m t).2.1.name) (.slice a6 (endC m t).2.1.args.length c6))
                have HBY := hide (BY.out (.string (endC m t).2.1.name) (.slice a6 (endC m t).2.1.args.length c6))
                have HKY := hide (KY.out (.string (endC m t).2.1.name) (.slice a6 (endC m t).2.1.args.length c6))
                have HSY : Hid (Sl ((w6.setCell ⟨w5.heap.size, 0, none⟩ (.string (endC m t).2.1.name)).setCell ⟨w5.heap.size, 1, none⟩ (.slice a6 (endC m t).2.1.args.length c6)) (fun b => b < w.heap.size ∨ w5.heap.size + 1 ≤ b) a6 (endC m t).2.1.args) := by
                  have h1 : Sl w6 (fun b => b < w.heap.size ∨ w5.heap.size + 1 ≤ b) a6 (endC m t).2.1.args := hs6.mono fun b hb _ => hb.elim (fun h => Or.inl (hX' b h.1)) fun h => Or.inr (by simp at h; omega)
                  refine h1.kept fun b hb => ?_
                  have hne : b ≠ w5.heap.size := by rcases hb with hb | hb <;> omega
                  rw [Below.heap_setCell _ _ _ _ (by simpa using hne), Below.heap_setCell _ _ _ _ (by simpa using hne)]
                have HE1 := hide e1
                clear hs6 e1 HRUN BY KY
                go_wp2_with fail
                refine HRU.out.mono ?_
                rintro e w7 ⟨hb7, hcase⟩
                rw [HE1.out] at hcase
                rcases hcase with ⟨_, v7, rfl, ⟨a7, c7, rfl, hs7⟩⟩ | ⟨h9, _⟩
                · have HT2 : Hid (∀ w', Below w7.heap.size w7 w' → Calls Tryz.prog 13 #[.agg #[.string (endC m t).2.1.name, .slice a7 (endC m t).2.1.args.length c7], .int .i64 0, .agg #[.string (endC m t).2.1.name, .slice a6 (endC m t).2.1.args.length c6], .int .i64 0] w' fun e w'' => e = .returned (.bool true) ∧ Below w'.heap.size w' w'') := fun w' hb => term2_ok (endC m t).2.1 _ _ w' _ _ ⟨a7, c7, rfl, hs7.later hb⟩ ⟨a6, c6, rfl, (HSY.out.later hb7).later hb⟩
                  have HKZ := hide (HKY.out.below hb7 HKY.out.lt)
                  have B7 := hide (HBY.out.trans (hb7.mono HBY.out.size))
                  have j0 : ∀ o, (w7.alloc o).cell? ⟨w5.heap.size, 0, none⟩ = some (.string (endC m t).2.1.name) := fun o => (HKZ.out.alloc o).cell 0
                  have j1 : ∀ o, (w7.alloc o).cell? ⟨w5.heap.size, 1, none⟩ = some (.slice a6 (endC m t).2.1.args.length c6) := fun o => (HKZ.out.alloc o).cell 1
                  clear hs7 hb7
                  go_wp2_with (go_at_call 13; refine (HT2.out _ (by exact (Below.refl _ _).alloc (Nat.le_refl _) _)).mono ?_; rintro e w8 ⟨rfl, hb8⟩)
                  go_ret
                  exact ⟨rfl, (B7.out.alloc B7.out.size _).trans (hb8.mono (by have := B7.out.size; simp; omega))⟩
                · exact absurd rfl h9
              · have HF0 := hide e1
                have HRU := hide (HRUN.out (.string ⟨#[]⟩) (.slice none 0 0))
                have HBY := hide (BY.out (.string ⟨#[]⟩) (.slice none 0 0))
                have HKY := hide (KY.out (.string ⟨#[]⟩) (.slice none 0 0))
                clear e1 HRUN BY KY
                have HT2 : Hid (∀ w', Calls Tryz.prog 13 #[.agg #[.string ⟨#[]⟩, .slice none 0 0], .int .i64 (endC m t).1, .agg #[.string ⟨#[]⟩, .slice none 0 0], .int .i64 (endC m t).1] w' fun e w'' => e = .returned (.bool true) ∧ Below w'.heap.size w' w'') := fun w' => term2_err _ _ ⟨#[]⟩ none 0 0 rfl w' HF0.out
                go_wp2_with fail
                refine HRU.out.mono ?_
                rintro e w7 ⟨hb7, hcase⟩
                rcases hcase with ⟨h9, _⟩ | ⟨_, rfl⟩
                · exact absurd h9 HF0.out
                · have HKZ := hide (HKY.out.below hb7 HKY.out.lt)
                  have B7 := hide (HBY.out.trans (hb7.mono HBY.out.size))
                  have j0 : ∀ o, (w7.alloc o).cell? ⟨w5.heap.size, 0, none⟩ = some (.string ⟨#[]⟩) := fun o => (HKZ.out.alloc o).cell 0
                  have j1 : ∀ o, (w7.alloc o).cell? ⟨w5.heap.size, 1, none⟩ = some (.slice none 0 0) := fun o => (HKZ.out.alloc o).cell 1
                  clear hb7
                  go_wp2_with (go_at_call 13; refine (HT2.out _).mono ?_; rintro e w8 ⟨rfl, hb8⟩)
                  go_ret
                  exact ⟨rfl, (B7.out.alloc B7.out.size _).trans (hb8.mono (by have := B7.out.size; simp; omega))⟩
        · have hne : (combE t == 0) = false := beq_eq_false_iff_ne.2 he
          have HRE : Hid (RunE t z = combE t) := by unfold Hid RunE; rw [if_neg he]
          have HF0 := hide he
          clear he
          have BW := hide ((HB2.out).trans ((Below.refl _ _).alloc (by have := HB2.out.size; omega) (.cells #[.string ⟨#[]⟩, .slice none 0 0] 24)))
          have cA : ∀ o, (w2.alloc o).cell? ⟨w.heap.size, 0, none⟩ = some (.string t.name) := fun o => ((HFW.out _ HB2.out).1.alloc o).cell 0
          have cB : ∀ o, (w2.alloc o).cell? ⟨w.heap.size, 1, none⟩ = some (.slice a t.args.length c) := fun o => ((HFW.out _ HB2.out).1.alloc o).cell 1
          have HT2 : Hid (∀ w', Calls Tryz.prog 13 #[.agg #[.string ⟨#[]⟩, .slice none 0 0], .int .i64 (combE t), .agg #[.string ⟨#[]⟩, .slice none 0 0], .int .i64 (combE t)] w' fun e w'' => e = .returned (.bool true) ∧ Below w'.heap.size w' w'') := fun w' => term2_err _ _ ⟨#[]⟩ none 0 0 rfl w' HF0.out
          have HRN := hide (runErr_any z t _ (w2.alloc (.cells #[.string ⟨#[]⟩, .slice none 0 0] 24)) X' (HFW.out _ BW.out).2.1 (by rw [HRE.out]; exact HF0.out))
          rw [HRE.out] at HRN
          go_wp2_with fail
          refine HRN.out.mono ?_
          rintro e w3 ⟨rfl, hb3⟩
          have KW := hide ((Blk.new w2 #[.string ⟨#[]⟩, .slice none 0 0] 24).below hb3 (by simp))
          have k0 : ∀ o, (w3.alloc o).cell? ⟨w2.heap.size, 0, none⟩ = some (.string ⟨#[]⟩) := fun o => (KW.out.alloc o).cell 0
          have k1 : ∀ o, (w3.alloc o).cell? ⟨w2.heap.size, 1, none⟩ = some (.slice none 0 0) := fun o => (KW.out.alloc o).cell 1
          have B3 := hide ((HFW.out _ BW.out).2.2.trans (hb3.mono (HFW.out _ BW.out).2.2.size))
          clear hb3 HRN
          go_wp2_with (go_at_call 13; refine (HT2.out _).mono ?_; rintro e w4 ⟨rfl, hb4⟩)
          go_ret
          exact ⟨rfl, (B3.out.alloc B3.out.size _).trans (hb4.mono (by have := B3.out.size; simp; omega))⟩
      · have g1 : decide (z > 30) = true := decide_eq_true (by omega)
        have g2 : decide (z ≤ 400) = false := decide_eq_false (by omega)
        go_wp2_with fail
        refine (combMay_any t _ _ X' (by exact HV.out.later B1.out)).mono ?_
        rintro e w2 ⟨rfl, hb2⟩
        have HB2 := hide hb2
        have hz2 := hb2.size
        have T2 := (HFW.out _ hb2).1
        have c0' : w2.cell? ⟨w.heap.size, 0, none⟩ = some (.string t.name) := T2.cell 0
        have c1' : w2.cell? ⟨w.heap.size, 1, none⟩ = some (.slice a t.args.length c) := T2.cell 1
        clear hb2 T2
        by_cases he : combE t = 0
        · rw [he]
          go_wp2_with fail
          refine (size_any t _ 60 _ X' (HFW.out _ HB2.out).2.1 (by omega) (by omega)).mono ?_
          rintro e w5 ⟨rfl, hb5⟩
          have HB5 := hide (HB2.out.trans (hb5.mono hz2))
          have hz5 := HB5.out.size
          clear hb5 c0' c1'
          by_cases h60 : 60 < sizeL [t]
          · rw [show min ((sizeL [t] : Int)) (60 + 1) = 61 by omega]
            go_wp2_with fail
            go_ret
            exact ⟨rfl, (HFW.out _ HB5.out).2.2⟩
          · rw [show min ((sizeL [t] : Int)) (60 + 1) = (sizeL [t] : Int) by omega]
            have g60 : decide ((sizeL [t] : Int) > 60) = false := decide_eq_false (by omega)
            have g3 : decide (z < 0) = false := decide_eq_false (by omega)
            have g4 : decide (z > 400) = true := decide_eq_true (by omega)

            have HRE : Hid (RunE t z = 10) := by unfold Hid RunE; rw [if_pos he, if_pos (by omega)]
            have HF0 : Hid ((10 : Int) ≠ 0) := by unfold Hid; decide
            clear he

            have BW := hide ((HB5.out).trans ((Below.refl _ _).alloc (by have := HB5.out.size; omega) (.cells #[.string ⟨#[]⟩, .slice none 0 0] 24)))
            have cA : ∀ o, (w5.alloc o).cell? ⟨w.heap.size, 0, none⟩ = some (.string t.name) := fun o => ((HFW.out _ HB5.out).1.alloc o).cell 0
            have cB : ∀ o, (w5.alloc o).cell? ⟨w.heap.size, 1, none⟩ = some (.slice a t.args.length c) := fun o => ((HFW.out _ HB5.out).1.alloc o).cell 1
            have HT2 : Hid (∀ w', Calls Tryz.prog 13 #[.agg #[.string ⟨#[]⟩, .slice none 0 0], .int .i64 (10), .agg #[.string ⟨#[]⟩, .slice none 0 0], .int .i64 (10)] w' fun e w'' => e = .returned (.bool true) ∧ Below w'.heap.size w' w'') := fun w' => term2_err _ _ ⟨#[]⟩ none 0 0 rfl w' HF0.out
            have HRN := hide (runErr_any z t _ (w5.alloc (.cells #[.string ⟨#[]⟩, .slice none 0 0] 24)) X' (HFW.out _ BW.out).2.1 (by rw [HRE.out]; exact HF0.out))
            rw [HRE.out] at HRN
            go_wp2_with fail
            refine HRN.out.mono ?_
            rintro e w3 ⟨rfl, hb3⟩
            have KW := hide ((Blk.new w5 #[.string ⟨#[]⟩, .slice none 0 0] 24).below hb3 (by simp))
            have k0 : ∀ o, (w3.alloc o).cell? ⟨w5.heap.size, 0, none⟩ = some (.string ⟨#[]⟩) := fun o => (KW.out.alloc o).cell 0
            have k1 : ∀ o, (w3.alloc o).cell? ⟨w5.heap.size, 1, none⟩ = some (.slice none 0 0) := fun o => (KW.out.alloc o).cell 1
            have B3 := hide ((HFW.out _ BW.out).2.2.trans (hb3.mono (HFW.out _ BW.out).2.2.size))
            clear hb3 HRN
            go_wp2_with (go_at_call 13; refine (HT2.out _).mono ?_; rintro e w4 ⟨rfl, hb4⟩)
            go_ret
            exact ⟨rfl, (B3.out.alloc B3.out.size _).trans (hb4.mono (by have := B3.out.size; simp; omega))⟩
        · have hne : (combE t == 0) = false := beq_eq_false_iff_ne.2 he
          have HRE : Hid (RunE t z = combE t) := by unfold Hid RunE; rw [if_neg he]
          have HF0 := hide he
          clear he
          have BW := hide ((HB2.out).trans ((Below.refl _ _).alloc (by have := HB2.out.size; omega) (.cells #[.string ⟨#[]⟩, .slice none 0 0] 24)))
          have cA : ∀ o, (w2.alloc o).cell? ⟨w.heap.size, 0, none⟩ = some (.string t.name) := fun o => ((HFW.out _ HB2.out).1.alloc o).cell 0
          have cB : ∀ o, (w2.alloc o).cell? ⟨w.heap.size, 1, none⟩ = some (.slice a t.args.length c) := fun o => ((HFW.out _ HB2.out).1.alloc o).cell 1
          have HT2 : Hid (∀ w', Calls Tryz.prog 13 #[.agg #[.string ⟨#[]⟩, .slice none 0 0], .int .i64 (combE t), .agg #[.string ⟨#[]⟩, .slice none 0 0], .int .i64 (combE t)] w' fun e w'' => e = .returned (.bool true) ∧ Below w'.heap.size w' w'') := fun w' => term2_err _ _ ⟨#[]⟩ none 0 0 rfl w' HF0.out
          have HRN := hide (runErr_any z t _ (w2.alloc (.cells #[.string ⟨#[]⟩, .slice none 0 0] 24)) X' (HFW.out _ BW.out).2.1 (by rw [HRE.out]; exact HF0.out))
          rw [HRE.out] at HRN
          go_wp2_with fail
          refine HRN.out.mono ?_
          rintro e w3 ⟨rfl, hb3⟩
          have KW := hide ((Blk.new w2 #[.string ⟨#[]⟩, .slice none 0 0] 24).below hb3 (by simp))
          have k0 : ∀ o, (w3.alloc o).cell? ⟨w2.heap.size, 0, none⟩ = some (.string ⟨#[]⟩) := fun o => (KW.out.alloc o).cell 0
          have k1 : ∀ o, (w3.alloc o).cell? ⟨w2.heap.size, 1, none⟩ = some (.slice none 0 0) := fun o => (KW.out.alloc o).cell 1
          have B3 := hide ((HFW.out _ BW.out).2.2.trans (hb3.mono (HFW.out _ BW.out).2.2.size))
          clear hb3 HRN
          go_wp2_with (go_at_call 13; refine (HT2.out _).mono ?_; rintro e w4 ⟨rfl, hb4⟩)
          go_ret
          exact ⟨rfl, (B3.out.alloc B3.out.size _).trans (hb4.mono (by have := B3.out.size; simp; omega))⟩
end Go.Proofs.YtcdabjekppddjaaGreatDoor
