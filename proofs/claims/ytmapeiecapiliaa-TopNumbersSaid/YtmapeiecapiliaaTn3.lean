/- Walks: the law TopNumbers. -/
import Derived.Test.YtmapeiecapiliaaZTopNumbersOwn
import Derived.Deep.RegionHeld3
import Derived.Deep.DeepCutAuto
namespace Go.Proofs.Ytmapeiecapiliaa
open Go.RowKit
set_option linter.unusedSimpArgs false
set_option linter.unusedVariables false
set_option maxRecDepth 8000

theorem pow_small {m j : Nat} (hm : m < 5) (hj : j ≤ 3) : m ^ j ≤ 64 := by
  have h1 : m ^ j ≤ 4 ^ j := Nat.pow_le_pow_left (by omega) j
  have h2 : 4 ^ j ≤ 4 ^ 3 := Nat.pow_le_pow_right (by omega) hj
  omega
set_option maxHeartbeats 40000000 in
theorem topNumbers_any (y1 y2 : Int) (hy1 : -9223372036854775808 ≤ y1 ∧ y1 ≤ 9223372036854775807) (hy2 : -9223372036854775808 ≤ y2 ∧ y2 ≤ 9223372036854775807) (w : World) :
    Calls Try.prog 3 #[.int .i64 y1, .int .i64 y2] w fun e w' => e = .returned (.bool true) ∧ Below w.heap.size w w' := by
  go_enter Try.func3, Try.ntmps3
  go_wp2_with fail
  refine (pickK_any _ 5 (by decide) (by decide) hy1 _).mono ?_
  rintro e w' ⟨kA, rfl, hkA, hw'⟩
  rw [hw']
  clear hw' w'
  go_wp2_with fail
  refine (pickK_any _ 4 (by decide) (by decide) hy2 _).mono ?_
  rintro e w' ⟨kB, rfl, hkB, hw'⟩
  rw [hw']
  clear hw' w'
  have HKA : Hid (kA < 5) := hkA
  have HKB : Hid (kB < 5) := by unfold Hid; omega
  have HKB4 : Hid (kB < 4) := hkB
  go_wp2_with fail
  refine (numX_any kA HKA.out _).mono ?_
  rintro e wa ⟨aA, cA, rfl, hsA, hba⟩
  have KA : Hid (Blk (wa.alloc (.cells #[.int .i64 2, .int .i64 0, .slice aA 1 cA] 25)) wa.heap.size #[.int .i64 2, .int .i64 0, .slice aA 1 cA] 25) := Blk.new _ _ _
  have SA := hide (hsA.later ((Below.refl _ _).alloc (Nat.le_refl _) (.cells #[.int .i64 2, .int .i64 0, .slice aA 1 cA] 25)))
  have BA := hide (hba.alloc hba.size (.cells #[.int .i64 2, .int .i64 0, .slice aA 1 cA] 25))
  clear hsA hba
  go_wp2_with fail
  generalize (wa.alloc (.cells #[.int .i64 2, .int .i64 0, .slice aA 1 cA] 25)) = wb at *
  generalize wa.heap.size = PA at *
  refine (numX_any kB HKB.out _).mono ?_
  rintro e wc ⟨aB, cB, rfl, hsB, hbb⟩
  have hbb2 : Below wb.heap.size wb (wc.alloc (.cells #[.int .i64 2, .int .i64 0, .slice aB 1 cB] 25)) := hbb.alloc hbb.size _
  have KA := hide (KA.out.below hbb2 KA.out.lt)
  have SA := hide (SA.out.later hbb2)
  have KB : Hid (Blk (wc.alloc (.cells #[.int .i64 2, .int .i64 0, .slice aB 1 cB] 25)) wc.heap.size #[.int .i64 2, .int .i64 0, .slice aB 1 cB] 25) := Blk.new _ _ _
  have SB := hide (hsB.later ((Below.refl _ _).alloc (Nat.le_refl _) (.cells #[.int .i64 2, .int .i64 0, .slice aB 1 cB] 25)))
  have BA := hide (BA.out.trans (hbb2.mono BA.out.size))
  clear hsB hbb hbb2
  go_upto_region 7 with fail
  generalize (wc.alloc (.cells #[.int .i64 2, .int .i64 0, .slice aB 1 cB] 25)) = wA at *
  generalize wc.heap.size = PB at *
  have HOK : Hid ((plusX kA kB).ok 0 = true) := (t4X kA HKA.out kB HKB4.out).1.1
  go_cut [9] (fun s9 wd => MkX (plusX kA kB) wA s9 wd)
  case first =>
    clear hkA hkB
    have KP : Hid (∀ w', Below wA.heap.size wA w' → w'.cell? ⟨PA, 0, none⟩ = some (.int .i64 2) ∧ w'.cell? ⟨PA, 1, none⟩ = some (.int .i64 0) ∧ w'.cell? ⟨PA, 2, none⟩ = some (.slice aA 1 cA) ∧ w'.cell? ⟨PB, 0, none⟩ = some (.int .i64 2) ∧ w'.cell? ⟨PB, 1, none⟩ = some (.int .i64 0) ∧ w'.cell? ⟨PB, 2, none⟩ = some (.slice aB 1 cB)) := fun w' hb => ⟨(KA.out.below hb KA.out.lt).cell 0, (KA.out.below hb KA.out.lt).cell 1, (KA.out.below hb KA.out.lt).cell 2, (KB.out.below hb KB.out.lt).cell 0, (KB.out.below hb KB.out.lt).cell 1, (KB.out.below hb KB.out.lt).cell 2⟩
    have k0 : Hid (Below wA.heap.size wA wA.drew) := (Below.refl _ _).drew
    refine wp_region_held_drew (S := fun w' => w'.cell? ⟨PA, 0, none⟩ = some (.int .i64 2) ∧ w'.cell? ⟨PA, 1, none⟩ = some (.int .i64 0) ∧ w'.cell? ⟨PA, 2, none⟩ = some (.slice aA 1 cA) ∧ w'.cell? ⟨PB, 0, none⟩ = some (.int .i64 2) ∧ w'.cell? ⟨PB, 1, none⟩ = some (.int .i64 0) ∧ w'.cell? ⟨PB, 2, none⟩ = some (.slice aB 1 cB)) (by kernel_rfl) (KP.out _ k0.out) (fun hHeld => ?_)
    refine wpAnyH_take (i := 0) (v := ?_) rfl (by kernel_rfl) (by kernel_rfl) (by kernel_rfl) (fun _ _ _ h => h) (Or.inl ⟨by rfl, ?_⟩) (by assumption) ?_
    rotate_left
    · intro w' hSw
      have e0 := hSw.1
      have e1 := hSw.2.1
      have e2 := hSw.2.2.1
      go_simp <;> with_reducible rfl
    try simp only [Act.put, List.setIfInBounds_toArray, List.set_cons_zero, List.set_cons_succ, List.getElem_toArray, List.getElem_cons_succ, List.getElem_cons_zero]
    refine wpAnyH_take (i := 4) (v := ?_) rfl (by kernel_rfl) (by kernel_rfl) (by kernel_rfl) (fun _ _ _ h => h) (Or.inl ⟨by rfl, ?_⟩) (by assumption) ?_
    rotate_left
    · intro w' hSw
      have e0 := hSw.2.2.2.1
      have e1 := hSw.2.2.2.2.1
      have e2 := hSw.2.2.2.2.2
      go_simp <;> with_reducible rfl
    try simp only [Act.put, List.setIfInBounds_toArray, List.set_cons_zero, List.set_cons_succ, List.getElem_toArray, List.getElem_cons_succ, List.getElem_cons_zero]
    refine wpAnyH_ready (rs := [1, 13]) (by kernel_rfl) (by simp) ?_
    refine AllReadyH.cons rfl (fun K hK => ?_) (AllReadyH.cons rfl (fun K hK => ?_) AllReadyH.nil)
    · go_simp
      go_at_call 8
      refine (hgN_any kA 2 HKA.out (by omega) aA cA _ (fun _ => True) (by exact SA.out.later k0.out)).mono ?_
      rintro e w1 ⟨a1, c1, rfl, SV1', hb⟩
      have SV1 := hide SV1'
      have hbb : Below (wA.drew).heap.size (wA.drew) w1 := hb
      have k1 := hide (k0.out.trans (hbb.mono k0.out.size))
      clear hb hbb
      go_simp
      refine hK.out _ _ (by exact KP.out _ k1.out) (fun hHeld => ?_)
      clear hK K
      try simp only [Act.put, List.setIfInBounds_toArray, List.set_cons_zero, List.set_cons_succ, List.getElem_toArray, List.getElem_cons_succ, List.getElem_cons_zero]
      refine wpAnyH_ready (rs := [2, 13]) (by kernel_rfl) (by simp) ?_
      refine AllReadyH.cons rfl (fun K hK => ?_) (AllReadyH.cons rfl (fun K hK => ?_) AllReadyH.nil)
      · go_simp
        go_at_call 9
        refine (varR_any 1 _).mono ?_
        rintro e w2 ⟨rfl, hb⟩
        have hbb : Below (w1).heap.size (w1) w2 := hb
        have k2 := hide (k1.out.trans (hbb.mono k1.out.size))
        have SV1 := hide (SV1.out.later hbb)
        clear hb hbb
        go_simp
        refine hK.out _ _ (by exact KP.out _ k2.out) (fun hHeld => ?_)
        clear hK K
        try simp only [Act.put, List.setIfInBounds_toArray, List.set_cons_zero, List.set_cons_succ, List.getElem_toArray, List.getElem_cons_succ, List.getElem_cons_zero]
        refine wpAnyH_ready (rs := [3, 13]) (by kernel_rfl) (by simp) ?_
        refine AllReadyH.cons rfl (fun K hK => ?_) (AllReadyH.cons rfl (fun K hK => ?_) AllReadyH.nil)
        · go_simp
          go_at_call 7
          refine (appX_any (LX.l (LX.l ((LX.it kA).hig 2 2))) (LX.v 1) _ _ _ (by exact ⟨a1, c1, rfl, SV1.out⟩) (by exact ⟨none, 0, rfl, ⟨by simp [LX.m], Or.inl rfl⟩⟩)).mono ?_
          rintro e w3 ⟨a3, c3, rfl, SV3', hb⟩
          have SV3 := hide SV3'
          have hbb : Below (w2).heap.size (w2) w3 := hb
          have k3 := hide (k2.out.trans (hbb.mono k2.out.size))
          clear hb hbb
          go_simp
          refine hK.out _ _ (by exact KP.out _ k3.out) (fun hHeld => ?_)
          clear hK K
          try simp only [Act.put, List.setIfInBounds_toArray, List.set_cons_zero, List.set_cons_succ, List.getElem_toArray, List.getElem_cons_succ, List.getElem_cons_zero]
          refine wpAnyH_ready (rs := [5, 13]) (by kernel_rfl) (by simp) ?_
          refine AllReadyH.cons rfl (fun K hK => ?_) (AllReadyH.cons rfl (fun K hK => ?_) AllReadyH.nil)
          · go_simp
            go_at_call 8
            refine (hgN_any kB 2 HKB.out (by omega) aB cB _ (fun _ => True) (by exact SB.out.later k3.out)).mono ?_
            rintro e w4 ⟨a4, c4, rfl, SV4', hb⟩
            have SV4 := hide SV4'
            have hbb : Below (w3).heap.size (w3) w4 := hb
            have k4 := hide (k3.out.trans (hbb.mono k3.out.size))
            have SV3 := hide (SV3.out.later hbb)
            clear hb hbb
            go_simp
            refine hK.out _ _ (by exact KP.out _ k4.out) (fun hHeld => ?_)
            clear hK K
            try simp only [Act.put, List.setIfInBounds_toArray, List.set_cons_zero, List.set_cons_succ, List.getElem_toArray, List.getElem_cons_succ, List.getElem_cons_zero]
            refine wpAnyH_ready (rs := [6, 13]) (by kernel_rfl) (by simp) ?_
            refine AllReadyH.cons rfl (fun K hK => ?_) (AllReadyH.cons rfl (fun K hK => ?_) AllReadyH.nil)
            · go_simp
              go_at_call 9
              refine (varR_any 1 _).mono ?_
              rintro e w5 ⟨rfl, hb⟩
              have hbb : Below (w4).heap.size (w4) w5 := hb
              have k5 := hide (k4.out.trans (hbb.mono k4.out.size))
              have SV3 := hide (SV3.out.later hbb)
              have SV4 := hide (SV4.out.later hbb)
              clear hb hbb
              go_simp
              refine hK.out _ _ (by exact KP.out _ k5.out) (fun hHeld => ?_)
              clear hK K
              try simp only [Act.put, List.setIfInBounds_toArray, List.set_cons_zero, List.set_cons_succ, List.getElem_toArray, List.getElem_cons_succ, List.getElem_cons_zero]
              refine wpAnyH_ready (rs := [7, 13]) (by kernel_rfl) (by simp) ?_
              refine AllReadyH.cons rfl (fun K hK => ?_) (AllReadyH.cons rfl (fun K hK => ?_) AllReadyH.nil)
              · go_simp
                go_at_call 7
                refine (appX_any (LX.l (LX.l ((LX.it kB).hig 2 2))) (LX.v 1) _ _ _ (by exact ⟨a4, c4, rfl, SV4.out⟩) (by exact ⟨none, 0, rfl, ⟨by simp [LX.m], Or.inl rfl⟩⟩)).mono ?_
                rintro e w6 ⟨a6, c6, rfl, SV6', hb⟩
                have SV6 := hide SV6'
                have hbb : Below (w5).heap.size (w5) w6 := hb
                have k6 := hide (k5.out.trans (hbb.mono k5.out.size))
                have SV3 := hide (SV3.out.later hbb)
                clear hb hbb
                go_simp
                refine hK.out _ _ (by exact KP.out _ k6.out) (fun hHeld => ?_)
                clear hK K
                try simp only [Act.put, List.setIfInBounds_toArray, List.set_cons_zero, List.set_cons_succ, List.getElem_toArray, List.getElem_cons_succ, List.getElem_cons_zero]
                refine wpAnyH_ready (rs := [8, 13]) (by kernel_rfl) (by simp) ?_
                refine AllReadyH.cons rfl (fun K hK => ?_) (AllReadyH.cons rfl (fun K hK => ?_) AllReadyH.nil)
                · go_simp
                  go_at_call 9
                  refine (varR_any 0 _).mono ?_
                  rintro e w7 ⟨rfl, hb⟩
                  have hbb : Below (w6).heap.size (w6) w7 := hb
                  have k7 := hide (k6.out.trans (hbb.mono k6.out.size))
                  have SV3 := hide (SV3.out.later hbb)
                  have SV6 := hide (SV6.out.later hbb)
                  clear hb hbb
                  go_simp
                  refine hK.out _ _ (by exact KP.out _ k7.out) (fun hHeld => ?_)
                  clear hK K
                  try simp only [Act.put, List.setIfInBounds_toArray, List.set_cons_zero, List.set_cons_succ, List.getElem_toArray, List.getElem_cons_succ, List.getElem_cons_zero]
                  refine wpAnyH_ready (rs := [9, 13]) (by kernel_rfl) (by simp) ?_
                  refine AllReadyH.cons rfl (fun K hK => ?_) (AllReadyH.cons rfl (fun K hK => ?_) AllReadyH.nil)
                  · go_simp
                    go_at_call 7
                    refine (appX_any (LX.a (LX.l (LX.l ((LX.it kB).hig 2 2))) (LX.v 1)) (LX.v 0) _ _ _ (by exact ⟨a6, c6, rfl, SV6.out⟩) (by exact ⟨none, 0, rfl, ⟨by simp [LX.m], Or.inl rfl⟩⟩)).mono ?_
                    rintro e w8 ⟨a8, c8, rfl, SV8', hb⟩
                    have SV8 := hide SV8'
                    have hbb : Below (w7).heap.size (w7) w8 := hb
                    have k8 := hide (k7.out.trans (hbb.mono k7.out.size))
                    have SV3 := hide (SV3.out.later hbb)
                    clear hb hbb
                    go_simp
                    refine hK.out _ _ (by exact KP.out _ k8.out) (fun hHeld => ?_)
                    clear hK K
                    try simp only [Act.put, List.setIfInBounds_toArray, List.set_cons_zero, List.set_cons_succ, List.getElem_toArray, List.getElem_cons_succ, List.getElem_cons_zero]
                    refine wpAnyH_ready (rs := [10, 13]) (by kernel_rfl) (by simp) ?_
                    refine AllReadyH.cons rfl (fun K hK => ?_) (AllReadyH.cons rfl (fun K hK => ?_) AllReadyH.nil)
                    · go_simp
                      go_at_call 7
                      refine (appX_any (LX.a (LX.l (LX.l ((LX.it kA).hig 2 2))) (LX.v 1)) (LX.a (LX.a (LX.l (LX.l ((LX.it kB).hig 2 2))) (LX.v 1)) (LX.v 0)) _ _ _ (by exact ⟨a3, c3, rfl, SV3.out⟩) (by exact ⟨a8, c8, rfl, SV8.out⟩)).mono ?_
                      rintro e w9 ⟨a9, c9, rfl, SV9', hb⟩
                      have SV9 := hide SV9'
                      have hbb : Below (w8).heap.size (w8) w9 := hb
                      have k9 := hide (k8.out.trans (hbb.mono k8.out.size))
                      clear hb hbb
                      go_simp
                      refine hK.out _ _ (by exact KP.out _ k9.out) (fun hHeld => ?_)
                      clear hK K
                      try simp only [Act.put, List.setIfInBounds_toArray, List.set_cons_zero, List.set_cons_succ, List.getElem_toArray, List.getElem_cons_succ, List.getElem_cons_zero]
                      refine wpAnyH_ready (rs := [11, 13]) (by kernel_rfl) (by simp) ?_
                      refine AllReadyH.cons rfl (fun K hK => ?_) (AllReadyH.cons rfl (fun K hK => ?_) AllReadyH.nil)
                      · go_simp
                        go_at_call 6
                        refine (funX_any (LX.a (LX.a (LX.l (LX.l ((LX.it kA).hig 2 2))) (LX.v 1)) (LX.a (LX.a (LX.l (LX.l ((LX.it kB).hig 2 2))) (LX.v 1)) (LX.v 0))) _ _ (by exact ⟨a9, c9, rfl, SV9.out⟩)).mono ?_
                        rintro e w10 ⟨a10, c10, rfl, SV10', hb⟩
                        have SV10 := hide SV10'
                        have hbb : Below (w9).heap.size (w9) w10 := hb
                        have k10 := hide (k9.out.trans (hbb.mono k9.out.size))
                        clear hb hbb
                        go_simp
                        refine hK.out _ _ (by exact KP.out _ k10.out) (fun hHeld => ?_)
                        clear hK K
                        try simp only [Act.put, List.setIfInBounds_toArray, List.set_cons_zero, List.set_cons_succ, List.getElem_toArray, List.getElem_cons_succ, List.getElem_cons_zero]
                        refine wpAnyH_ready (rs := [12, 13]) (by kernel_rfl) (by simp) ?_
                        refine AllReadyH.cons rfl (fun K hK => ?_) (AllReadyH.cons rfl (fun K hK => ?_) AllReadyH.nil)
                        · go_simp
                          go_at_call 6
                          refine (funX_any (LX.l (LX.a (LX.a (LX.l (LX.l ((LX.it kA).hig 2 2))) (LX.v 1)) (LX.a (LX.a (LX.l (LX.l ((LX.it kB).hig 2 2))) (LX.v 1)) (LX.v 0)))) _ _ (by exact ⟨a10, c10, rfl, SV10.out⟩)).mono ?_
                          rintro e w11 ⟨a11, c11, rfl, SV11', hb⟩
                          have SV11 := hide SV11'
                          have hbb : Below (w10).heap.size (w10) w11 := hb
                          have k11 := hide (k10.out.trans (hbb.mono k10.out.size))
                          clear hb hbb
                          go_simp
                          refine hK.out _ _ (by exact KP.out _ k11.out) (fun hHeld => ?_)
                          clear hK K
                          try simp only [Act.put, List.setIfInBounds_toArray, List.set_cons_zero, List.set_cons_succ, List.getElem_toArray, List.getElem_cons_succ, List.getElem_cons_zero]
                          refine wpAnyH_ready (rs := [13]) (by kernel_rfl) (by simp) ?_
                          refine AllReadyH.cons rfl (fun K hK => ?_) AllReadyH.nil
                          go_simp
                          refine hK.out _ _ (by exact KP.out _ (k11.out.alloc k11.out.size _)) (fun hHeld => ?_)
                          clear hK K
                          try simp only [Act.put, List.setIfInBounds_toArray, List.set_cons_zero, List.set_cons_succ, List.getElem_toArray, List.getElem_cons_succ, List.getElem_cons_zero]
                          refine wpAnyH_ready (rs := [14]) (by kernel_rfl) (by simp) ?_
                          refine AllReadyH.cons rfl (fun K hK => ?_) AllReadyH.nil
                          go_simp
                          refine hK.out _ _ (by exact KP.out _ (k11.out.alloc k11.out.size _)) (fun hHeld => ?_)
                          clear hK K
                          try simp only [Act.put, List.setIfInBounds_toArray, List.set_cons_zero, List.set_cons_succ, List.getElem_toArray, List.getElem_cons_succ, List.getElem_cons_zero]
                          refine wpAnyH_done (by kernel_rfl) ?_ _
                          go_wp2_with fail
                          go_meet
                          exact mkX_last (t := plusX kA kB) k11.out SV11.out
                        · go_simp
                          refine hK.out _ _ (by exact KP.out _ (k10.out.alloc k10.out.size _)) (fun hHeld => ?_)
                          clear hK K
                          try simp only [Act.put, List.setIfInBounds_toArray, List.set_cons_zero, List.set_cons_succ, List.getElem_toArray, List.getElem_cons_succ, List.getElem_cons_zero]
                          refine wpAnyH_ready (rs := [12]) (by kernel_rfl) (by simp) ?_
                          refine AllReadyH.cons rfl (fun K hK => ?_) AllReadyH.nil
                          go_simp
                          go_at_call 6
                          refine (funX_any (LX.l (LX.a (LX.a (LX.l (LX.l ((LX.it kA).hig 2 2))) (LX.v 1)) (LX.a (LX.a (LX.l (LX.l ((LX.it kB).hig 2 2))) (LX.v 1)) (LX.v 0)))) _ _ (by exact ⟨a10, c10, rfl, SV10.out.later ((Below.refl _ _).alloc (Nat.le_refl _) _)⟩)).mono ?_
                          rintro e w11 ⟨a11, c11, rfl, SV11', hb⟩
                          have SV11 := hide SV11'
                          have hbb : Below (w10).heap.size (w10) w11 := ((Below.refl _ _).alloc (Nat.le_refl _) _).trans (hb.mono (by simp))
                          have NB := hide ((Blk.new (w10) #[.int .i64 0, .int .i64 0, .slice none 0 0] 25).below hb (by simp))
                          have k11 := hide (k10.out.trans (hbb.mono k10.out.size))
                          clear hb hbb
                          go_simp
                          refine hK.out _ _ (by exact KP.out _ k11.out) (fun hHeld => ?_)
                          clear hK K
                          try simp only [Act.put, List.setIfInBounds_toArray, List.set_cons_zero, List.set_cons_succ, List.getElem_toArray, List.getElem_cons_succ, List.getElem_cons_zero]
                          have q0 := NB.out.cell 0
                          have q1 := NB.out.cell 1
                          have q2 := NB.out.cell 2
                          have qf := NB.out.frozen
                          simp only [List.getElem?_toArray, List.getElem?_cons_succ, List.getElem?_cons_zero] at q0 q1 q2
                          refine wpAnyH_ready (rs := [14]) (by kernel_rfl) (by simp) ?_
                          refine AllReadyH.cons rfl (fun K hK => ?_) AllReadyH.nil
                          go_simp
                          refine hK.out _ _ (by exact KP.out _ (bl_setA k11.out _ (by have := k10.out.size; first | omega | exact this) _ _ _)) (fun hHeld => ?_)
                          clear hK K
                          try simp only [Act.put, List.setIfInBounds_toArray, List.set_cons_zero, List.set_cons_succ, List.getElem_toArray, List.getElem_cons_succ, List.getElem_cons_zero]
                          refine wpAnyH_done (by kernel_rfl) ?_ _
                          go_wp2_with fail
                          go_meet
                          exact mkX_first (t := plusX kA kB) HOK.out (by have := k10.out.size; first | omega | exact this) NB.out k11.out SV11.out
                      · go_simp
                        refine hK.out _ _ (by exact KP.out _ (k9.out.alloc k9.out.size _)) (fun hHeld => ?_)
                        clear hK K
                        try simp only [Act.put, List.setIfInBounds_toArray, List.set_cons_zero, List.set_cons_succ, List.getElem_toArray, List.getElem_cons_succ, List.getElem_cons_zero]
                        refine wpAnyH_ready (rs := [11]) (by kernel_rfl) (by simp) ?_
                        refine AllReadyH.cons rfl (fun K hK => ?_) AllReadyH.nil
                        go_simp
                        go_at_call 6
                        refine (funX_any (LX.a (LX.a (LX.l (LX.l ((LX.it kA).hig 2 2))) (LX.v 1)) (LX.a (LX.a (LX.l (LX.l ((LX.it kB).hig 2 2))) (LX.v 1)) (LX.v 0))) _ _ (by exact ⟨a9, c9, rfl, SV9.out.later ((Below.refl _ _).alloc (Nat.le_refl _) _)⟩)).mono ?_
                        rintro e w10 ⟨a10, c10, rfl, SV10', hb⟩
                        have SV10 := hide SV10'
                        have hbb : Below (w9).heap.size (w9) w10 := ((Below.refl _ _).alloc (Nat.le_refl _) _).trans (hb.mono (by simp))
                        have NB := hide ((Blk.new (w9) #[.int .i64 0, .int .i64 0, .slice none 0 0] 25).below hb (by simp))
                        have k10 := hide (k9.out.trans (hbb.mono k9.out.size))
                        clear hb hbb
                        go_simp
                        refine hK.out _ _ (by exact KP.out _ k10.out) (fun hHeld => ?_)
                        clear hK K
                        try simp only [Act.put, List.setIfInBounds_toArray, List.set_cons_zero, List.set_cons_succ, List.getElem_toArray, List.getElem_cons_succ, List.getElem_cons_zero]
                        refine wpAnyH_ready (rs := [12]) (by kernel_rfl) (by simp) ?_
                        refine AllReadyH.cons rfl (fun K hK => ?_) AllReadyH.nil
                        go_simp
                        go_at_call 6
                        refine (funX_any (LX.l (LX.a (LX.a (LX.l (LX.l ((LX.it kA).hig 2 2))) (LX.v 1)) (LX.a (LX.a (LX.l (LX.l ((LX.it kB).hig 2 2))) (LX.v 1)) (LX.v 0)))) _ _ (by exact ⟨a10, c10, rfl, SV10.out⟩)).mono ?_
                        rintro e w11 ⟨a11, c11, rfl, SV11', hb⟩
                        have SV11 := hide SV11'
                        have hbb : Below (w10).heap.size (w10) w11 := hb
                        have k11 := hide (k10.out.trans (hbb.mono k10.out.size))
                        have NB := hide (NB.out.below hbb NB.out.lt)
                        clear hb hbb
                        go_simp
                        refine hK.out _ _ (by exact KP.out _ k11.out) (fun hHeld => ?_)
                        clear hK K
                        try simp only [Act.put, List.setIfInBounds_toArray, List.set_cons_zero, List.set_cons_succ, List.getElem_toArray, List.getElem_cons_succ, List.getElem_cons_zero]
                        have q0 := NB.out.cell 0
                        have q1 := NB.out.cell 1
                        have q2 := NB.out.cell 2
                        have qf := NB.out.frozen
                        simp only [List.getElem?_toArray, List.getElem?_cons_succ, List.getElem?_cons_zero] at q0 q1 q2
                        refine wpAnyH_ready (rs := [14]) (by kernel_rfl) (by simp) ?_
                        refine AllReadyH.cons rfl (fun K hK => ?_) AllReadyH.nil
                        go_simp
                        refine hK.out _ _ (by exact KP.out _ (bl_setA k11.out _ (by have := k9.out.size; first | omega | exact this) _ _ _)) (fun hHeld => ?_)
                        clear hK K
                        try simp only [Act.put, List.setIfInBounds_toArray, List.set_cons_zero, List.set_cons_succ, List.getElem_toArray, List.getElem_cons_succ, List.getElem_cons_zero]
                        refine wpAnyH_done (by kernel_rfl) ?_ _
                        go_wp2_with fail
                        go_meet
                        exact mkX_first (t := plusX kA kB) HOK.out (by have := k9.out.size; first | omega | exact this) NB.out k11.out SV11.out
                    · go_simp
                      refine hK.out _ _ (by exact KP.out _ (k8.out.alloc k8.out.size _)) (fun hHeld => ?_)
                      clear hK K
                      try simp only [Act.put, List.setIfInBounds_toArray, List.set_cons_zero, List.set_cons_succ, List.getElem_toArray, List.getElem_cons_succ, List.getElem_cons_zero]
                      refine wpAnyH_ready (rs := [10]) (by kernel_rfl) (by simp) ?_
                      refine AllReadyH.cons rfl (fun K hK => ?_) AllReadyH.nil
                      go_simp
                      go_at_call 7
                      refine (appX_any (LX.a (LX.l (LX.l ((LX.it kA).hig 2 2))) (LX.v 1)) (LX.a (LX.a (LX.l (LX.l ((LX.it kB).hig 2 2))) (LX.v 1)) (LX.v 0)) _ _ _ (by exact ⟨a3, c3, rfl, SV3.out.later ((Below.refl _ _).alloc (Nat.le_refl _) _)⟩) (by exact ⟨a8, c8, rfl, SV8.out.later ((Below.refl _ _).alloc (Nat.le_refl _) _)⟩)).mono ?_
                      rintro e w9 ⟨a9, c9, rfl, SV9', hb⟩
                      have SV9 := hide SV9'
                      have hbb : Below (w8).heap.size (w8) w9 := ((Below.refl _ _).alloc (Nat.le_refl _) _).trans (hb.mono (by simp))
                      have NB := hide ((Blk.new (w8) #[.int .i64 0, .int .i64 0, .slice none 0 0] 25).below hb (by simp))
                      have k9 := hide (k8.out.trans (hbb.mono k8.out.size))
                      clear hb hbb
                      go_simp
                      refine hK.out _ _ (by exact KP.out _ k9.out) (fun hHeld => ?_)
                      clear hK K
                      try simp only [Act.put, List.setIfInBounds_toArray, List.set_cons_zero, List.set_cons_succ, List.getElem_toArray, List.getElem_cons_succ, List.getElem_cons_zero]
                      refine wpAnyH_ready (rs := [11]) (by kernel_rfl) (by simp) ?_
                      refine AllReadyH.cons rfl (fun K hK => ?_) AllReadyH.nil
                      go_simp
                      go_at_call 6
                      refine (funX_any (LX.a (LX.a (LX.l (LX.l ((LX.it kA).hig 2 2))) (LX.v 1)) (LX.a (LX.a (LX.l (LX.l ((LX.it kB).hig 2 2))) (LX.v 1)) (LX.v 0))) _ _ (by exact ⟨a9, c9, rfl, SV9.out⟩)).mono ?_
                      rintro e w10 ⟨a10, c10, rfl, SV10', hb⟩
                      have SV10 := hide SV10'
                      have hbb : Below (w9).heap.size (w9) w10 := hb
                      have k10 := hide (k9.out.trans (hbb.mono k9.out.size))
                      have NB := hide (NB.out.below hbb NB.out.lt)
                      clear hb hbb
                      go_simp
                      refine hK.out _ _ (by exact KP.out _ k10.out) (fun hHeld => ?_)
                      clear hK K
                      try simp only [Act.put, List.setIfInBounds_toArray, List.set_cons_zero, List.set_cons_succ, List.getElem_toArray, List.getElem_cons_succ, List.getElem_cons_zero]
                      refine wpAnyH_ready (rs := [12]) (by kernel_rfl) (by simp) ?_
                      refine AllReadyH.cons rfl (fun K hK => ?_) AllReadyH.nil
                      go_simp
                      go_at_call 6
                      refine (funX_any (LX.l (LX.a (LX.a (LX.l (LX.l ((LX.it kA).hig 2 2))) (LX.v 1)) (LX.a (LX.a (LX.l (LX.l ((LX.it kB).hig 2 2))) (LX.v 1)) (LX.v 0)))) _ _ (by exact ⟨a10, c10, rfl, SV10.out⟩)).mono ?_
                      rintro e w11 ⟨a11, c11, rfl, SV11', hb⟩
                      have SV11 := hide SV11'
                      have hbb : Below (w10).heap.size (w10) w11 := hb
                      have k11 := hide (k10.out.trans (hbb.mono k10.out.size))
                      have NB := hide (NB.out.below hbb NB.out.lt)
                      clear hb hbb
                      go_simp
                      refine hK.out _ _ (by exact KP.out _ k11.out) (fun hHeld => ?_)
                      clear hK K
                      try simp only [Act.put, List.setIfInBounds_toArray, List.set_cons_zero, List.set_cons_succ, List.getElem_toArray, List.getElem_cons_succ, List.getElem_cons_zero]
                      have q0 := NB.out.cell 0
                      have q1 := NB.out.cell 1
                      have q2 := NB.out.cell 2
                      have qf := NB.out.frozen
                      simp only [List.getElem?_toArray, List.getElem?_cons_succ, List.getElem?_cons_zero] at q0 q1 q2
                      refine wpAnyH_ready (rs := [14]) (by kernel_rfl) (by simp) ?_
                      refine AllReadyH.cons rfl (fun K hK => ?_) AllReadyH.nil
                      go_simp
                      refine hK.out _ _ (by exact KP.out _ (bl_setA k11.out _ (by have := k8.out.size; first | omega | exact this) _ _ _)) (fun hHeld => ?_)
                      clear hK K
                      try simp only [Act.put, List.setIfInBounds_toArray, List.set_cons_zero, List.set_cons_succ, List.getElem_toArray, List.getElem_cons_succ, List.getElem_cons_zero]
                      refine wpAnyH_done (by kernel_rfl) ?_ _
                      go_wp2_with fail
                      go_meet
                      exact mkX_first (t := plusX kA kB) HOK.out (by have := k8.out.size; first | omega | exact this) NB.out k11.out SV11.out
                  · go_simp
                    refine hK.out _ _ (by exact KP.out _ (k7.out.alloc k7.out.size _)) (fun hHeld => ?_)
                    clear hK K
                    try simp only [Act.put, List.setIfInBounds_toArray, List.set_cons_zero, List.set_cons_succ, List.getElem_toArray, List.getElem_cons_succ, List.getElem_cons_zero]
                    refine wpAnyH_ready (rs := [9]) (by kernel_rfl) (by simp) ?_
                    refine AllReadyH.cons rfl (fun K hK => ?_) AllReadyH.nil
                    go_simp
                    go_at_call 7
                    refine (appX_any (LX.a (LX.l (LX.l ((LX.it kB).hig 2 2))) (LX.v 1)) (LX.v 0) _ _ _ (by exact ⟨a6, c6, rfl, SV6.out.later ((Below.refl _ _).alloc (Nat.le_refl _) _)⟩) (by exact ⟨none, 0, rfl, ⟨by simp [LX.m], Or.inl rfl⟩⟩)).mono ?_
                    rintro e w8 ⟨a8, c8, rfl, SV8', hb⟩
                    have SV8 := hide SV8'
                    have hbb : Below (w7).heap.size (w7) w8 := ((Below.refl _ _).alloc (Nat.le_refl _) _).trans (hb.mono (by simp))
                    have NB := hide ((Blk.new (w7) #[.int .i64 0, .int .i64 0, .slice none 0 0] 25).below hb (by simp))
                    have k8 := hide (k7.out.trans (hbb.mono k7.out.size))
                    have SV3 := hide (SV3.out.later hbb)
                    clear hb hbb
                    go_simp
                    refine hK.out _ _ (by exact KP.out _ k8.out) (fun hHeld => ?_)
                    clear hK K
                    try simp only [Act.put, List.setIfInBounds_toArray, List.set_cons_zero, List.set_cons_succ, List.getElem_toArray, List.getElem_cons_succ, List.getElem_cons_zero]
                    refine wpAnyH_ready (rs := [10]) (by kernel_rfl) (by simp) ?_
                    refine AllReadyH.cons rfl (fun K hK => ?_) AllReadyH.nil
                    go_simp
                    go_at_call 7
                    refine (appX_any (LX.a (LX.l (LX.l ((LX.it kA).hig 2 2))) (LX.v 1)) (LX.a (LX.a (LX.l (LX.l ((LX.it kB).hig 2 2))) (LX.v 1)) (LX.v 0)) _ _ _ (by exact ⟨a3, c3, rfl, SV3.out⟩) (by exact ⟨a8, c8, rfl, SV8.out⟩)).mono ?_
                    rintro e w9 ⟨a9, c9, rfl, SV9', hb⟩
                    have SV9 := hide SV9'
                    have hbb : Below (w8).heap.size (w8) w9 := hb
                    have k9 := hide (k8.out.trans (hbb.mono k8.out.size))
                    have NB := hide (NB.out.below hbb NB.out.lt)
                    clear hb hbb
                    go_simp
                    refine hK.out _ _ (by exact KP.out _ k9.out) (fun hHeld => ?_)
                    clear hK K
                    try simp only [Act.put, List.setIfInBounds_toArray, List.set_cons_zero, List.set_cons_succ, List.getElem_toArray, List.getElem_cons_succ, List.getElem_cons_zero]
                    refine wpAnyH_ready (rs := [11]) (by kernel_rfl) (by simp) ?_
                    refine AllReadyH.cons rfl (fun K hK => ?_) AllReadyH.nil
                    go_simp
                    go_at_call 6
                    refine (funX_any (LX.a (LX.a (LX.l (LX.l ((LX.it kA).hig 2 2))) (LX.v 1)) (LX.a (LX.a (LX.l (LX.l ((LX.it kB).hig 2 2))) (LX.v 1)) (LX.v 0))) _ _ (by exact ⟨a9, c9, rfl, SV9.out⟩)).mono ?_
                    rintro e w10 ⟨a10, c10, rfl, SV10', hb⟩
                    have SV10 := hide SV10'
                    have hbb : Below (w9).heap.size (w9) w10 := hb
                    have k10 := hide (k9.out.trans (hbb.mono k9.out.size))
                    have NB := hide (NB.out.below hbb NB.out.lt)
                    clear hb hbb
                    go_simp
                    refine hK.out _ _ (by exact KP.out _ k10.out) (fun hHeld => ?_)
                    clear hK K
                    try simp only [Act.put, List.setIfInBounds_toArray, List.set_cons_zero, List.set_cons_succ, List.getElem_toArray, List.getElem_cons_succ, List.getElem_cons_zero]
                    refine wpAnyH_ready (rs := [12]) (by kernel_rfl) (by simp) ?_
                    refine AllReadyH.cons rfl (fun K hK => ?_) AllReadyH.nil
                    go_simp
                    go_at_call 6
                    refine (funX_any (LX.l (LX.a (LX.a (LX.l (LX.l ((LX.it kA).hig 2 2))) (LX.v 1)) (LX.a (LX.a (LX.l (LX.l ((LX.it kB).hig 2 2))) (LX.v 1)) (LX.v 0)))) _ _ (by exact ⟨a10, c10, rfl, SV10.out⟩)).mono ?_
                    rintro e w11 ⟨a11, c11, rfl, SV11', hb⟩
                    have SV11 := hide SV11'
                    have hbb : Below (w10).heap.size (w10) w11 := hb
                    have k11 := hide (k10.out.trans (hbb.mono k10.out.size))
                    have NB := hide (NB.out.below hbb NB.out.lt)
                    clear hb hbb
                    go_simp
                    refine hK.out _ _ (by exact KP.out _ k11.out) (fun hHeld => ?_)
                    clear hK K
                    try simp only [Act.put, List.setIfInBounds_toArray, List.set_cons_zero, List.set_cons_succ, List.getElem_toArray, List.getElem_cons_succ, List.getElem_cons_zero]
                    have q0 := NB.out.cell 0
                    have q1 := NB.out.cell 1
                    have q2 := NB.out.cell 2
                    have qf := NB.out.frozen
                    simp only [List.getElem?_toArray, List.getElem?_cons_succ, List.getElem?_cons_zero] at q0 q1 q2
                    refine wpAnyH_ready (rs := [14]) (by kernel_rfl) (by simp) ?_
                    refine AllReadyH.cons rfl (fun K hK => ?_) AllReadyH.nil
                    go_simp
                    refine hK.out _ _ (by exact KP.out _ (bl_setA k11.out _ (by have := k7.out.size; first | omega | exact this) _ _ _)) (fun hHeld => ?_)
                    clear hK K
                    try simp only [Act.put, List.setIfInBounds_toArray, List.set_cons_zero, List.set_cons_succ, List.getElem_toArray, List.getElem_cons_succ, List.getElem_cons_zero]
                    refine wpAnyH_done (by kernel_rfl) ?_ _
                    go_wp2_with fail
                    go_meet
                    exact mkX_first (t := plusX kA kB) HOK.out (by have := k7.out.size; first | omega | exact this) NB.out k11.out SV11.out
                · go_simp
                  refine hK.out _ _ (by exact KP.out _ (k6.out.alloc k6.out.size _)) (fun hHeld => ?_)
                  clear hK K
                  try simp only [Act.put, List.setIfInBounds_toArray, List.set_cons_zero, List.set_cons_succ, List.getElem_toArray, List.getElem_cons_succ, List.getElem_cons_zero]
                  refine wpAnyH_ready (rs := [8]) (by kernel_rfl) (by simp) ?_
                  refine AllReadyH.cons rfl (fun K hK => ?_) AllReadyH.nil
                  go_simp
                  go_at_call 9
                  refine (varR_any 0 _).mono ?_
                  rintro e w7 ⟨rfl, hb⟩
                  have hbb : Below (w6).heap.size (w6) w7 := ((Below.refl _ _).alloc (Nat.le_refl _) _).trans (hb.mono (by simp))
                  have NB := hide ((Blk.new (w6) #[.int .i64 0, .int .i64 0, .slice none 0 0] 25).below hb (by simp))
                  have k7 := hide (k6.out.trans (hbb.mono k6.out.size))
                  have SV3 := hide (SV3.out.later hbb)
                  have SV6 := hide (SV6.out.later hbb)
                  clear hb hbb
                  go_simp
                  refine hK.out _ _ (by exact KP.out _ k7.out) (fun hHeld => ?_)
                  clear hK K
                  try simp only [Act.put, List.setIfInBounds_toArray, List.set_cons_zero, List.set_cons_succ, List.getElem_toArray, List.getElem_cons_succ, List.getElem_cons_zero]
                  refine wpAnyH_ready (rs := [9]) (by kernel_rfl) (by simp) ?_
                  refine AllReadyH.cons rfl (fun K hK => ?_) AllReadyH.nil
                  go_simp
                  go_at_call 7
                  refine (appX_any (LX.a (LX.l (LX.l ((LX.it kB).hig 2 2))) (LX.v 1)) (LX.v 0) _ _ _ (by exact ⟨a6, c6, rfl, SV6.out⟩) (by exact ⟨none, 0, rfl, ⟨by simp [LX.m], Or.inl rfl⟩⟩)).mono ?_
                  rintro e w8 ⟨a8, c8, rfl, SV8', hb⟩
                  have SV8 := hide SV8'
                  have hbb : Below (w7).heap.size (w7) w8 := hb
                  have k8 := hide (k7.out.trans (hbb.mono k7.out.size))
                  have SV3 := hide (SV3.out.later hbb)
                  have NB := hide (NB.out.below hbb NB.out.lt)
                  clear hb hbb
                  go_simp
                  refine hK.out _ _ (by exact KP.out _ k8.out) (fun hHeld => ?_)
                  clear hK K
                  try simp only [Act.put, List.setIfInBounds_toArray, List.set_cons_zero, List.set_cons_succ, List.getElem_toArray, List.getElem_cons_succ, List.getElem_cons_zero]
                  refine wpAnyH_ready (rs := [10]) (by kernel_rfl) (by simp) ?_
                  refine AllReadyH.cons rfl (fun K hK => ?_) AllReadyH.nil
                  go_simp
                  go_at_call 7
                  refine (appX_any (LX.a (LX.l (LX.l ((LX.it kA).hig 2 2))) (LX.v 1)) (LX.a (LX.a (LX.l (LX.l ((LX.it kB).hig 2 2))) (LX.v 1)) (LX.v 0)) _ _ _ (by exact ⟨a3, c3, rfl, SV3.out⟩) (by exact ⟨a8, c8, rfl, SV8.out⟩)).mono ?_
                  rintro e w9 ⟨a9, c9, rfl, SV9', hb⟩
                  have SV9 := hide SV9'
                  have hbb : Below (w8).heap.size (w8) w9 := hb
                  have k9 := hide (k8.out.trans (hbb.mono k8.out.size))
                  have NB := hide (NB.out.below hbb NB.out.lt)
                  clear hb hbb
                  go_simp
                  refine hK.out _ _ (by exact KP.out _ k9.out) (fun hHeld => ?_)
                  clear hK K
                  try simp only [Act.put, List.setIfInBounds_toArray, List.set_cons_zero, List.set_cons_succ, List.getElem_toArray, List.getElem_cons_succ, List.getElem_cons_zero]
                  refine wpAnyH_ready (rs := [11]) (by kernel_rfl) (by simp) ?_
                  refine AllReadyH.cons rfl (fun K hK => ?_) AllReadyH.nil
                  go_simp
                  go_at_call 6
                  refine (funX_any (LX.a (LX.a (LX.l (LX.l ((LX.it kA).hig 2 2))) (LX.v 1)) (LX.a (LX.a (LX.l (LX.l ((LX.it kB).hig 2 2))) (LX.v 1)) (LX.v 0))) _ _ (by exact ⟨a9, c9, rfl, SV9.out⟩)).mono ?_
                  rintro e w10 ⟨a10, c10, rfl, SV10', hb⟩
                  have SV10 := hide SV10'
                  have hbb : Below (w9).heap.size (w9) w10 := hb
                  have k10 := hide (k9.out.trans (hbb.mono k9.out.size))
                  have NB := hide (NB.out.below hbb NB.out.lt)
                  clear hb hbb
                  go_simp
                  refine hK.out _ _ (by exact KP.out _ k10.out) (fun hHeld => ?_)
                  clear hK K
                  try simp only [Act.put, List.setIfInBounds_toArray, List.set_cons_zero, List.set_cons_succ, List.getElem_toArray, List.getElem_cons_succ, List.getElem_cons_zero]
                  refine wpAnyH_ready (rs := [12]) (by kernel_rfl) (by simp) ?_
                  refine AllReadyH.cons rfl (fun K hK => ?_) AllReadyH.nil
                  go_simp
                  go_at_call 6
                  refine (funX_any (LX.l (LX.a (LX.a (LX.l (LX.l ((LX.it kA).hig 2 2))) (LX.v 1)) (LX.a (LX.a (LX.l (LX.l ((LX.it kB).hig 2 2))) (LX.v 1)) (LX.v 0)))) _ _ (by exact ⟨a10, c10, rfl, SV10.out⟩)).mono ?_
                  rintro e w11 ⟨a11, c11, rfl, SV11', hb⟩
                  have SV11 := hide SV11'
                  have hbb : Below (w10).heap.size (w10) w11 := hb
                  have k11 := hide (k10.out.trans (hbb.mono k10.out.size))
                  have NB := hide (NB.out.below hbb NB.out.lt)
                  clear hb hbb
                  go_simp
                  refine hK.out _ _ (by exact KP.out _ k11.out) (fun hHeld => ?_)
                  clear hK K
                  try simp only [Act.put, List.setIfInBounds_toArray, List.set_cons_zero, List.set_cons_succ, List.getElem_toArray, List.getElem_cons_succ, List.getElem_cons_zero]
                  have q0 := NB.out.cell 0
                  have q1 := NB.out.cell 1
                  have q2 := NB.out.cell 2
                  have qf := NB.out.frozen
                  simp only [List.getElem?_toArray, List.getElem?_cons_succ, List.getElem?_cons_zero] at q0 q1 q2
                  refine wpAnyH_ready (rs := [14]) (by kernel_rfl) (by simp) ?_
                  refine AllReadyH.cons rfl (fun K hK => ?_) AllReadyH.nil
                  go_simp
                  refine hK.out _ _ (by exact KP.out _ (bl_setA k11.out _ (by have := k6.out.size; first | omega | exact this) _ _ _)) (fun hHeld => ?_)
                  clear hK K
                  try simp only [Act.put, List.setIfInBounds_toArray, List.set_cons_zero, List.set_cons_succ, List.getElem_toArray, List.getElem_cons_succ, List.getElem_cons_zero]
                  refine wpAnyH_done (by kernel_rfl) ?_ _
                  go_wp2_with fail
                  go_meet
                  exact mkX_first (t := plusX kA kB) HOK.out (by have := k6.out.size; first | omega | exact this) NB.out k11.out SV11.out
              · go_simp
                refine hK.out _ _ (by exact KP.out _ (k5.out.alloc k5.out.size _)) (fun hHeld => ?_)
                clear hK K
                try simp only [Act.put, List.setIfInBounds_toArray, List.set_cons_zero, List.set_cons_succ, List.getElem_toArray, List.getElem_cons_succ, List.getElem_cons_zero]
                refine wpAnyH_ready (rs := [7]) (by kernel_rfl) (by simp) ?_
                refine AllReadyH.cons rfl (fun K hK => ?_) AllReadyH.nil
                go_simp
                go_at_call 7
                refine (appX_any (LX.l (LX.l ((LX.it kB).hig 2 2))) (LX.v 1) _ _ _ (by exact ⟨a4, c4, rfl, SV4.out.later ((Below.refl _ _).alloc (Nat.le_refl _) _)⟩) (by exact ⟨none, 0, rfl, ⟨by simp [LX.m], Or.inl rfl⟩⟩)).mono ?_
                rintro e w6 ⟨a6, c6, rfl, SV6', hb⟩
                have SV6 := hide SV6'
                have hbb : Below (w5).heap.size (w5) w6 := ((Below.refl _ _).alloc (Nat.le_refl _) _).trans (hb.mono (by simp))
                have NB := hide ((Blk.new (w5) #[.int .i64 0, .int .i64 0, .slice none 0 0] 25).below hb (by simp))
                have k6 := hide (k5.out.trans (hbb.mono k5.out.size))
                have SV3 := hide (SV3.out.later hbb)
                clear hb hbb
                go_simp
                refine hK.out _ _ (by exact KP.out _ k6.out) (fun hHeld => ?_)
                clear hK K
                try simp only [Act.put, List.setIfInBounds_toArray, List.set_cons_zero, List.set_cons_succ, List.getElem_toArray, List.getElem_cons_succ, List.getElem_cons_zero]
                refine wpAnyH_ready (rs := [8]) (by kernel_rfl) (by simp) ?_
                refine AllReadyH.cons rfl (fun K hK => ?_) AllReadyH.nil
                go_simp
                go_at_call 9
                refine (varR_any 0 _).mono ?_
                rintro e w7 ⟨rfl, hb⟩
                have hbb : Below (w6).heap.size (w6) w7 := hb
                have k7 := hide (k6.out.trans (hbb.mono k6.out.size))
                have SV3 := hide (SV3.out.later hbb)
                have SV6 := hide (SV6.out.later hbb)
                have NB := hide (NB.out.below hbb NB.out.lt)
                clear hb hbb
                go_simp
                refine hK.out _ _ (by exact KP.out _ k7.out) (fun hHeld => ?_)
                clear hK K
                try simp only [Act.put, List.setIfInBounds_toArray, List.set_cons_zero, List.set_cons_succ, List.getElem_toArray, List.getElem_cons_succ, List.getElem_cons_zero]
                refine wpAnyH_ready (rs := [9]) (by kernel_rfl) (by simp) ?_
                refine AllReadyH.cons rfl (fun K hK => ?_) AllReadyH.nil
                go_simp
                go_at_call 7
                refine (appX_any (LX.a (LX.l (LX.l ((LX.it kB).hig 2 2))) (LX.v 1)) (LX.v 0) _ _ _ (by exact ⟨a6, c6, rfl, SV6.out⟩) (by exact ⟨none, 0, rfl, ⟨by simp [LX.m], Or.inl rfl⟩⟩)).mono ?_
                rintro e w8 ⟨a8, c8, rfl, SV8', hb⟩
                have SV8 := hide SV8'
                have hbb : Below (w7).heap.size (w7) w8 := hb
                have k8 := hide (k7.out.trans (hbb.mono k7.out.size))
                have SV3 := hide (SV3.out.later hbb)
                have NB := hide (NB.out.below hbb NB.out.lt)
                clear hb hbb
                go_simp
                refine hK.out _ _ (by exact KP.out _ k8.out) (fun hHeld => ?_)
                clear hK K
                try simp only [Act.put, List.setIfInBounds_toArray, List.set_cons_zero, List.set_cons_succ, List.getElem_toArray, List.getElem_cons_succ, List.getElem_cons_zero]
                refine wpAnyH_ready (rs := [10]) (by kernel_rfl) (by simp) ?_
                refine AllReadyH.cons rfl (fun K hK => ?_) AllReadyH.nil
                go_simp
                go_at_call 7
                refine (appX_any (LX.a (LX.l (LX.l ((LX.it kA).hig 2 2))) (LX.v 1)) (LX.a (LX.a (LX.l (LX.l ((LX.it kB).hig 2 2))) (LX.v 1)) (LX.v 0)) _ _ _ (by exact ⟨a3, c3, rfl, SV3.out⟩) (by exact ⟨a8, c8, rfl, SV8.out⟩)).mono ?_
                rintro e w9 ⟨a9, c9, rfl, SV9', hb⟩
                have SV9 := hide SV9'
                have hbb : Below (w8).heap.size (w8) w9 := hb
                have k9 := hide (k8.out.trans (hbb.mono k8.out.size))
                have NB := hide (NB.out.below hbb NB.out.lt)
                clear hb hbb
                go_simp
                refine hK.out _ _ (by exact KP.out _ k9.out) (fun hHeld => ?_)
                clear hK K
                try simp only [Act.put, List.setIfInBounds_toArray, List.set_cons_zero, List.set_cons_succ, List.getElem_toArray, List.getElem_cons_succ, List.getElem_cons_zero]
                refine wpAnyH_ready (rs := [11]) (by kernel_rfl) (by simp) ?_
                refine AllReadyH.cons rfl (fun K hK => ?_) AllReadyH.nil
                go_simp
                go_at_call 6
                refine (funX_any (LX.a (LX.a (LX.l (LX.l ((LX.it kA).hig 2 2))) (LX.v 1)) (LX.a (LX.a (LX.l (LX.l ((LX.it kB).hig 2 2))) (LX.v 1)) (LX.v 0))) _ _ (by exact ⟨a9, c9, rfl, SV9.out⟩)).mono ?_
                rintro e w10 ⟨a10, c10, rfl, SV10', hb⟩
                have SV10 := hide SV10'
                have hbb : Below (w9).heap.size (w9) w10 := hb
                have k10 := hide (k9.out.trans (hbb.mono k9.out.size))
                have NB := hide (NB.out.below hbb NB.out.lt)
                clear hb hbb
                go_simp
                refine hK.out _ _ (by exact KP.out _ k10.out) (fun hHeld => ?_)
                clear hK K
                try simp only [Act.put, List.setIfInBounds_toArray, List.set_cons_zero, List.set_cons_succ, List.getElem_toArray, List.getElem_cons_succ, List.getElem_cons_zero]
                refine wpAnyH_ready (rs := [12]) (by kernel_rfl) (by simp) ?_
                refine AllReadyH.cons rfl (fun K hK => ?_) AllReadyH.nil
                go_simp
                go_at_call 6
                refine (funX_any (LX.l (LX.a (LX.a (LX.l (LX.l ((LX.it kA).hig 2 2))) (LX.v 1)) (LX.a (LX.a (LX.l (LX.l ((LX.it kB).hig 2 2))) (LX.v 1)) (LX.v 0)))) _ _ (by exact ⟨a10, c10, rfl, SV10.out⟩)).mono ?_
                rintro e w11 ⟨a11, c11, rfl, SV11', hb⟩
                have SV11 := hide SV11'
                have hbb : Below (w10).heap.size (w10) w11 := hb
                have k11 := hide (k10.out.trans (hbb.mono k10.out.size))
                have NB := hide (NB.out.below hbb NB.out.lt)
                clear hb hbb
                go_simp
                refine hK.out _ _ (by exact KP.out _ k11.out) (fun hHeld => ?_)
                clear hK K
                try simp only [Act.put, List.setIfInBounds_toArray, List.set_cons_zero, List.set_cons_succ, List.getElem_toArray, List.getElem_cons_succ, List.getElem_cons_zero]
                have q0 := NB.out.cell 0
                have q1 := NB.out.cell 1
                have q2 := NB.out.cell 2
                have qf := NB.out.frozen
                simp only [List.getElem?_toArray, List.getElem?_cons_succ, List.getElem?_cons_zero] at q0 q1 q2
                refine wpAnyH_ready (rs := [14]) (by kernel_rfl) (by simp) ?_
                refine AllReadyH.cons rfl (fun K hK => ?_) AllReadyH.nil
                go_simp
                refine hK.out _ _ (by exact KP.out _ (bl_setA k11.out _ (by have := k5.out.size; first | omega | exact this) _ _ _)) (fun hHeld => ?_)
                clear hK K
                try simp only [Act.put, List.setIfInBounds_toArray, List.set_cons_zero, List.set_cons_succ, List.getElem_toArray, List.getElem_cons_succ, List.getElem_cons_zero]
                refine wpAnyH_done (by kernel_rfl) ?_ _
                go_wp2_with fail
                go_meet
                exact mkX_first (t := plusX kA kB) HOK.out (by have := k5.out.size; first | omega | exact this) NB.out k11.out SV11.out
            · go_simp
              refine hK.out _ _ (by exact KP.out _ (k4.out.alloc k4.out.size _)) (fun hHeld => ?_)
              clear hK K
              try simp only [Act.put, List.setIfInBounds_toArray, List.set_cons_zero, List.set_cons_succ, List.getElem_toArray, List.getElem_cons_succ, List.getElem_cons_zero]
              refine wpAnyH_ready (rs := [6]) (by kernel_rfl) (by simp) ?_
              refine AllReadyH.cons rfl (fun K hK => ?_) AllReadyH.nil
              go_simp
              go_at_call 9
              refine (varR_any 1 _).mono ?_
              rintro e w5 ⟨rfl, hb⟩
              have hbb : Below (w4).heap.size (w4) w5 := ((Below.refl _ _).alloc (Nat.le_refl _) _).trans (hb.mono (by simp))
              have NB := hide ((Blk.new (w4) #[.int .i64 0, .int .i64 0, .slice none 0 0] 25).below hb (by simp))
              have k5 := hide (k4.out.trans (hbb.mono k4.out.size))
              have SV3 := hide (SV3.out.later hbb)
              have SV4 := hide (SV4.out.later hbb)
              clear hb hbb
              go_simp
              refine hK.out _ _ (by exact KP.out _ k5.out) (fun hHeld => ?_)
              clear hK K
              try simp only [Act.put, List.setIfInBounds_toArray, List.set_cons_zero, List.set_cons_succ, List.getElem_toArray, List.getElem_cons_succ, List.getElem_cons_zero]
              refine wpAnyH_ready (rs := [7]) (by kernel_rfl) (by simp) ?_
              refine AllReadyH.cons rfl (fun K hK => ?_) AllReadyH.nil
              go_simp
              go_at_call 7
              refine (appX_any (LX.l (LX.l ((LX.it kB).hig 2 2))) (LX.v 1) _ _ _ (by exact ⟨a4, c4, rfl, SV4.out⟩) (by exact ⟨none, 0, rfl, ⟨by simp [LX.m], Or.inl rfl⟩⟩)).mono ?_
              rintro e w6 ⟨a6, c6, rfl, SV6', hb⟩
              have SV6 := hide SV6'
              have hbb : Below (w5).heap.size (w5) w6 := hb
              have k6 := hide (k5.out.trans (hbb.mono k5.out.size))
              have SV3 := hide (SV3.out.later hbb)
              have NB := hide (NB.out.below hbb NB.out.lt)
              clear hb hbb
              go_simp
              refine hK.out _ _ (by exact KP.out _ k6.out) (fun hHeld => ?_)
              clear hK K
              try simp only [Act.put, List.setIfInBounds_toArray, List.set_cons_zero, List.set_cons_succ, List.getElem_toArray, List.getElem_cons_succ, List.getElem_cons_zero]
              refine wpAnyH_ready (rs := [8]) (by kernel_rfl) (by simp) ?_
              refine AllReadyH.cons rfl (fun K hK => ?_) AllReadyH.nil
              go_simp
              go_at_call 9
              refine (varR_any 0 _).mono ?_
              rintro e w7 ⟨rfl, hb⟩
              have hbb : Below (w6).heap.size (w6) w7 := hb
              have k7 := hide (k6.out.trans (hbb.mono k6.out.size))
              have SV3 := hide (SV3.out.later hbb)
              have SV6 := hide (SV6.out.later hbb)
              have NB := hide (NB.out.below hbb NB.out.lt)
              clear hb hbb
              go_simp
              refine hK.out _ _ (by exact KP.out _ k7.out) (fun hHeld => ?_)
              clear hK K
              try simp only [Act.put, List.setIfInBounds_toArray, List.set_cons_zero, List.set_cons_succ, List.getElem_toArray, List.getElem_cons_succ, List.getElem_cons_zero]
              refine wpAnyH_ready (rs := [9]) (by kernel_rfl) (by simp) ?_
              refine AllReadyH.cons rfl (fun K hK => ?_) AllReadyH.nil
              go_simp
              go_at_call 7
              refine (appX_any (LX.a (LX.l (LX.l ((LX.it kB).hig 2 2))) (LX.v 1)) (LX.v 0) _ _ _ (by exact ⟨a6, c6, rfl, SV6.out⟩) (by exact ⟨none, 0, rfl, ⟨by simp [LX.m], Or.inl rfl⟩⟩)).mono ?_
              rintro e w8 ⟨a8, c8, rfl, SV8', hb⟩
              have SV8 := hide SV8'
              have hbb : Below (w7).heap.size (w7) w8 := hb
              have k8 := hide (k7.out.trans (hbb.mono k7.out.size))
              have SV3 := hide (SV3.out.later hbb)
              have NB := hide (NB.out.below hbb NB.out.lt)
              clear hb hbb
              go_simp
              refine hK.out _ _ (by exact KP.out _ k8.out) (fun hHeld => ?_)
              clear hK K
              try simp only [Act.put, List.setIfInBounds_toArray, List.set_cons_zero, List.set_cons_succ, List.getElem_toArray, List.getElem_cons_succ, List.getElem_cons_zero]
              refine wpAnyH_ready (rs := [10]) (by kernel_rfl) (by simp) ?_
              refine AllReadyH.cons rfl (fun K hK => ?_) AllReadyH.nil
              go_simp
              go_at_call 7
              refine (appX_any (LX.a (LX.l (LX.l ((LX.it kA).hig 2 2))) (LX.v 1)) (LX.a (LX.a (LX.l (LX.l ((LX.it kB).hig 2 2))) (LX.v 1)) (LX.v 0)) _ _ _ (by exact ⟨a3, c3, rfl, SV3.out⟩) (by exact ⟨a8, c8, rfl, SV8.out⟩)).mono ?_
              rintro e w9 ⟨a9, c9, rfl, SV9', hb⟩
              have SV9 := hide SV9'
              have hbb : Below (w8).heap.size (w8) w9 := hb
              have k9 := hide (k8.out.trans (hbb.mono k8.out.size))
              have NB := hide (NB.out.below hbb NB.out.lt)
              clear hb hbb
              go_simp
              refine hK.out _ _ (by exact KP.out _ k9.out) (fun hHeld => ?_)
              clear hK K
              try simp only [Act.put, List.setIfInBounds_toArray, List.set_cons_zero, List.set_cons_succ, List.getElem_toArray, List.getElem_cons_succ, List.getElem_cons_zero]
              refine wpAnyH_ready (rs := [11]) (by kernel_rfl) (by simp) ?_
              refine AllReadyH.cons rfl (fun K hK => ?_) AllReadyH.nil
              go_simp
              go_at_call 6
              refine (funX_any (LX.a (LX.a (LX.l (LX.l ((LX.it kA).hig 2 2))) (LX.v 1)) (LX.a (LX.a (LX.l (LX.l ((LX.it kB).hig 2 2))) (LX.v 1)) (LX.v 0))) _ _ (by exact ⟨a9, c9, rfl, SV9.out⟩)).mono ?_
              rintro e w10 ⟨a10, c10, rfl, SV10', hb⟩
              have SV10 := hide SV10'
              have hbb : Below (w9).heap.size (w9) w10 := hb
              have k10 := hide (k9.out.trans (hbb.mono k9.out.size))
              have NB := hide (NB.out.below hbb NB.out.lt)
              clear hb hbb
              go_simp
              refine hK.out _ _ (by exact KP.out _ k10.out) (fun hHeld => ?_)
              clear hK K
              try simp only [Act.put, List.setIfInBounds_toArray, List.set_cons_zero, List.set_cons_succ, List.getElem_toArray, List.getElem_cons_succ, List.getElem_cons_zero]
              refine wpAnyH_ready (rs := [12]) (by kernel_rfl) (by simp) ?_
              refine AllReadyH.cons rfl (fun K hK => ?_) AllReadyH.nil
              go_simp
              go_at_call 6
              refine (funX_any (LX.l (LX.a (LX.a (LX.l (LX.l ((LX.it kA).hig 2 2))) (LX.v 1)) (LX.a (LX.a (LX.l (LX.l ((LX.it kB).hig 2 2))) (LX.v 1)) (LX.v 0)))) _ _ (by exact ⟨a10, c10, rfl, SV10.out⟩)).mono ?_
              rintro e w11 ⟨a11, c11, rfl, SV11', hb⟩
              have SV11 := hide SV11'
              have hbb : Below (w10).heap.size (w10) w11 := hb
              have k11 := hide (k10.out.trans (hbb.mono k10.out.size))
              have NB := hide (NB.out.below hbb NB.out.lt)
              clear hb hbb
              go_simp
              refine hK.out _ _ (by exact KP.out _ k11.out) (fun hHeld => ?_)
              clear hK K
              try simp only [Act.put, List.setIfInBounds_toArray, List.set_cons_zero, List.set_cons_succ, List.getElem_toArray, List.getElem_cons_succ, List.getElem_cons_zero]
              have q0 := NB.out.cell 0
              have q1 := NB.out.cell 1
              have q2 := NB.out.cell 2
              have qf := NB.out.frozen
              simp only [List.getElem?_toArray, List.getElem?_cons_succ, List.getElem?_cons_zero] at q0 q1 q2
              refine wpAnyH_ready (rs := [14]) (by kernel_rfl) (by simp) ?_
              refine AllReadyH.cons rfl (fun K hK => ?_) AllReadyH.nil
              go_simp
              refine hK.out _ _ (by exact KP.out _ (bl_setA k11.out _ (by have := k4.out.size; first | omega | exact this) _ _ _)) (fun hHeld => ?_)
              clear hK K
              try simp only [Act.put, List.setIfInBounds_toArray, List.set_cons_zero, List.set_cons_succ, List.getElem_toArray, List.getElem_cons_succ, List.getElem_cons_zero]
              refine wpAnyH_done (by kernel_rfl) ?_ _
              go_wp2_with fail
              go_meet
              exact mkX_first (t := plusX kA kB) HOK.out (by have := k4.out.size; first | omega | exact this) NB.out k11.out SV11.out
          · go_simp
            refine hK.out _ _ (by exact KP.out _ (k3.out.alloc k3.out.size _)) (fun hHeld => ?_)
            clear hK K
            try simp only [Act.put, List.setIfInBounds_toArray, List.set_cons_zero, List.set_cons_succ, List.getElem_toArray, List.getElem_cons_succ, List.getElem_cons_zero]
            refine wpAnyH_ready (rs := [5]) (by kernel_rfl) (by simp) ?_
            refine AllReadyH.cons rfl (fun K hK => ?_) AllReadyH.nil
            go_simp
            go_at_call 8
            refine (hgN_any kB 2 HKB.out (by omega) aB cB _ (fun _ => True) (by exact SB.out.later (k3.out.alloc k3.out.size _))).mono ?_
            rintro e w4 ⟨a4, c4, rfl, SV4', hb⟩
            have SV4 := hide SV4'
            have hbb : Below (w3).heap.size (w3) w4 := ((Below.refl _ _).alloc (Nat.le_refl _) _).trans (hb.mono (by simp))
            have NB := hide ((Blk.new (w3) #[.int .i64 0, .int .i64 0, .slice none 0 0] 25).below hb (by simp))
            have k4 := hide (k3.out.trans (hbb.mono k3.out.size))
            have SV3 := hide (SV3.out.later hbb)
            clear hb hbb
            go_simp
            refine hK.out _ _ (by exact KP.out _ k4.out) (fun hHeld => ?_)
            clear hK K
            try simp only [Act.put, List.setIfInBounds_toArray, List.set_cons_zero, List.set_cons_succ, List.getElem_toArray, List.getElem_cons_succ, List.getElem_cons_zero]
            refine wpAnyH_ready (rs := [6]) (by kernel_rfl) (by simp) ?_
            refine AllReadyH.cons rfl (fun K hK => ?_) AllReadyH.nil
            go_simp
            go_at_call 9
            refine (varR_any 1 _).mono ?_
            rintro e w5 ⟨rfl, hb⟩
            have hbb : Below (w4).heap.size (w4) w5 := hb
            have k5 := hide (k4.out.trans (hbb.mono k4.out.size))
            have SV3 := hide (SV3.out.later hbb)
            have SV4 := hide (SV4.out.later hbb)
            have NB := hide (NB.out.below hbb NB.out.lt)
            clear hb hbb
            go_simp
            refine hK.out _ _ (by exact KP.out _ k5.out) (fun hHeld => ?_)
            clear hK K
            try simp only [Act.put, List.setIfInBounds_toArray, List.set_cons_zero, List.set_cons_succ, List.getElem_toArray, List.getElem_cons_succ, List.getElem_cons_zero]
            refine wpAnyH_ready (rs := [7]) (by kernel_rfl) (by simp) ?_
            refine AllReadyH.cons rfl (fun K hK => ?_) AllReadyH.nil
            go_simp
            go_at_call 7
            refine (appX_any (LX.l (LX.l ((LX.it kB).hig 2 2))) (LX.v 1) _ _ _ (by exact ⟨a4, c4, rfl, SV4.out⟩) (by exact ⟨none, 0, rfl, ⟨by simp [LX.m], Or.inl rfl⟩⟩)).mono ?_
            rintro e w6 ⟨a6, c6, rfl, SV6', hb⟩
            have SV6 := hide SV6'
            have hbb : Below (w5).heap.size (w5) w6 := hb
            have k6 := hide (k5.out.trans (hbb.mono k5.out.size))
            have SV3 := hide (SV3.out.later hbb)
            have NB := hide (NB.out.below hbb NB.out.lt)
            clear hb hbb
            go_simp
            refine hK.out _ _ (by exact KP.out _ k6.out) (fun hHeld => ?_)
            clear hK K
            try simp only [Act.put, List.setIfInBounds_toArray, List.set_cons_zero, List.set_cons_succ, List.getElem_toArray, List.getElem_cons_succ, List.getElem_cons_zero]
            refine wpAnyH_ready (rs := [8]) (by kernel_rfl) (by simp) ?_
            refine AllReadyH.cons rfl (fun K hK => ?_) AllReadyH.nil
            go_simp
            go_at_call 9
            refine (varR_any 0 _).mono ?_
            rintro e w7 ⟨rfl, hb⟩
            have hbb : Below (w6).heap.size (w6) w7 := hb
            have k7 := hide (k6.out.trans (hbb.mono k6.out.size))
            have SV3 := hide (SV3.out.later hbb)
            have SV6 := hide (SV6.out.later hbb)
            have NB := hide (NB.out.below hbb NB.out.lt)
            clear hb hbb
            go_simp
            refine hK.out _ _ (by exact KP.out _ k7.out) (fun hHeld => ?_)
            clear hK K
            try simp only [Act.put, List.setIfInBounds_toArray, List.set_cons_zero, List.set_cons_succ, List.getElem_toArray, List.getElem_cons_succ, List.getElem_cons_zero]
            refine wpAnyH_ready (rs := [9]) (by kernel_rfl) (by simp) ?_
            refine AllReadyH.cons rfl (fun K hK => ?_) AllReadyH.nil
            go_simp
            go_at_call 7
            refine (appX_any (LX.a (LX.l (LX.l ((LX.it kB).hig 2 2))) (LX.v 1)) (LX.v 0) _ _ _ (by exact ⟨a6, c6, rfl, SV6.out⟩) (by exact ⟨none, 0, rfl, ⟨by simp [LX.m], Or.inl rfl⟩⟩)).mono ?_
            rintro e w8 ⟨a8, c8, rfl, SV8', hb⟩
            have SV8 := hide SV8'
            have hbb : Below (w7).heap.size (w7) w8 := hb
            have k8 := hide (k7.out.trans (hbb.mono k7.out.size))
            have SV3 := hide (SV3.out.later hbb)
            have NB := hide (NB.out.below hbb NB.out.lt)
            clear hb hbb
            go_simp
            refine hK.out _ _ (by exact KP.out _ k8.out) (fun hHeld => ?_)
            clear hK K
            try simp only [Act.put, List.setIfInBounds_toArray, List.set_cons_zero, List.set_cons_succ, List.getElem_toArray, List.getElem_cons_succ, List.getElem_cons_zero]
            refine wpAnyH_ready (rs := [10]) (by kernel_rfl) (by simp) ?_
            refine AllReadyH.cons rfl (fun K hK => ?_) AllReadyH.nil
            go_simp
            go_at_call 7
            refine (appX_any (LX.a (LX.l (LX.l ((LX.it kA).hig 2 2))) (LX.v 1)) (LX.a (LX.a (LX.l (LX.l ((LX.it kB).hig 2 2))) (LX.v 1)) (LX.v 0)) _ _ _ (by exact ⟨a3, c3, rfl, SV3.out⟩) (by exact ⟨a8, c8, rfl, SV8.out⟩)).mono ?_
            rintro e w9 ⟨a9, c9, rfl, SV9', hb⟩
            have SV9 := hide SV9'
            have hbb : Below (w8).heap.size (w8) w9 := hb
            have k9 := hide (k8.out.trans (hbb.mono k8.out.size))
            have NB := hide (NB.out.below hbb NB.out.lt)
            clear hb hbb
            go_simp
            refine hK.out _ _ (by exact KP.out _ k9.out) (fun hHeld => ?_)
            clear hK K
            try simp only [Act.put, List.setIfInBounds_toArray, List.set_cons_zero, List.set_cons_succ, List.getElem_toArray, List.getElem_cons_succ, List.getElem_cons_zero]
            refine wpAnyH_ready (rs := [11]) (by kernel_rfl) (by simp) ?_
            refine AllReadyH.cons rfl (fun K hK => ?_) AllReadyH.nil
            go_simp
            go_at_call 6
            refine (funX_any (LX.a (LX.a (LX.l (LX.l ((LX.it kA).hig 2 2))) (LX.v 1)) (LX.a (LX.a (LX.l (LX.l ((LX.it kB).hig 2 2))) (LX.v 1)) (LX.v 0))) _ _ (by exact ⟨a9, c9, rfl, SV9.out⟩)).mono ?_
            rintro e w10 ⟨a10, c10, rfl, SV10', hb⟩
            have SV10 := hide SV10'
            have hbb : Below (w9).heap.size (w9) w10 := hb
            have k10 := hide (k9.out.trans (hbb.mono k9.out.size))
            have NB := hide (NB.out.below hbb NB.out.lt)
            clear hb hbb
            go_simp
            refine hK.out _ _ (by exact KP.out _ k10.out) (fun hHeld => ?_)
            clear hK K
            try simp only [Act.put, List.setIfInBounds_toArray, List.set_cons_zero, List.set_cons_succ, List.getElem_toArray, List.getElem_cons_succ, List.getElem_cons_zero]
            refine wpAnyH_ready (rs := [12]) (by kernel_rfl) (by simp) ?_
            refine AllReadyH.cons rfl (fun K hK => ?_) AllReadyH.nil
            go_simp
            go_at_call 6
            refine (funX_any (LX.l (LX.a (LX.a (LX.l (LX.l ((LX.it kA).hig 2 2))) (LX.v 1)) (LX.a (LX.a (LX.l (LX.l ((LX.it kB).hig 2 2))) (LX.v 1)) (LX.v 0)))) _ _ (by exact ⟨a10, c10, rfl, SV10.out⟩)).mono ?_
            rintro e w11 ⟨a11, c11, rfl, SV11', hb⟩
            have SV11 := hide SV11'
            have hbb : Below (w10).heap.size (w10) w11 := hb
            have k11 := hide (k10.out.trans (hbb.mono k10.out.size))
            have NB := hide (NB.out.below hbb NB.out.lt)
            clear hb hbb
            go_simp
            refine hK.out _ _ (by exact KP.out _ k11.out) (fun hHeld => ?_)
            clear hK K
            try simp only [Act.put, List.setIfInBounds_toArray, List.set_cons_zero, List.set_cons_succ, List.getElem_toArray, List.getElem_cons_succ, List.getElem_cons_zero]
            have q0 := NB.out.cell 0
            have q1 := NB.out.cell 1
            have q2 := NB.out.cell 2
            have qf := NB.out.frozen
            simp only [List.getElem?_toArray, List.getElem?_cons_succ, List.getElem?_cons_zero] at q0 q1 q2
            refine wpAnyH_ready (rs := [14]) (by kernel_rfl) (by simp) ?_
            refine AllReadyH.cons rfl (fun K hK => ?_) AllReadyH.nil
            go_simp
            refine hK.out _ _ (by exact KP.out _ (bl_setA k11.out _ (by have := k3.out.size; first | omega | exact this) _ _ _)) (fun hHeld => ?_)
            clear hK K
            try simp only [Act.put, List.setIfInBounds_toArray, List.set_cons_zero, List.set_cons_succ, List.getElem_toArray, List.getElem_cons_succ, List.getElem_cons_zero]
            refine wpAnyH_done (by kernel_rfl) ?_ _
            go_wp2_with fail
            go_meet
            exact mkX_first (t := plusX kA kB) HOK.out (by have := k3.out.size; first | omega | exact this) NB.out k11.out SV11.out
        · go_simp
          refine hK.out _ _ (by exact KP.out _ (k2.out.alloc k2.out.size _)) (fun hHeld => ?_)
          clear hK K
          try simp only [Act.put, List.setIfInBounds_toArray, List.set_cons_zero, List.set_cons_succ, List.getElem_toArray, List.getElem_cons_succ, List.getElem_cons_zero]
          refine wpAnyH_ready (rs := [3]) (by kernel_rfl) (by simp) ?_
          refine AllReadyH.cons rfl (fun K hK => ?_) AllReadyH.nil
          go_simp
          go_at_call 7
          refine (appX_any (LX.l (LX.l ((LX.it kA).hig 2 2))) (LX.v 1) _ _ _ (by exact ⟨a1, c1, rfl, SV1.out.later ((Below.refl _ _).alloc (Nat.le_refl _) _)⟩) (by exact ⟨none, 0, rfl, ⟨by simp [LX.m], Or.inl rfl⟩⟩)).mono ?_
          rintro e w3 ⟨a3, c3, rfl, SV3', hb⟩
          have SV3 := hide SV3'
          have hbb : Below (w2).heap.size (w2) w3 := ((Below.refl _ _).alloc (Nat.le_refl _) _).trans (hb.mono (by simp))
          have NB := hide ((Blk.new (w2) #[.int .i64 0, .int .i64 0, .slice none 0 0] 25).below hb (by simp))
          have k3 := hide (k2.out.trans (hbb.mono k2.out.size))
          clear hb hbb
          go_simp
          refine hK.out _ _ (by exact KP.out _ k3.out) (fun hHeld => ?_)
          clear hK K
          try simp only [Act.put, List.setIfInBounds_toArray, List.set_cons_zero, List.set_cons_succ, List.getElem_toArray, List.getElem_cons_succ, List.getElem_cons_zero]
          refine wpAnyH_ready (rs := [5]) (by kernel_rfl) (by simp) ?_
          refine AllReadyH.cons rfl (fun K hK => ?_) AllReadyH.nil
          go_simp
          go_at_call 8
          refine (hgN_any kB 2 HKB.out (by omega) aB cB _ (fun _ => True) (by exact SB.out.later k3.out)).mono ?_
          rintro e w4 ⟨a4, c4, rfl, SV4', hb⟩
          have SV4 := hide SV4'
          have hbb : Below (w3).heap.size (w3) w4 := hb
          have k4 := hide (k3.out.trans (hbb.mono k3.out.size))
          have SV3 := hide (SV3.out.later hbb)
          have NB := hide (NB.out.below hbb NB.out.lt)
          clear hb hbb
          go_simp
          refine hK.out _ _ (by exact KP.out _ k4.out) (fun hHeld => ?_)
          clear hK K
          try simp only [Act.put, List.setIfInBounds_toArray, List.set_cons_zero, List.set_cons_succ, List.getElem_toArray, List.getElem_cons_succ, List.getElem_cons_zero]
          refine wpAnyH_ready (rs := [6]) (by kernel_rfl) (by simp) ?_
          refine AllReadyH.cons rfl (fun K hK => ?_) AllReadyH.nil
          go_simp
          go_at_call 9
          refine (varR_any 1 _).mono ?_
          rintro e w5 ⟨rfl, hb⟩
          have hbb : Below (w4).heap.size (w4) w5 := hb
          have k5 := hide (k4.out.trans (hbb.mono k4.out.size))
          have SV3 := hide (SV3.out.later hbb)
          have SV4 := hide (SV4.out.later hbb)
          have NB := hide (NB.out.below hbb NB.out.lt)
          clear hb hbb
          go_simp
          refine hK.out _ _ (by exact KP.out _ k5.out) (fun hHeld => ?_)
          clear hK K
          try simp only [Act.put, List.setIfInBounds_toArray, List.set_cons_zero, List.set_cons_succ, List.getElem_toArray, List.getElem_cons_succ, List.getElem_cons_zero]
          refine wpAnyH_ready (rs := [7]) (by kernel_rfl) (by simp) ?_
          refine AllReadyH.cons rfl (fun K hK => ?_) AllReadyH.nil
          go_simp
          go_at_call 7
          refine (appX_any (LX.l (LX.l ((LX.it kB).hig 2 2))) (LX.v 1) _ _ _ (by exact ⟨a4, c4, rfl, SV4.out⟩) (by exact ⟨none, 0, rfl, ⟨by simp [LX.m], Or.inl rfl⟩⟩)).mono ?_
          rintro e w6 ⟨a6, c6, rfl, SV6', hb⟩
          have SV6 := hide SV6'
          have hbb : Below (w5).heap.size (w5) w6 := hb
          have k6 := hide (k5.out.trans (hbb.mono k5.out.size))
          have SV3 := hide (SV3.out.later hbb)
          have NB := hide (NB.out.below hbb NB.out.lt)
          clear hb hbb
          go_simp
          refine hK.out _ _ (by exact KP.out _ k6.out) (fun hHeld => ?_)
          clear hK K
          try simp only [Act.put, List.setIfInBounds_toArray, List.set_cons_zero, List.set_cons_succ, List.getElem_toArray, List.getElem_cons_succ, List.getElem_cons_zero]
          refine wpAnyH_ready (rs := [8]) (by kernel_rfl) (by simp) ?_
          refine AllReadyH.cons rfl (fun K hK => ?_) AllReadyH.nil
          go_simp
          go_at_call 9
          refine (varR_any 0 _).mono ?_
          rintro e w7 ⟨rfl, hb⟩
          have hbb : Below (w6).heap.size (w6) w7 := hb
          have k7 := hide (k6.out.trans (hbb.mono k6.out.size))
          have SV3 := hide (SV3.out.later hbb)
          have SV6 := hide (SV6.out.later hbb)
          have NB := hide (NB.out.below hbb NB.out.lt)
          clear hb hbb
          go_simp
          refine hK.out _ _ (by exact KP.out _ k7.out) (fun hHeld => ?_)
          clear hK K
          try simp only [Act.put, List.setIfInBounds_toArray, List.set_cons_zero, List.set_cons_succ, List.getElem_toArray, List.getElem_cons_succ, List.getElem_cons_zero]
          refine wpAnyH_ready (rs := [9]) (by kernel_rfl) (by simp) ?_
          refine AllReadyH.cons rfl (fun K hK => ?_) AllReadyH.nil
          go_simp
          go_at_call 7
          refine (appX_any (LX.a (LX.l (LX.l ((LX.it kB).hig 2 2))) (LX.v 1)) (LX.v 0) _ _ _ (by exact ⟨a6, c6, rfl, SV6.out⟩) (by exact ⟨none, 0, rfl, ⟨by simp [LX.m], Or.inl rfl⟩⟩)).mono ?_
          rintro e w8 ⟨a8, c8, rfl, SV8', hb⟩
          have SV8 := hide SV8'
          have hbb : Below (w7).heap.size (w7) w8 := hb
          have k8 := hide (k7.out.trans (hbb.mono k7.out.size))
          have SV3 := hide (SV3.out.later hbb)
          have NB := hide (NB.out.below hbb NB.out.lt)
          clear hb hbb
          go_simp
          refine hK.out _ _ (by exact KP.out _ k8.out) (fun hHeld => ?_)
          clear hK K
          try simp only [Act.put, List.setIfInBounds_toArray, List.set_cons_zero, List.set_cons_succ, List.getElem_toArray, List.getElem_cons_succ, List.getElem_cons_zero]
          refine wpAnyH_ready (rs := [10]) (by kernel_rfl) (by simp) ?_
          refine AllReadyH.cons rfl (fun K hK => ?_) AllReadyH.nil
          go_simp
          go_at_call 7
          refine (appX_any (LX.a (LX.l (LX.l ((LX.it kA).hig 2 2))) (LX.v 1)) (LX.a (LX.a (LX.l (LX.l ((LX.it kB).hig 2 2))) (LX.v 1)) (LX.v 0)) _ _ _ (by exact ⟨a3, c3, rfl, SV3.out⟩) (by exact ⟨a8, c8, rfl, SV8.out⟩)).mono ?_
          rintro e w9 ⟨a9, c9, rfl, SV9', hb⟩
          have SV9 := hide SV9'
          have hbb : Below (w8).heap.size (w8) w9 := hb
          have k9 := hide (k8.out.trans (hbb.mono k8.out.size))
          have NB := hide (NB.out.below hbb NB.out.lt)
          clear hb hbb
          go_simp
          refine hK.out _ _ (by exact KP.out _ k9.out) (fun hHeld => ?_)
          clear hK K
          try simp only [Act.put, List.setIfInBounds_toArray, List.set_cons_zero, List.set_cons_succ, List.getElem_toArray, List.getElem_cons_succ, List.getElem_cons_zero]
          refine wpAnyH_ready (rs := [11]) (by kernel_rfl) (by simp) ?_
          refine AllReadyH.cons rfl (fun K hK => ?_) AllReadyH.nil
          go_simp
          go_at_call 6
          refine (funX_any (LX.a (LX.a (LX.l (LX.l ((LX.it kA).hig 2 2))) (LX.v 1)) (LX.a (LX.a (LX.l (LX.l ((LX.it kB).hig 2 2))) (LX.v 1)) (LX.v 0))) _ _ (by exact ⟨a9, c9, rfl, SV9.out⟩)).mono ?_
          rintro e w10 ⟨a10, c10, rfl, SV10', hb⟩
          have SV10 := hide SV10'
          have hbb : Below (w9).heap.size (w9) w10 := hb
          have k10 := hide (k9.out.trans (hbb.mono k9.out.size))
          have NB := hide (NB.out.below hbb NB.out.lt)
          clear hb hbb
          go_simp
          refine hK.out _ _ (by exact KP.out _ k10.out) (fun hHeld => ?_)
          clear hK K
          try simp only [Act.put, List.setIfInBounds_toArray, List.set_cons_zero, List.set_cons_succ, List.getElem_toArray, List.getElem_cons_succ, List.getElem_cons_zero]
          refine wpAnyH_ready (rs := [12]) (by kernel_rfl) (by simp) ?_
          refine AllReadyH.cons rfl (fun K hK => ?_) AllReadyH.nil
          go_simp
          go_at_call 6
          refine (funX_any (LX.l (LX.a (LX.a (LX.l (LX.l ((LX.it kA).hig 2 2))) (LX.v 1)) (LX.a (LX.a (LX.l (LX.l ((LX.it kB).hig 2 2))) (LX.v 1)) (LX.v 0)))) _ _ (by exact ⟨a10, c10, rfl, SV10.out⟩)).mono ?_
          rintro e w11 ⟨a11, c11, rfl, SV11', hb⟩
          have SV11 := hide SV11'
          have hbb : Below (w10).heap.size (w10) w11 := hb
          have k11 := hide (k10.out.trans (hbb.mono k10.out.size))
          have NB := hide (NB.out.below hbb NB.out.lt)
          clear hb hbb
          go_simp
          refine hK.out _ _ (by exact KP.out _ k11.out) (fun hHeld => ?_)
          clear hK K
          try simp only [Act.put, List.setIfInBounds_toArray, List.set_cons_zero, List.set_cons_succ, List.getElem_toArray, List.getElem_cons_succ, List.getElem_cons_zero]
          have q0 := NB.out.cell 0
          have q1 := NB.out.cell 1
          have q2 := NB.out.cell 2
          have qf := NB.out.frozen
          simp only [List.getElem?_toArray, List.getElem?_cons_succ, List.getElem?_cons_zero] at q0 q1 q2
          refine wpAnyH_ready (rs := [14]) (by kernel_rfl) (by simp) ?_
          refine AllReadyH.cons rfl (fun K hK => ?_) AllReadyH.nil
          go_simp
          refine hK.out _ _ (by exact KP.out _ (bl_setA k11.out _ (by have := k2.out.size; first | omega | exact this) _ _ _)) (fun hHeld => ?_)
          clear hK K
          try simp only [Act.put, List.setIfInBounds_toArray, List.set_cons_zero, List.set_cons_succ, List.getElem_toArray, List.getElem_cons_succ, List.getElem_cons_zero]
          refine wpAnyH_done (by kernel_rfl) ?_ _
          go_wp2_with fail
          go_meet
          exact mkX_first (t := plusX kA kB) HOK.out (by have := k2.out.size; first | omega | exact this) NB.out k11.out SV11.out
      · go_simp
        refine hK.out _ _ (by exact KP.out _ (k1.out.alloc k1.out.size _)) (fun hHeld => ?_)
        clear hK K
        try simp only [Act.put, List.setIfInBounds_toArray, List.set_cons_zero, List.set_cons_succ, List.getElem_toArray, List.getElem_cons_succ, List.getElem_cons_zero]
        refine wpAnyH_ready (rs := [2]) (by kernel_rfl) (by simp) ?_
        refine AllReadyH.cons rfl (fun K hK => ?_) AllReadyH.nil
        go_simp
        go_at_call 9
        refine (varR_any 1 _).mono ?_
        rintro e w2 ⟨rfl, hb⟩
        have hbb : Below (w1).heap.size (w1) w2 := ((Below.refl _ _).alloc (Nat.le_refl _) _).trans (hb.mono (by simp))
        have NB := hide ((Blk.new (w1) #[.int .i64 0, .int .i64 0, .slice none 0 0] 25).below hb (by simp))
        have k2 := hide (k1.out.trans (hbb.mono k1.out.size))
        have SV1 := hide (SV1.out.later hbb)
        clear hb hbb
        go_simp
        refine hK.out _ _ (by exact KP.out _ k2.out) (fun hHeld => ?_)
        clear hK K
        try simp only [Act.put, List.setIfInBounds_toArray, List.set_cons_zero, List.set_cons_succ, List.getElem_toArray, List.getElem_cons_succ, List.getElem_cons_zero]
        refine wpAnyH_ready (rs := [3]) (by kernel_rfl) (by simp) ?_
        refine AllReadyH.cons rfl (fun K hK => ?_) AllReadyH.nil
        go_simp
        go_at_call 7
        refine (appX_any (LX.l (LX.l ((LX.it kA).hig 2 2))) (LX.v 1) _ _ _ (by exact ⟨a1, c1, rfl, SV1.out⟩) (by exact ⟨none, 0, rfl, ⟨by simp [LX.m], Or.inl rfl⟩⟩)).mono ?_
        rintro e w3 ⟨a3, c3, rfl, SV3', hb⟩
        have SV3 := hide SV3'
        have hbb : Below (w2).heap.size (w2) w3 := hb
        have k3 := hide (k2.out.trans (hbb.mono k2.out.size))
        have NB := hide (NB.out.below hbb NB.out.lt)
        clear hb hbb
        go_simp
        refine hK.out _ _ (by exact KP.out _ k3.out) (fun hHeld => ?_)
        clear hK K
        try simp only [Act.put, List.setIfInBounds_toArray, List.set_cons_zero, List.set_cons_succ, List.getElem_toArray, List.getElem_cons_succ, List.getElem_cons_zero]
        refine wpAnyH_ready (rs := [5]) (by kernel_rfl) (by simp) ?_
        refine AllReadyH.cons rfl (fun K hK => ?_) AllReadyH.nil
        go_simp
        go_at_call 8
        refine (hgN_any kB 2 HKB.out (by omega) aB cB _ (fun _ => True) (by exact SB.out.later k3.out)).mono ?_
        rintro e w4 ⟨a4, c4, rfl, SV4', hb⟩
        have SV4 := hide SV4'
        have hbb : Below (w3).heap.size (w3) w4 := hb
        have k4 := hide (k3.out.trans (hbb.mono k3.out.size))
        have SV3 := hide (SV3.out.later hbb)
        have NB := hide (NB.out.below hbb NB.out.lt)
        clear hb hbb
        go_simp
        refine hK.out _ _ (by exact KP.out _ k4.out) (fun hHeld => ?_)
        clear hK K
        try simp only [Act.put, List.setIfInBounds_toArray, List.set_cons_zero, List.set_cons_succ, List.getElem_toArray, List.getElem_cons_succ, List.getElem_cons_zero]
        refine wpAnyH_ready (rs := [6]) (by kernel_rfl) (by simp) ?_
        refine AllReadyH.cons rfl (fun K hK => ?_) AllReadyH.nil
        go_simp
        go_at_call 9
        refine (varR_any 1 _).mono ?_
        rintro e w5 ⟨rfl, hb⟩
        have hbb : Below (w4).heap.size (w4) w5 := hb
        have k5 := hide (k4.out.trans (hbb.mono k4.out.size))
        have SV3 := hide (SV3.out.later hbb)
        have SV4 := hide (SV4.out.later hbb)
        have NB := hide (NB.out.below hbb NB.out.lt)
        clear hb hbb
        go_simp
        refine hK.out _ _ (by exact KP.out _ k5.out) (fun hHeld => ?_)
        clear hK K
        try simp only [Act.put, List.setIfInBounds_toArray, List.set_cons_zero, List.set_cons_succ, List.getElem_toArray, List.getElem_cons_succ, List.getElem_cons_zero]
        refine wpAnyH_ready (rs := [7]) (by kernel_rfl) (by simp) ?_
        refine AllReadyH.cons rfl (fun K hK => ?_) AllReadyH.nil
        go_simp
        go_at_call 7
        refine (appX_any (LX.l (LX.l ((LX.it kB).hig 2 2))) (LX.v 1) _ _ _ (by exact ⟨a4, c4, rfl, SV4.out⟩) (by exact ⟨none, 0, rfl, ⟨by simp [LX.m], Or.inl rfl⟩⟩)).mono ?_
        rintro e w6 ⟨a6, c6, rfl, SV6', hb⟩
        have SV6 := hide SV6'
        have hbb : Below (w5).heap.size (w5) w6 := hb
        have k6 := hide (k5.out.trans (hbb.mono k5.out.size))
        have SV3 := hide (SV3.out.later hbb)
        have NB := hide (NB.out.below hbb NB.out.lt)
        clear hb hbb
        go_simp
        refine hK.out _ _ (by exact KP.out _ k6.out) (fun hHeld => ?_)
        clear hK K
        try simp only [Act.put, List.setIfInBounds_toArray, List.set_cons_zero, List.set_cons_succ, List.getElem_toArray, List.getElem_cons_succ, List.getElem_cons_zero]
        refine wpAnyH_ready (rs := [8]) (by kernel_rfl) (by simp) ?_
        refine AllReadyH.cons rfl (fun K hK => ?_) AllReadyH.nil
        go_simp
        go_at_call 9
        refine (varR_any 0 _).mono ?_
        rintro e w7 ⟨rfl, hb⟩
        have hbb : Below (w6).heap.size (w6) w7 := hb
        have k7 := hide (k6.out.trans (hbb.mono k6.out.size))
        have SV3 := hide (SV3.out.later hbb)
        have SV6 := hide (SV6.out.later hbb)
        have NB := hide (NB.out.below hbb NB.out.lt)
        clear hb hbb
        go_simp
        refine hK.out _ _ (by exact KP.out _ k7.out) (fun hHeld => ?_)
        clear hK K
        try simp only [Act.put, List.setIfInBounds_toArray, List.set_cons_zero, List.set_cons_succ, List.getElem_toArray, List.getElem_cons_succ, List.getElem_cons_zero]
        refine wpAnyH_ready (rs := [9]) (by kernel_rfl) (by simp) ?_
        refine AllReadyH.cons rfl (fun K hK => ?_) AllReadyH.nil
        go_simp
        go_at_call 7
        refine (appX_any (LX.a (LX.l (LX.l ((LX.it kB).hig 2 2))) (LX.v 1)) (LX.v 0) _ _ _ (by exact ⟨a6, c6, rfl, SV6.out⟩) (by exact ⟨none, 0, rfl, ⟨by simp [LX.m], Or.inl rfl⟩⟩)).mono ?_
        rintro e w8 ⟨a8, c8, rfl, SV8', hb⟩
        have SV8 := hide SV8'
        have hbb : Below (w7).heap.size (w7) w8 := hb
        have k8 := hide (k7.out.trans (hbb.mono k7.out.size))
        have SV3 := hide (SV3.out.later hbb)
        have NB := hide (NB.out.below hbb NB.out.lt)
        clear hb hbb
        go_simp
        refine hK.out _ _ (by exact KP.out _ k8.out) (fun hHeld => ?_)
        clear hK K
        try simp only [Act.put, List.setIfInBounds_toArray, List.set_cons_zero, List.set_cons_succ, List.getElem_toArray, List.getElem_cons_succ, List.getElem_cons_zero]
        refine wpAnyH_ready (rs := [10]) (by kernel_rfl) (by simp) ?_
        refine AllReadyH.cons rfl (fun K hK => ?_) AllReadyH.nil
        go_simp
        go_at_call 7
        refine (appX_any (LX.a (LX.l (LX.l ((LX.it kA).hig 2 2))) (LX.v 1)) (LX.a (LX.a (LX.l (LX.l ((LX.it kB).hig 2 2))) (LX.v 1)) (LX.v 0)) _ _ _ (by exact ⟨a3, c3, rfl, SV3.out⟩) (by exact ⟨a8, c8, rfl, SV8.out⟩)).mono ?_
        rintro e w9 ⟨a9, c9, rfl, SV9', hb⟩
        have SV9 := hide SV9'
        have hbb : Below (w8).heap.size (w8) w9 := hb
        have k9 := hide (k8.out.trans (hbb.mono k8.out.size))
        have NB := hide (NB.out.below hbb NB.out.lt)
        clear hb hbb
        go_simp
        refine hK.out _ _ (by exact KP.out _ k9.out) (fun hHeld => ?_)
        clear hK K
        try simp only [Act.put, List.setIfInBounds_toArray, List.set_cons_zero, List.set_cons_succ, List.getElem_toArray, List.getElem_cons_succ, List.getElem_cons_zero]
        refine wpAnyH_ready (rs := [11]) (by kernel_rfl) (by simp) ?_
        refine AllReadyH.cons rfl (fun K hK => ?_) AllReadyH.nil
        go_simp
        go_at_call 6
        refine (funX_any (LX.a (LX.a (LX.l (LX.l ((LX.it kA).hig 2 2))) (LX.v 1)) (LX.a (LX.a (LX.l (LX.l ((LX.it kB).hig 2 2))) (LX.v 1)) (LX.v 0))) _ _ (by exact ⟨a9, c9, rfl, SV9.out⟩)).mono ?_
        rintro e w10 ⟨a10, c10, rfl, SV10', hb⟩
        have SV10 := hide SV10'
        have hbb : Below (w9).heap.size (w9) w10 := hb
        have k10 := hide (k9.out.trans (hbb.mono k9.out.size))
        have NB := hide (NB.out.below hbb NB.out.lt)
        clear hb hbb
        go_simp
        refine hK.out _ _ (by exact KP.out _ k10.out) (fun hHeld => ?_)
        clear hK K
        try simp only [Act.put, List.setIfInBounds_toArray, List.set_cons_zero, List.set_cons_succ, List.getElem_toArray, List.getElem_cons_succ, List.getElem_cons_zero]
        refine wpAnyH_ready (rs := [12]) (by kernel_rfl) (by simp) ?_
        refine AllReadyH.cons rfl (fun K hK => ?_) AllReadyH.nil
        go_simp
        go_at_call 6
        refine (funX_any (LX.l (LX.a (LX.a (LX.l (LX.l ((LX.it kA).hig 2 2))) (LX.v 1)) (LX.a (LX.a (LX.l (LX.l ((LX.it kB).hig 2 2))) (LX.v 1)) (LX.v 0)))) _ _ (by exact ⟨a10, c10, rfl, SV10.out⟩)).mono ?_
        rintro e w11 ⟨a11, c11, rfl, SV11', hb⟩
        have SV11 := hide SV11'
        have hbb : Below (w10).heap.size (w10) w11 := hb
        have k11 := hide (k10.out.trans (hbb.mono k10.out.size))
        have NB := hide (NB.out.below hbb NB.out.lt)
        clear hb hbb
        go_simp
        refine hK.out _ _ (by exact KP.out _ k11.out) (fun hHeld => ?_)
        clear hK K
        try simp only [Act.put, List.setIfInBounds_toArray, List.set_cons_zero, List.set_cons_succ, List.getElem_toArray, List.getElem_cons_succ, List.getElem_cons_zero]
        have q0 := NB.out.cell 0
        have q1 := NB.out.cell 1
        have q2 := NB.out.cell 2
        have qf := NB.out.frozen
        simp only [List.getElem?_toArray, List.getElem?_cons_succ, List.getElem?_cons_zero] at q0 q1 q2
        refine wpAnyH_ready (rs := [14]) (by kernel_rfl) (by simp) ?_
        refine AllReadyH.cons rfl (fun K hK => ?_) AllReadyH.nil
        go_simp
        refine hK.out _ _ (by exact KP.out _ (bl_setA k11.out _ (by have := k1.out.size; first | omega | exact this) _ _ _)) (fun hHeld => ?_)
        clear hK K
        try simp only [Act.put, List.setIfInBounds_toArray, List.set_cons_zero, List.set_cons_succ, List.getElem_toArray, List.getElem_cons_succ, List.getElem_cons_zero]
        refine wpAnyH_done (by kernel_rfl) ?_ _
        go_wp2_with fail
        go_meet
        exact mkX_first (t := plusX kA kB) HOK.out (by have := k1.out.size; first | omega | exact this) NB.out k11.out SV11.out
    · go_simp
      refine hK.out _ _ (by exact KP.out _ (k0.out.alloc k0.out.size _)) (fun hHeld => ?_)
      clear hK K
      try simp only [Act.put, List.setIfInBounds_toArray, List.set_cons_zero, List.set_cons_succ, List.getElem_toArray, List.getElem_cons_succ, List.getElem_cons_zero]
      refine wpAnyH_ready (rs := [1]) (by kernel_rfl) (by simp) ?_
      refine AllReadyH.cons rfl (fun K hK => ?_) AllReadyH.nil
      go_simp
      go_at_call 8
      refine (hgN_any kA 2 HKA.out (by omega) aA cA _ (fun _ => True) (by exact SA.out.later (k0.out.alloc k0.out.size _))).mono ?_
      rintro e w1 ⟨a1, c1, rfl, SV1', hb⟩
      have SV1 := hide SV1'
      have hbb : Below (wA.drew).heap.size (wA.drew) w1 := ((Below.refl _ _).alloc (Nat.le_refl _) _).trans (hb.mono (by simp))
      have NB : Hid (Blk w1 wA.heap.size #[.int .i64 0, .int .i64 0, .slice none 0 0] 25) := hide ((Blk.new (wA.drew) #[.int .i64 0, .int .i64 0, .slice none 0 0] 25).below hb (by simp))
      have k1 := hide (k0.out.trans (hbb.mono k0.out.size))
      clear hb hbb
      go_simp
      refine hK.out _ _ (by exact KP.out _ k1.out) (fun hHeld => ?_)
      clear hK K
      try simp only [Act.put, List.setIfInBounds_toArray, List.set_cons_zero, List.set_cons_succ, List.getElem_toArray, List.getElem_cons_succ, List.getElem_cons_zero]
      refine wpAnyH_ready (rs := [2]) (by kernel_rfl) (by simp) ?_
      refine AllReadyH.cons rfl (fun K hK => ?_) AllReadyH.nil
      go_simp
      go_at_call 9
      refine (varR_any 1 _).mono ?_
      rintro e w2 ⟨rfl, hb⟩
      have hbb : Below (w1).heap.size (w1) w2 := hb
      have k2 := hide (k1.out.trans (hbb.mono k1.out.size))
      have SV1 := hide (SV1.out.later hbb)
      have NB := hide (NB.out.below hbb NB.out.lt)
      clear hb hbb
      go_simp
      refine hK.out _ _ (by exact KP.out _ k2.out) (fun hHeld => ?_)
      clear hK K
      try simp only [Act.put, List.setIfInBounds_toArray, List.set_cons_zero, List.set_cons_succ, List.getElem_toArray, List.getElem_cons_succ, List.getElem_cons_zero]
      refine wpAnyH_ready (rs := [3]) (by kernel_rfl) (by simp) ?_
      refine AllReadyH.cons rfl (fun K hK => ?_) AllReadyH.nil
      go_simp
      go_at_call 7
      refine (appX_any (LX.l (LX.l ((LX.it kA).hig 2 2))) (LX.v 1) _ _ _ (by exact ⟨a1, c1, rfl, SV1.out⟩) (by exact ⟨none, 0, rfl, ⟨by simp [LX.m], Or.inl rfl⟩⟩)).mono ?_
      rintro e w3 ⟨a3, c3, rfl, SV3', hb⟩
      have SV3 := hide SV3'
      have hbb : Below (w2).heap.size (w2) w3 := hb
      have k3 := hide (k2.out.trans (hbb.mono k2.out.size))
      have NB := hide (NB.out.below hbb NB.out.lt)
      clear hb hbb
      go_simp
      refine hK.out _ _ (by exact KP.out _ k3.out) (fun hHeld => ?_)
      clear hK K
      try simp only [Act.put, List.setIfInBounds_toArray, List.set_cons_zero, List.set_cons_succ, List.getElem_toArray, List.getElem_cons_succ, List.getElem_cons_zero]
      refine wpAnyH_ready (rs := [5]) (by kernel_rfl) (by simp) ?_
      refine AllReadyH.cons rfl (fun K hK => ?_) AllReadyH.nil
      go_simp
      go_at_call 8
      refine (hgN_any kB 2 HKB.out (by omega) aB cB _ (fun _ => True) (by exact SB.out.later k3.out)).mono ?_
      rintro e w4 ⟨a4, c4, rfl, SV4', hb⟩
      have SV4 := hide SV4'
      have hbb : Below (w3).heap.size (w3) w4 := hb
      have k4 := hide (k3.out.trans (hbb.mono k3.out.size))
      have SV3 := hide (SV3.out.later hbb)
      have NB := hide (NB.out.below hbb NB.out.lt)
      clear hb hbb
      go_simp
      refine hK.out _ _ (by exact KP.out _ k4.out) (fun hHeld => ?_)
      clear hK K
      try simp only [Act.put, List.setIfInBounds_toArray, List.set_cons_zero, List.set_cons_succ, List.getElem_toArray, List.getElem_cons_succ, List.getElem_cons_zero]
      refine wpAnyH_ready (rs := [6]) (by kernel_rfl) (by simp) ?_
      refine AllReadyH.cons rfl (fun K hK => ?_) AllReadyH.nil
      go_simp
      go_at_call 9
      refine (varR_any 1 _).mono ?_
      rintro e w5 ⟨rfl, hb⟩
      have hbb : Below (w4).heap.size (w4) w5 := hb
      have k5 := hide (k4.out.trans (hbb.mono k4.out.size))
      have SV3 := hide (SV3.out.later hbb)
      have SV4 := hide (SV4.out.later hbb)
      have NB := hide (NB.out.below hbb NB.out.lt)
      clear hb hbb
      go_simp
      refine hK.out _ _ (by exact KP.out _ k5.out) (fun hHeld => ?_)
      clear hK K
      try simp only [Act.put, List.setIfInBounds_toArray, List.set_cons_zero, List.set_cons_succ, List.getElem_toArray, List.getElem_cons_succ, List.getElem_cons_zero]
      refine wpAnyH_ready (rs := [7]) (by kernel_rfl) (by simp) ?_
      refine AllReadyH.cons rfl (fun K hK => ?_) AllReadyH.nil
      go_simp
      go_at_call 7
      refine (appX_any (LX.l (LX.l ((LX.it kB).hig 2 2))) (LX.v 1) _ _ _ (by exact ⟨a4, c4, rfl, SV4.out⟩) (by exact ⟨none, 0, rfl, ⟨by simp [LX.m], Or.inl rfl⟩⟩)).mono ?_
      rintro e w6 ⟨a6, c6, rfl, SV6', hb⟩
      have SV6 := hide SV6'
      have hbb : Below (w5).heap.size (w5) w6 := hb
      have k6 := hide (k5.out.trans (hbb.mono k5.out.size))
      have SV3 := hide (SV3.out.later hbb)
      have NB := hide (NB.out.below hbb NB.out.lt)
      clear hb hbb
      go_simp
      refine hK.out _ _ (by exact KP.out _ k6.out) (fun hHeld => ?_)
      clear hK K
      try simp only [Act.put, List.setIfInBounds_toArray, List.set_cons_zero, List.set_cons_succ, List.getElem_toArray, List.getElem_cons_succ, List.getElem_cons_zero]
      refine wpAnyH_ready (rs := [8]) (by kernel_rfl) (by simp) ?_
      refine AllReadyH.cons rfl (fun K hK => ?_) AllReadyH.nil
      go_simp
      go_at_call 9
      refine (varR_any 0 _).mono ?_
      rintro e w7 ⟨rfl, hb⟩
      have hbb : Below (w6).heap.size (w6) w7 := hb
      have k7 := hide (k6.out.trans (hbb.mono k6.out.size))
      have SV3 := hide (SV3.out.later hbb)
      have SV6 := hide (SV6.out.later hbb)
      have NB := hide (NB.out.below hbb NB.out.lt)
      clear hb hbb
      go_simp
      refine hK.out _ _ (by exact KP.out _ k7.out) (fun hHeld => ?_)
      clear hK K
      try simp only [Act.put, List.setIfInBounds_toArray, List.set_cons_zero, List.set_cons_succ, List.getElem_toArray, List.getElem_cons_succ, List.getElem_cons_zero]
      refine wpAnyH_ready (rs := [9]) (by kernel_rfl) (by simp) ?_
      refine AllReadyH.cons rfl (fun K hK => ?_) AllReadyH.nil
      go_simp
      go_at_call 7
      refine (appX_any (LX.a (LX.l (LX.l ((LX.it kB).hig 2 2))) (LX.v 1)) (LX.v 0) _ _ _ (by exact ⟨a6, c6, rfl, SV6.out⟩) (by exact ⟨none, 0, rfl, ⟨by simp [LX.m], Or.inl rfl⟩⟩)).mono ?_
      rintro e w8 ⟨a8, c8, rfl, SV8', hb⟩
      have SV8 := hide SV8'
      have hbb : Below (w7).heap.size (w7) w8 := hb
      have k8 := hide (k7.out.trans (hbb.mono k7.out.size))
      have SV3 := hide (SV3.out.later hbb)
      have NB := hide (NB.out.below hbb NB.out.lt)
      clear hb hbb
      go_simp
      refine hK.out _ _ (by exact KP.out _ k8.out) (fun hHeld => ?_)
      clear hK K
      try simp only [Act.put, List.setIfInBounds_toArray, List.set_cons_zero, List.set_cons_succ, List.getElem_toArray, List.getElem_cons_succ, List.getElem_cons_zero]
      refine wpAnyH_ready (rs := [10]) (by kernel_rfl) (by simp) ?_
      refine AllReadyH.cons rfl (fun K hK => ?_) AllReadyH.nil
      go_simp
      go_at_call 7
      refine (appX_any (LX.a (LX.l (LX.l ((LX.it kA).hig 2 2))) (LX.v 1)) (LX.a (LX.a (LX.l (LX.l ((LX.it kB).hig 2 2))) (LX.v 1)) (LX.v 0)) _ _ _ (by exact ⟨a3, c3, rfl, SV3.out⟩) (by exact ⟨a8, c8, rfl, SV8.out⟩)).mono ?_
      rintro e w9 ⟨a9, c9, rfl, SV9', hb⟩
      have SV9 := hide SV9'
      have hbb : Below (w8).heap.size (w8) w9 := hb
      have k9 := hide (k8.out.trans (hbb.mono k8.out.size))
      have NB := hide (NB.out.below hbb NB.out.lt)
      clear hb hbb
      go_simp
      refine hK.out _ _ (by exact KP.out _ k9.out) (fun hHeld => ?_)
      clear hK K
      try simp only [Act.put, List.setIfInBounds_toArray, List.set_cons_zero, List.set_cons_succ, List.getElem_toArray, List.getElem_cons_succ, List.getElem_cons_zero]
      refine wpAnyH_ready (rs := [11]) (by kernel_rfl) (by simp) ?_
      refine AllReadyH.cons rfl (fun K hK => ?_) AllReadyH.nil
      go_simp
      go_at_call 6
      refine (funX_any (LX.a (LX.a (LX.l (LX.l ((LX.it kA).hig 2 2))) (LX.v 1)) (LX.a (LX.a (LX.l (LX.l ((LX.it kB).hig 2 2))) (LX.v 1)) (LX.v 0))) _ _ (by exact ⟨a9, c9, rfl, SV9.out⟩)).mono ?_
      rintro e w10 ⟨a10, c10, rfl, SV10', hb⟩
      have SV10 := hide SV10'
      have hbb : Below (w9).heap.size (w9) w10 := hb
      have k10 := hide (k9.out.trans (hbb.mono k9.out.size))
      have NB := hide (NB.out.below hbb NB.out.lt)
      clear hb hbb
      go_simp
      refine hK.out _ _ (by exact KP.out _ k10.out) (fun hHeld => ?_)
      clear hK K
      try simp only [Act.put, List.setIfInBounds_toArray, List.set_cons_zero, List.set_cons_succ, List.getElem_toArray, List.getElem_cons_succ, List.getElem_cons_zero]
      refine wpAnyH_ready (rs := [12]) (by kernel_rfl) (by simp) ?_
      refine AllReadyH.cons rfl (fun K hK => ?_) AllReadyH.nil
      go_simp
      go_at_call 6
      refine (funX_any (LX.l (LX.a (LX.a (LX.l (LX.l ((LX.it kA).hig 2 2))) (LX.v 1)) (LX.a (LX.a (LX.l (LX.l ((LX.it kB).hig 2 2))) (LX.v 1)) (LX.v 0)))) _ _ (by exact ⟨a10, c10, rfl, SV10.out⟩)).mono ?_
      rintro e w11 ⟨a11, c11, rfl, SV11', hb⟩
      have SV11 := hide SV11'
      have hbb : Below (w10).heap.size (w10) w11 := hb
      have k11 := hide (k10.out.trans (hbb.mono k10.out.size))
      have NB := hide (NB.out.below hbb NB.out.lt)
      clear hb hbb
      go_simp
      refine hK.out _ _ (by exact KP.out _ k11.out) (fun hHeld => ?_)
      clear hK K
      try simp only [Act.put, List.setIfInBounds_toArray, List.set_cons_zero, List.set_cons_succ, List.getElem_toArray, List.getElem_cons_succ, List.getElem_cons_zero]
      have q0 := NB.out.cell 0
      have q1 := NB.out.cell 1
      have q2 := NB.out.cell 2
      have qf := NB.out.frozen
      simp only [List.getElem?_toArray, List.getElem?_cons_succ, List.getElem?_cons_zero] at q0 q1 q2
      refine wpAnyH_ready (rs := [14]) (by kernel_rfl) (by simp) ?_
      refine AllReadyH.cons rfl (fun K hK => ?_) AllReadyH.nil
      go_simp
      refine hK.out _ _ (by exact KP.out _ (bl_setA k11.out _ (by have := k0.out.size; first | omega | exact this) _ _ _)) (fun hHeld => ?_)
      clear hK K
      try simp only [Act.put, List.setIfInBounds_toArray, List.set_cons_zero, List.set_cons_succ, List.getElem_toArray, List.getElem_cons_succ, List.getElem_cons_zero]
      refine wpAnyH_done (by kernel_rfl) ?_ _
      go_wp2_with fail
      go_meet
      exact mkX_first (t := plusX kA kB) HOK.out (by have := k0.out.size; first | omega | exact this) NB.out k11.out SV11.out
  case rest =>
    obtain ⟨wd, hwd⟩ : ∃ x, x = wc := ⟨_, rfl⟩
    subst hwd
    obtain ⟨P9, _, a9, c9, rfl, hP9, hB9, hs9, hb9⟩ := hcut
    have K9 := hide hB9
    have S9 := hide hs9
    have KA := hide (KA.out.below hb9 KA.out.lt)
    have KB := hide (KB.out.below hb9 KB.out.lt)
    have SA := hide (SA.out.later hb9)
    have SB := hide (SB.out.later hb9)
    have BA := hide (BA.out.trans (hb9.mono BA.out.size))
    have HOK : Hid ((timesX kA kB).ok 0 = true) := (t4X kA HKA.out kB HKB4.out).1.2.1
    clear hB9 hs9 hb9 hP9
    go_upto_region 8 with fail
    go_cut [10] (fun s10 we => MkX (timesX kA kB) wd s10 we)
    case first =>
      clear hkA hkB
      have KP : Hid (∀ w', Below wd.heap.size wd w' → w'.cell? ⟨PA, 0, none⟩ = some (.int .i64 2) ∧ w'.cell? ⟨PA, 1, none⟩ = some (.int .i64 0) ∧ w'.cell? ⟨PA, 2, none⟩ = some (.slice aA 1 cA) ∧ w'.cell? ⟨PB, 0, none⟩ = some (.int .i64 2) ∧ w'.cell? ⟨PB, 1, none⟩ = some (.int .i64 0) ∧ w'.cell? ⟨PB, 2, none⟩ = some (.slice aB 1 cB)) := fun w' hb => ⟨(KA.out.below hb KA.out.lt).cell 0, (KA.out.below hb KA.out.lt).cell 1, (KA.out.below hb KA.out.lt).cell 2, (KB.out.below hb KB.out.lt).cell 0, (KB.out.below hb KB.out.lt).cell 1, (KB.out.below hb KB.out.lt).cell 2⟩
      have k0 : Hid (Below wd.heap.size wd wd.drew) := (Below.refl _ _).drew
      refine wp_region_held_drew (S := fun w' => w'.cell? ⟨PA, 0, none⟩ = some (.int .i64 2) ∧ w'.cell? ⟨PA, 1, none⟩ = some (.int .i64 0) ∧ w'.cell? ⟨PA, 2, none⟩ = some (.slice aA 1 cA) ∧ w'.cell? ⟨PB, 0, none⟩ = some (.int .i64 2) ∧ w'.cell? ⟨PB, 1, none⟩ = some (.int .i64 0) ∧ w'.cell? ⟨PB, 2, none⟩ = some (.slice aB 1 cB)) (by kernel_rfl) (KP.out _ k0.out) (fun hHeld => ?_)
      refine wpAnyH_take (i := 0) (v := ?_) rfl (by kernel_rfl) (by kernel_rfl) (by kernel_rfl) (fun _ _ _ h => h) (Or.inl ⟨by rfl, ?_⟩) (by assumption) ?_
      rotate_left
      · intro w' hSw
        have e0 := hSw.1
        have e1 := hSw.2.1
        have e2 := hSw.2.2.1
        go_simp <;> with_reducible rfl
      try simp only [Act.put, List.setIfInBounds_toArray, List.set_cons_zero, List.set_cons_succ, List.getElem_toArray, List.getElem_cons_succ, List.getElem_cons_zero]
      refine wpAnyH_take (i := 2) (v := ?_) rfl (by kernel_rfl) (by kernel_rfl) (by kernel_rfl) (fun _ _ _ h => h) (Or.inl ⟨by rfl, ?_⟩) (by assumption) ?_
      rotate_left
      · intro w' hSw
        have e0 := hSw.2.2.2.1
        have e1 := hSw.2.2.2.2.1
        have e2 := hSw.2.2.2.2.2
        go_simp <;> with_reducible rfl
      try simp only [Act.put, List.setIfInBounds_toArray, List.set_cons_zero, List.set_cons_succ, List.getElem_toArray, List.getElem_cons_succ, List.getElem_cons_zero]
      refine wpAnyH_ready (rs := [1, 8]) (by kernel_rfl) (by simp) ?_
      refine AllReadyH.cons rfl (fun K hK => ?_) (AllReadyH.cons rfl (fun K hK => ?_) AllReadyH.nil)
      · go_simp
        go_at_call 8
        refine (hgN_any kA 1 HKA.out (by omega) aA cA _ (fun _ => True) (by exact SA.out.later k0.out)).mono ?_
        rintro e w1 ⟨a1, c1, rfl, SV1', hb⟩
        have SV1 := hide SV1'
        have hbb : Below (wd.drew).heap.size (wd.drew) w1 := hb
        have k1 := hide (k0.out.trans (hbb.mono k0.out.size))
        clear hb hbb
        go_simp
        refine hK.out _ _ (by exact KP.out _ k1.out) (fun hHeld => ?_)
        clear hK K
        try simp only [Act.put, List.setIfInBounds_toArray, List.set_cons_zero, List.set_cons_succ, List.getElem_toArray, List.getElem_cons_succ, List.getElem_cons_zero]
        refine wpAnyH_ready (rs := [3, 8]) (by kernel_rfl) (by simp) ?_
        refine AllReadyH.cons rfl (fun K hK => ?_) (AllReadyH.cons rfl (fun K hK => ?_) AllReadyH.nil)
        · go_simp
          go_at_call 8
          refine (hgN_any kB 1 HKB.out (by omega) aB cB _ (fun _ => True) (by exact SB.out.later k1.out)).mono ?_
          rintro e w2 ⟨a2, c2, rfl, SV2', hb⟩
          have SV2 := hide SV2'
          have hbb : Below (w1).heap.size (w1) w2 := hb
          have k2 := hide (k1.out.trans (hbb.mono k1.out.size))
          have SV1 := hide (SV1.out.later hbb)
          clear hb hbb
          go_simp
          refine hK.out _ _ (by exact KP.out _ k2.out) (fun hHeld => ?_)
          clear hK K
          try simp only [Act.put, List.setIfInBounds_toArray, List.set_cons_zero, List.set_cons_succ, List.getElem_toArray, List.getElem_cons_succ, List.getElem_cons_zero]
          refine wpAnyH_ready (rs := [4, 8]) (by kernel_rfl) (by simp) ?_
          refine AllReadyH.cons rfl (fun K hK => ?_) (AllReadyH.cons rfl (fun K hK => ?_) AllReadyH.nil)
          · go_simp
            go_at_call 9
            refine (varR_any 0 _).mono ?_
            rintro e w3 ⟨rfl, hb⟩
            have hbb : Below (w2).heap.size (w2) w3 := hb
            have k3 := hide (k2.out.trans (hbb.mono k2.out.size))
            have SV1 := hide (SV1.out.later hbb)
            have SV2 := hide (SV2.out.later hbb)
            clear hb hbb
            go_simp
            refine hK.out _ _ (by exact KP.out _ k3.out) (fun hHeld => ?_)
            clear hK K
            try simp only [Act.put, List.setIfInBounds_toArray, List.set_cons_zero, List.set_cons_succ, List.getElem_toArray, List.getElem_cons_succ, List.getElem_cons_zero]
            refine wpAnyH_ready (rs := [5, 8]) (by kernel_rfl) (by simp) ?_
            refine AllReadyH.cons rfl (fun K hK => ?_) (AllReadyH.cons rfl (fun K hK => ?_) AllReadyH.nil)
            · go_simp
              go_at_call 7
              refine (appX_any (LX.l (LX.l ((LX.it kB).hig 1 2))) (LX.v 0) _ _ _ (by exact ⟨a2, c2, rfl, SV2.out⟩) (by exact ⟨none, 0, rfl, ⟨by simp [LX.m], Or.inl rfl⟩⟩)).mono ?_
              rintro e w4 ⟨a4, c4, rfl, SV4', hb⟩
              have SV4 := hide SV4'
              have hbb : Below (w3).heap.size (w3) w4 := hb
              have k4 := hide (k3.out.trans (hbb.mono k3.out.size))
              have SV1 := hide (SV1.out.later hbb)
              clear hb hbb
              go_simp
              refine hK.out _ _ (by exact KP.out _ k4.out) (fun hHeld => ?_)
              clear hK K
              try simp only [Act.put, List.setIfInBounds_toArray, List.set_cons_zero, List.set_cons_succ, List.getElem_toArray, List.getElem_cons_succ, List.getElem_cons_zero]
              refine wpAnyH_ready (rs := [6, 8]) (by kernel_rfl) (by simp) ?_
              refine AllReadyH.cons rfl (fun K hK => ?_) (AllReadyH.cons rfl (fun K hK => ?_) AllReadyH.nil)
              · go_simp
                go_at_call 7
                refine (appX_any (LX.l (LX.l ((LX.it kA).hig 1 2))) (LX.a (LX.l (LX.l ((LX.it kB).hig 1 2))) (LX.v 0)) _ _ _ (by exact ⟨a1, c1, rfl, SV1.out⟩) (by exact ⟨a4, c4, rfl, SV4.out⟩)).mono ?_
                rintro e w5 ⟨a5, c5, rfl, SV5', hb⟩
                have SV5 := hide SV5'
                have hbb : Below (w4).heap.size (w4) w5 := hb
                have k5 := hide (k4.out.trans (hbb.mono k4.out.size))
                clear hb hbb
                go_simp
                refine hK.out _ _ (by exact KP.out _ k5.out) (fun hHeld => ?_)
                clear hK K
                try simp only [Act.put, List.setIfInBounds_toArray, List.set_cons_zero, List.set_cons_succ, List.getElem_toArray, List.getElem_cons_succ, List.getElem_cons_zero]
                refine wpAnyH_ready (rs := [7, 8]) (by kernel_rfl) (by simp) ?_
                refine AllReadyH.cons rfl (fun K hK => ?_) (AllReadyH.cons rfl (fun K hK => ?_) AllReadyH.nil)
                · go_simp
                  go_at_call 6
                  refine (funX_any (LX.a (LX.l (LX.l ((LX.it kA).hig 1 2))) (LX.a (LX.l (LX.l ((LX.it kB).hig 1 2))) (LX.v 0))) _ _ (by exact ⟨a5, c5, rfl, SV5.out⟩)).mono ?_
                  rintro e w6 ⟨a6, c6, rfl, SV6', hb⟩
                  have SV6 := hide SV6'
                  have hbb : Below (w5).heap.size (w5) w6 := hb
                  have k6 := hide (k5.out.trans (hbb.mono k5.out.size))
                  clear hb hbb
                  go_simp
                  refine hK.out _ _ (by exact KP.out _ k6.out) (fun hHeld => ?_)
                  clear hK K
                  try simp only [Act.put, List.setIfInBounds_toArray, List.set_cons_zero, List.set_cons_succ, List.getElem_toArray, List.getElem_cons_succ, List.getElem_cons_zero]
                  refine wpAnyH_ready (rs := [8]) (by kernel_rfl) (by simp) ?_
                  refine AllReadyH.cons rfl (fun K hK => ?_) AllReadyH.nil
                  go_simp
                  refine hK.out _ _ (by exact KP.out _ (k6.out.alloc k6.out.size _)) (fun hHeld => ?_)
                  clear hK K
                  try simp only [Act.put, List.setIfInBounds_toArray, List.set_cons_zero, List.set_cons_succ, List.getElem_toArray, List.getElem_cons_succ, List.getElem_cons_zero]
                  refine wpAnyH_ready (rs := [9]) (by kernel_rfl) (by simp) ?_
                  refine AllReadyH.cons rfl (fun K hK => ?_) AllReadyH.nil
                  go_simp
                  refine hK.out _ _ (by exact KP.out _ (k6.out.alloc k6.out.size _)) (fun hHeld => ?_)
                  clear hK K
                  try simp only [Act.put, List.setIfInBounds_toArray, List.set_cons_zero, List.set_cons_succ, List.getElem_toArray, List.getElem_cons_succ, List.getElem_cons_zero]
                  refine wpAnyH_done (by kernel_rfl) ?_ _
                  go_wp2_with fail
                  go_meet
                  exact mkX_last (t := timesX kA kB) k6.out SV6.out
                · go_simp
                  refine hK.out _ _ (by exact KP.out _ (k5.out.alloc k5.out.size _)) (fun hHeld => ?_)
                  clear hK K
                  try simp only [Act.put, List.setIfInBounds_toArray, List.set_cons_zero, List.set_cons_succ, List.getElem_toArray, List.getElem_cons_succ, List.getElem_cons_zero]
                  refine wpAnyH_ready (rs := [7]) (by kernel_rfl) (by simp) ?_
                  refine AllReadyH.cons rfl (fun K hK => ?_) AllReadyH.nil
                  go_simp
                  go_at_call 6
                  refine (funX_any (LX.a (LX.l (LX.l ((LX.it kA).hig 1 2))) (LX.a (LX.l (LX.l ((LX.it kB).hig 1 2))) (LX.v 0))) _ _ (by exact ⟨a5, c5, rfl, SV5.out.later ((Below.refl _ _).alloc (Nat.le_refl _) _)⟩)).mono ?_
                  rintro e w6 ⟨a6, c6, rfl, SV6', hb⟩
                  have SV6 := hide SV6'
                  have hbb : Below (w5).heap.size (w5) w6 := ((Below.refl _ _).alloc (Nat.le_refl _) _).trans (hb.mono (by simp))
                  have NB := hide ((Blk.new (w5) #[.int .i64 0, .int .i64 0, .slice none 0 0] 25).below hb (by simp))
                  have k6 := hide (k5.out.trans (hbb.mono k5.out.size))
                  clear hb hbb
                  go_simp
                  refine hK.out _ _ (by exact KP.out _ k6.out) (fun hHeld => ?_)
                  clear hK K
                  try simp only [Act.put, List.setIfInBounds_toArray, List.set_cons_zero, List.set_cons_succ, List.getElem_toArray, List.getElem_cons_succ, List.getElem_cons_zero]
                  have q0 := NB.out.cell 0
                  have q1 := NB.out.cell 1
                  have q2 := NB.out.cell 2
                  have qf := NB.out.frozen
                  simp only [List.getElem?_toArray, List.getElem?_cons_succ, List.getElem?_cons_zero] at q0 q1 q2
                  refine wpAnyH_ready (rs := [9]) (by kernel_rfl) (by simp) ?_
                  refine AllReadyH.cons rfl (fun K hK => ?_) AllReadyH.nil
                  go_simp
                  refine hK.out _ _ (by exact KP.out _ (bl_setA k6.out _ (by have := k5.out.size; first | omega | exact this) _ _ _)) (fun hHeld => ?_)
                  clear hK K
                  try simp only [Act.put, List.setIfInBounds_toArray, List.set_cons_zero, List.set_cons_succ, List.getElem_toArray, List.getElem_cons_succ, List.getElem_cons_zero]
                  refine wpAnyH_done (by kernel_rfl) ?_ _
                  go_wp2_with fail
                  go_meet
                  exact mkX_first (t := timesX kA kB) HOK.out (by have := k5.out.size; first | omega | exact this) NB.out k6.out SV6.out
              · go_simp
                refine hK.out _ _ (by exact KP.out _ (k4.out.alloc k4.out.size _)) (fun hHeld => ?_)
                clear hK K
                try simp only [Act.put, List.setIfInBounds_toArray, List.set_cons_zero, List.set_cons_succ, List.getElem_toArray, List.getElem_cons_succ, List.getElem_cons_zero]
                refine wpAnyH_ready (rs := [6]) (by kernel_rfl) (by simp) ?_
                refine AllReadyH.cons rfl (fun K hK => ?_) AllReadyH.nil
                go_simp
                go_at_call 7
                refine (appX_any (LX.l (LX.l ((LX.it kA).hig 1 2))) (LX.a (LX.l (LX.l ((LX.it kB).hig 1 2))) (LX.v 0)) _ _ _ (by exact ⟨a1, c1, rfl, SV1.out.later ((Below.refl _ _).alloc (Nat.le_refl _) _)⟩) (by exact ⟨a4, c4, rfl, SV4.out.later ((Below.refl _ _).alloc (Nat.le_refl _) _)⟩)).mono ?_
                rintro e w5 ⟨a5, c5, rfl, SV5', hb⟩
                have SV5 := hide SV5'
                have hbb : Below (w4).heap.size (w4) w5 := ((Below.refl _ _).alloc (Nat.le_refl _) _).trans (hb.mono (by simp))
                have NB := hide ((Blk.new (w4) #[.int .i64 0, .int .i64 0, .slice none 0 0] 25).below hb (by simp))
                have k5 := hide (k4.out.trans (hbb.mono k4.out.size))
                clear hb hbb
                go_simp
                refine hK.out _ _ (by exact KP.out _ k5.out) (fun hHeld => ?_)
                clear hK K
                try simp only [Act.put, List.setIfInBounds_toArray, List.set_cons_zero, List.set_cons_succ, List.getElem_toArray, List.getElem_cons_succ, List.getElem_cons_zero]
                refine wpAnyH_ready (rs := [7]) (by kernel_rfl) (by simp) ?_
                refine AllReadyH.cons rfl (fun K hK => ?_) AllReadyH.nil
                go_simp
                go_at_call 6
                refine (funX_any (LX.a (LX.l (LX.l ((LX.it kA).hig 1 2))) (LX.a (LX.l (LX.l ((LX.it kB).hig 1 2))) (LX.v 0))) _ _ (by exact ⟨a5, c5, rfl, SV5.out⟩)).mono ?_
                rintro e w6 ⟨a6, c6, rfl, SV6', hb⟩
                have SV6 := hide SV6'
                have hbb : Below (w5).heap.size (w5) w6 := hb
                have k6 := hide (k5.out.trans (hbb.mono k5.out.size))
                have NB := hide (NB.out.below hbb NB.out.lt)
                clear hb hbb
                go_simp
                refine hK.out _ _ (by exact KP.out _ k6.out) (fun hHeld => ?_)
                clear hK K
                try simp only [Act.put, List.setIfInBounds_toArray, List.set_cons_zero, List.set_cons_succ, List.getElem_toArray, List.getElem_cons_succ, List.getElem_cons_zero]
                have q0 := NB.out.cell 0
                have q1 := NB.out.cell 1
                have q2 := NB.out.cell 2
                have qf := NB.out.frozen
                simp only [List.getElem?_toArray, List.getElem?_cons_succ, List.getElem?_cons_zero] at q0 q1 q2
                refine wpAnyH_ready (rs := [9]) (by kernel_rfl) (by simp) ?_
                refine AllReadyH.cons rfl (fun K hK => ?_) AllReadyH.nil
                go_simp
                refine hK.out _ _ (by exact KP.out _ (bl_setA k6.out _ (by have := k4.out.size; first | omega | exact this) _ _ _)) (fun hHeld => ?_)
                clear hK K
                try simp only [Act.put, List.setIfInBounds_toArray, List.set_cons_zero, List.set_cons_succ, List.getElem_toArray, List.getElem_cons_succ, List.getElem_cons_zero]
                refine wpAnyH_done (by kernel_rfl) ?_ _
                go_wp2_with fail
                go_meet
                exact mkX_first (t := timesX kA kB) HOK.out (by have := k4.out.size; first | omega | exact this) NB.out k6.out SV6.out
            · go_simp
              refine hK.out _ _ (by exact KP.out _ (k3.out.alloc k3.out.size _)) (fun hHeld => ?_)
              clear hK K
              try simp only [Act.put, List.setIfInBounds_toArray, List.set_cons_zero, List.set_cons_succ, List.getElem_toArray, List.getElem_cons_succ, List.getElem_cons_zero]
              refine wpAnyH_ready (rs := [5]) (by kernel_rfl) (by simp) ?_
              refine AllReadyH.cons rfl (fun K hK => ?_) AllReadyH.nil
              go_simp
              go_at_call 7
              refine (appX_any (LX.l (LX.l ((LX.it kB).hig 1 2))) (LX.v 0) _ _ _ (by exact ⟨a2, c2, rfl, SV2.out.later ((Below.refl _ _).alloc (Nat.le_refl _) _)⟩) (by exact ⟨none, 0, rfl, ⟨by simp [LX.m], Or.inl rfl⟩⟩)).mono ?_
              rintro e w4 ⟨a4, c4, rfl, SV4', hb⟩
              have SV4 := hide SV4'
              have hbb : Below (w3).heap.size (w3) w4 := ((Below.refl _ _).alloc (Nat.le_refl _) _).trans (hb.mono (by simp))
              have NB := hide ((Blk.new (w3) #[.int .i64 0, .int .i64 0, .slice none 0 0] 25).below hb (by simp))
              have k4 := hide (k3.out.trans (hbb.mono k3.out.size))
              have SV1 := hide (SV1.out.later hbb)
              clear hb hbb
              go_simp
              refine hK.out _ _ (by exact KP.out _ k4.out) (fun hHeld => ?_)
              clear hK K
              try simp only [Act.put, List.setIfInBounds_toArray, List.set_cons_zero, List.set_cons_succ, List.getElem_toArray, List.getElem_cons_succ, List.getElem_cons_zero]
              refine wpAnyH_ready (rs := [6]) (by kernel_rfl) (by simp) ?_
              refine AllReadyH.cons rfl (fun K hK => ?_) AllReadyH.nil
              go_simp
              go_at_call 7
              refine (appX_any (LX.l (LX.l ((LX.it kA).hig 1 2))) (LX.a (LX.l (LX.l ((LX.it kB).hig 1 2))) (LX.v 0)) _ _ _ (by exact ⟨a1, c1, rfl, SV1.out⟩) (by exact ⟨a4, c4, rfl, SV4.out⟩)).mono ?_
              rintro e w5 ⟨a5, c5, rfl, SV5', hb⟩
              have SV5 := hide SV5'
              have hbb : Below (w4).heap.size (w4) w5 := hb
              have k5 := hide (k4.out.trans (hbb.mono k4.out.size))
              have NB := hide (NB.out.below hbb NB.out.lt)
              clear hb hbb
              go_simp
              refine hK.out _ _ (by exact KP.out _ k5.out) (fun hHeld => ?_)
              clear hK K
              try simp only [Act.put, List.setIfInBounds_toArray, List.set_cons_zero, List.set_cons_succ, List.getElem_toArray, List.getElem_cons_succ, List.getElem_cons_zero]
              refine wpAnyH_ready (rs := [7]) (by kernel_rfl) (by simp) ?_
              refine AllReadyH.cons rfl (fun K hK => ?_) AllReadyH.nil
              go_simp
              go_at_call 6
              refine (funX_any (LX.a (LX.l (LX.l ((LX.it kA).hig 1 2))) (LX.a (LX.l (LX.l ((LX.it kB).hig 1 2))) (LX.v 0))) _ _ (by exact ⟨a5, c5, rfl, SV5.out⟩)).mono ?_
              rintro e w6 ⟨a6, c6, rfl, SV6', hb⟩
              have SV6 := hide SV6'
              have hbb : Below (w5).heap.size (w5) w6 := hb
              have k6 := hide (k5.out.trans (hbb.mono k5.out.size))
              have NB := hide (NB.out.below hbb NB.out.lt)
              clear hb hbb
              go_simp
              refine hK.out _ _ (by exact KP.out _ k6.out) (fun hHeld => ?_)
              clear hK K
              try simp only [Act.put, List.setIfInBounds_toArray, List.set_cons_zero, List.set_cons_succ, List.getElem_toArray, List.getElem_cons_succ, List.getElem_cons_zero]
              have q0 := NB.out.cell 0
              have q1 := NB.out.cell 1
              have q2 := NB.out.cell 2
              have qf := NB.out.frozen
              simp only [List.getElem?_toArray, List.getElem?_cons_succ, List.getElem?_cons_zero] at q0 q1 q2
              refine wpAnyH_ready (rs := [9]) (by kernel_rfl) (by simp) ?_
              refine AllReadyH.cons rfl (fun K hK => ?_) AllReadyH.nil
              go_simp
              refine hK.out _ _ (by exact KP.out _ (bl_setA k6.out _ (by have := k3.out.size; first | omega | exact this) _ _ _)) (fun hHeld => ?_)
              clear hK K
              try simp only [Act.put, List.setIfInBounds_toArray, List.set_cons_zero, List.set_cons_succ, List.getElem_toArray, List.getElem_cons_succ, List.getElem_cons_zero]
              refine wpAnyH_done (by kernel_rfl) ?_ _
              go_wp2_with fail
              go_meet
              exact mkX_first (t := timesX kA kB) HOK.out (by have := k3.out.size; first | omega | exact this) NB.out k6.out SV6.out
          · go_simp
            refine hK.out _ _ (by exact KP.out _ (k2.out.alloc k2.out.size _)) (fun hHeld => ?_)
            clear hK K
            try simp only [Act.put, List.setIfInBounds_toArray, List.set_cons_zero, List.set_cons_succ, List.getElem_toArray, List.getElem_cons_succ, List.getElem_cons_zero]
            refine wpAnyH_ready (rs := [4]) (by kernel_rfl) (by simp) ?_
            refine AllReadyH.cons rfl (fun K hK => ?_) AllReadyH.nil
            go_simp
            go_at_call 9
            refine (varR_any 0 _).mono ?_
            rintro e w3 ⟨rfl, hb⟩
            have hbb : Below (w2).heap.size (w2) w3 := ((Below.refl _ _).alloc (Nat.le_refl _) _).trans (hb.mono (by simp))
            have NB := hide ((Blk.new (w2) #[.int .i64 0, .int .i64 0, .slice none 0 0] 25).below hb (by simp))
            have k3 := hide (k2.out.trans (hbb.mono k2.out.size))
            have SV1 := hide (SV1.out.later hbb)
            have SV2 := hide (SV2.out.later hbb)
            clear hb hbb
            go_simp
            refine hK.out _ _ (by exact KP.out _ k3.out) (fun hHeld => ?_)
            clear hK K
            try simp only [Act.put, List.setIfInBounds_toArray, List.set_cons_zero, List.set_cons_succ, List.getElem_toArray, List.getElem_cons_succ, List.getElem_cons_zero]
            refine wpAnyH_ready (rs := [5]) (by kernel_rfl) (by simp) ?_
            refine AllReadyH.cons rfl (fun K hK => ?_) AllReadyH.nil
            go_simp
            go_at_call 7
            refine (appX_any (LX.l (LX.l ((LX.it kB).hig 1 2))) (LX.v 0) _ _ _ (by exact ⟨a2, c2, rfl, SV2.out⟩) (by exact ⟨none, 0, rfl, ⟨by simp [LX.m], Or.inl rfl⟩⟩)).mono ?_
            rintro e w4 ⟨a4, c4, rfl, SV4', hb⟩
            have SV4 := hide SV4'
            have hbb : Below (w3).heap.size (w3) w4 := hb
            have k4 := hide (k3.out.trans (hbb.mono k3.out.size))
            have SV1 := hide (SV1.out.later hbb)
            have NB := hide (NB.out.below hbb NB.out.lt)
            clear hb hbb
            go_simp
            refine hK.out _ _ (by exact KP.out _ k4.out) (fun hHeld => ?_)
            clear hK K
            try simp only [Act.put, List.setIfInBounds_toArray, List.set_cons_zero, List.set_cons_succ, List.getElem_toArray, List.getElem_cons_succ, List.getElem_cons_zero]
            refine wpAnyH_ready (rs := [6]) (by kernel_rfl) (by simp) ?_
            refine AllReadyH.cons rfl (fun K hK => ?_) AllReadyH.nil
            go_simp
            go_at_call 7
            refine (appX_any (LX.l (LX.l ((LX.it kA).hig 1 2))) (LX.a (LX.l (LX.l ((LX.it kB).hig 1 2))) (LX.v 0)) _ _ _ (by exact ⟨a1, c1, rfl, SV1.out⟩) (by exact ⟨a4, c4, rfl, SV4.out⟩)).mono ?_
            rintro e w5 ⟨a5, c5, rfl, SV5', hb⟩
            have SV5 := hide SV5'
            have hbb : Below (w4).heap.size (w4) w5 := hb
            have k5 := hide (k4.out.trans (hbb.mono k4.out.size))
            have NB := hide (NB.out.below hbb NB.out.lt)
            clear hb hbb
            go_simp
            refine hK.out _ _ (by exact KP.out _ k5.out) (fun hHeld => ?_)
            clear hK K
            try simp only [Act.put, List.setIfInBounds_toArray, List.set_cons_zero, List.set_cons_succ, List.getElem_toArray, List.getElem_cons_succ, List.getElem_cons_zero]
            refine wpAnyH_ready (rs := [7]) (by kernel_rfl) (by simp) ?_
            refine AllReadyH.cons rfl (fun K hK => ?_) AllReadyH.nil
            go_simp
            go_at_call 6
            refine (funX_any (LX.a (LX.l (LX.l ((LX.it kA).hig 1 2))) (LX.a (LX.l (LX.l ((LX.it kB).hig 1 2))) (LX.v 0))) _ _ (by exact ⟨a5, c5, rfl, SV5.out⟩)).mono ?_
            rintro e w6 ⟨a6, c6, rfl, SV6', hb⟩
            have SV6 := hide SV6'
            have hbb : Below (w5).heap.size (w5) w6 := hb
            have k6 := hide (k5.out.trans (hbb.mono k5.out.size))
            have NB := hide (NB.out.below hbb NB.out.lt)
            clear hb hbb
            go_simp
            refine hK.out _ _ (by exact KP.out _ k6.out) (fun hHeld => ?_)
            clear hK K
            try simp only [Act.put, List.setIfInBounds_toArray, List.set_cons_zero, List.set_cons_succ, List.getElem_toArray, List.getElem_cons_succ, List.getElem_cons_zero]
            have q0 := NB.out.cell 0
            have q1 := NB.out.cell 1
            have q2 := NB.out.cell 2
            have qf := NB.out.frozen
            simp only [List.getElem?_toArray, List.getElem?_cons_succ, List.getElem?_cons_zero] at q0 q1 q2
            refine wpAnyH_ready (rs := [9]) (by kernel_rfl) (by simp) ?_
            refine AllReadyH.cons rfl (fun K hK => ?_) AllReadyH.nil
            go_simp
            refine hK.out _ _ (by exact KP.out _ (bl_setA k6.out _ (by have := k2.out.size; first | omega | exact this) _ _ _)) (fun hHeld => ?_)
            clear hK K
            try simp only [Act.put, List.setIfInBounds_toArray, List.set_cons_zero, List.set_cons_succ, List.getElem_toArray, List.getElem_cons_succ, List.getElem_cons_zero]
            refine wpAnyH_done (by kernel_rfl) ?_ _
            go_wp2_with fail
            go_meet
            exact mkX_first (t := timesX kA kB) HOK.out (by have := k2.out.size; first | omega | exact this) NB.out k6.out SV6.out
        · go_simp
          refine hK.out _ _ (by exact KP.out _ (k1.out.alloc k1.out.size _)) (fun hHeld => ?_)
          clear hK K
          try simp only [Act.put, List.setIfInBounds_toArray, List.set_cons_zero, List.set_cons_succ, List.getElem_toArray, List.getElem_cons_succ, List.getElem_cons_zero]
          refine wpAnyH_ready (rs := [3]) (by kernel_rfl) (by simp) ?_
          refine AllReadyH.cons rfl (fun K hK => ?_) AllReadyH.nil
          go_simp
          go_at_call 8
          refine (hgN_any kB 1 HKB.out (by omega) aB cB _ (fun _ => True) (by exact SB.out.later (k1.out.alloc k1.out.size _))).mono ?_
          rintro e w2 ⟨a2, c2, rfl, SV2', hb⟩
          have SV2 := hide SV2'
          have hbb : Below (w1).heap.size (w1) w2 := ((Below.refl _ _).alloc (Nat.le_refl _) _).trans (hb.mono (by simp))
          have NB := hide ((Blk.new (w1) #[.int .i64 0, .int .i64 0, .slice none 0 0] 25).below hb (by simp))
          have k2 := hide (k1.out.trans (hbb.mono k1.out.size))
          have SV1 := hide (SV1.out.later hbb)
          clear hb hbb
          go_simp
          refine hK.out _ _ (by exact KP.out _ k2.out) (fun hHeld => ?_)
          clear hK K
          try simp only [Act.put, List.setIfInBounds_toArray, List.set_cons_zero, List.set_cons_succ, List.getElem_toArray, List.getElem_cons_succ, List.getElem_cons_zero]
          refine wpAnyH_ready (rs := [4]) (by kernel_rfl) (by simp) ?_
          refine AllReadyH.cons rfl (fun K hK => ?_) AllReadyH.nil
          go_simp
          go_at_call 9
          refine (varR_any 0 _).mono ?_
          rintro e w3 ⟨rfl, hb⟩
          have hbb : Below (w2).heap.size (w2) w3 := hb
          have k3 := hide (k2.out.trans (hbb.mono k2.out.size))
          have SV1 := hide (SV1.out.later hbb)
          have SV2 := hide (SV2.out.later hbb)
          have NB := hide (NB.out.below hbb NB.out.lt)
          clear hb hbb
          go_simp
          refine hK.out _ _ (by exact KP.out _ k3.out) (fun hHeld => ?_)
          clear hK K
          try simp only [Act.put, List.setIfInBounds_toArray, List.set_cons_zero, List.set_cons_succ, List.getElem_toArray, List.getElem_cons_succ, List.getElem_cons_zero]
          refine wpAnyH_ready (rs := [5]) (by kernel_rfl) (by simp) ?_
          refine AllReadyH.cons rfl (fun K hK => ?_) AllReadyH.nil
          go_simp
          go_at_call 7
          refine (appX_any (LX.l (LX.l ((LX.it kB).hig 1 2))) (LX.v 0) _ _ _ (by exact ⟨a2, c2, rfl, SV2.out⟩) (by exact ⟨none, 0, rfl, ⟨by simp [LX.m], Or.inl rfl⟩⟩)).mono ?_
          rintro e w4 ⟨a4, c4, rfl, SV4', hb⟩
          have SV4 := hide SV4'
          have hbb : Below (w3).heap.size (w3) w4 := hb
          have k4 := hide (k3.out.trans (hbb.mono k3.out.size))
          have SV1 := hide (SV1.out.later hbb)
          have NB := hide (NB.out.below hbb NB.out.lt)
          clear hb hbb
          go_simp
          refine hK.out _ _ (by exact KP.out _ k4.out) (fun hHeld => ?_)
          clear hK K
          try simp only [Act.put, List.setIfInBounds_toArray, List.set_cons_zero, List.set_cons_succ, List.getElem_toArray, List.getElem_cons_succ, List.getElem_cons_zero]
          refine wpAnyH_ready (rs := [6]) (by kernel_rfl) (by simp) ?_
          refine AllReadyH.cons rfl (fun K hK => ?_) AllReadyH.nil
          go_simp
          go_at_call 7
          refine (appX_any (LX.l (LX.l ((LX.it kA).hig 1 2))) (LX.a (LX.l (LX.l ((LX.it kB).hig 1 2))) (LX.v 0)) _ _ _ (by exact ⟨a1, c1, rfl, SV1.out⟩) (by exact ⟨a4, c4, rfl, SV4.out⟩)).mono ?_
          rintro e w5 ⟨a5, c5, rfl, SV5', hb⟩
          have SV5 := hide SV5'
          have hbb : Below (w4).heap.size (w4) w5 := hb
          have k5 := hide (k4.out.trans (hbb.mono k4.out.size))
          have NB := hide (NB.out.below hbb NB.out.lt)
          clear hb hbb
          go_simp
          refine hK.out _ _ (by exact KP.out _ k5.out) (fun hHeld => ?_)
          clear hK K
          try simp only [Act.put, List.setIfInBounds_toArray, List.set_cons_zero, List.set_cons_succ, List.getElem_toArray, List.getElem_cons_succ, List.getElem_cons_zero]
          refine wpAnyH_ready (rs := [7]) (by kernel_rfl) (by simp) ?_
          refine AllReadyH.cons rfl (fun K hK => ?_) AllReadyH.nil
          go_simp
          go_at_call 6
          refine (funX_any (LX.a (LX.l (LX.l ((LX.it kA).hig 1 2))) (LX.a (LX.l (LX.l ((LX.it kB).hig 1 2))) (LX.v 0))) _ _ (by exact ⟨a5, c5, rfl, SV5.out⟩)).mono ?_
          rintro e w6 ⟨a6, c6, rfl, SV6', hb⟩
          have SV6 := hide SV6'
          have hbb : Below (w5).heap.size (w5) w6 := hb
          have k6 := hide (k5.out.trans (hbb.mono k5.out.size))
          have NB := hide (NB.out.below hbb NB.out.lt)
          clear hb hbb
          go_simp
          refine hK.out _ _ (by exact KP.out _ k6.out) (fun hHeld => ?_)
          clear hK K
          try simp only [Act.put, List.setIfInBounds_toArray, List.set_cons_zero, List.set_cons_succ, List.getElem_toArray, List.getElem_cons_succ, List.getElem_cons_zero]
          have q0 := NB.out.cell 0
          have q1 := NB.out.cell 1
          have q2 := NB.out.cell 2
          have qf := NB.out.frozen
          simp only [List.getElem?_toArray, List.getElem?_cons_succ, List.getElem?_cons_zero] at q0 q1 q2
          refine wpAnyH_ready (rs := [9]) (by kernel_rfl) (by simp) ?_
          refine AllReadyH.cons rfl (fun K hK => ?_) AllReadyH.nil
          go_simp
          refine hK.out _ _ (by exact KP.out _ (bl_setA k6.out _ (by have := k1.out.size; first | omega | exact this) _ _ _)) (fun hHeld => ?_)
          clear hK K
          try simp only [Act.put, List.setIfInBounds_toArray, List.set_cons_zero, List.set_cons_succ, List.getElem_toArray, List.getElem_cons_succ, List.getElem_cons_zero]
          refine wpAnyH_done (by kernel_rfl) ?_ _
          go_wp2_with fail
          go_meet
          exact mkX_first (t := timesX kA kB) HOK.out (by have := k1.out.size; first | omega | exact this) NB.out k6.out SV6.out
      · go_simp
        refine hK.out _ _ (by exact KP.out _ (k0.out.alloc k0.out.size _)) (fun hHeld => ?_)
        clear hK K
        try simp only [Act.put, List.setIfInBounds_toArray, List.set_cons_zero, List.set_cons_succ, List.getElem_toArray, List.getElem_cons_succ, List.getElem_cons_zero]
        refine wpAnyH_ready (rs := [1]) (by kernel_rfl) (by simp) ?_
        refine AllReadyH.cons rfl (fun K hK => ?_) AllReadyH.nil
        go_simp
        go_at_call 8
        refine (hgN_any kA 1 HKA.out (by omega) aA cA _ (fun _ => True) (by exact SA.out.later (k0.out.alloc k0.out.size _))).mono ?_
        rintro e w1 ⟨a1, c1, rfl, SV1', hb⟩
        have SV1 := hide SV1'
        have hbb : Below (wd.drew).heap.size (wd.drew) w1 := ((Below.refl _ _).alloc (Nat.le_refl _) _).trans (hb.mono (by simp))
        have NB : Hid (Blk w1 wd.heap.size #[.int .i64 0, .int .i64 0, .slice none 0 0] 25) := hide ((Blk.new (wd.drew) #[.int .i64 0, .int .i64 0, .slice none 0 0] 25).below hb (by simp))
        have k1 := hide (k0.out.trans (hbb.mono k0.out.size))
        clear hb hbb
        go_simp
        refine hK.out _ _ (by exact KP.out _ k1.out) (fun hHeld => ?_)
        clear hK K
        try simp only [Act.put, List.setIfInBounds_toArray, List.set_cons_zero, List.set_cons_succ, List.getElem_toArray, List.getElem_cons_succ, List.getElem_cons_zero]
        refine wpAnyH_ready (rs := [3]) (by kernel_rfl) (by simp) ?_
        refine AllReadyH.cons rfl (fun K hK => ?_) AllReadyH.nil
        go_simp
        go_at_call 8
        refine (hgN_any kB 1 HKB.out (by omega) aB cB _ (fun _ => True) (by exact SB.out.later k1.out)).mono ?_
        rintro e w2 ⟨a2, c2, rfl, SV2', hb⟩
        have SV2 := hide SV2'
        have hbb : Below (w1).heap.size (w1) w2 := hb
        have k2 := hide (k1.out.trans (hbb.mono k1.out.size))
        have SV1 := hide (SV1.out.later hbb)
        have NB := hide (NB.out.below hbb NB.out.lt)
        clear hb hbb
        go_simp
        refine hK.out _ _ (by exact KP.out _ k2.out) (fun hHeld => ?_)
        clear hK K
        try simp only [Act.put, List.setIfInBounds_toArray, List.set_cons_zero, List.set_cons_succ, List.getElem_toArray, List.getElem_cons_succ, List.getElem_cons_zero]
        refine wpAnyH_ready (rs := [4]) (by kernel_rfl) (by simp) ?_
        refine AllReadyH.cons rfl (fun K hK => ?_) AllReadyH.nil
        go_simp
        go_at_call 9
        refine (varR_any 0 _).mono ?_
        rintro e w3 ⟨rfl, hb⟩
        have hbb : Below (w2).heap.size (w2) w3 := hb
        have k3 := hide (k2.out.trans (hbb.mono k2.out.size))
        have SV1 := hide (SV1.out.later hbb)
        have SV2 := hide (SV2.out.later hbb)
        have NB := hide (NB.out.below hbb NB.out.lt)
        clear hb hbb
        go_simp
        refine hK.out _ _ (by exact KP.out _ k3.out) (fun hHeld => ?_)
        clear hK K
        try simp only [Act.put, List.setIfInBounds_toArray, List.set_cons_zero, List.set_cons_succ, List.getElem_toArray, List.getElem_cons_succ, List.getElem_cons_zero]
        refine wpAnyH_ready (rs := [5]) (by kernel_rfl) (by simp) ?_
        refine AllReadyH.cons rfl (fun K hK => ?_) AllReadyH.nil
        go_simp
        go_at_call 7
        refine (appX_any (LX.l (LX.l ((LX.it kB).hig 1 2))) (LX.v 0) _ _ _ (by exact ⟨a2, c2, rfl, SV2.out⟩) (by exact ⟨none, 0, rfl, ⟨by simp [LX.m], Or.inl rfl⟩⟩)).mono ?_
        rintro e w4 ⟨a4, c4, rfl, SV4', hb⟩
        have SV4 := hide SV4'
        have hbb : Below (w3).heap.size (w3) w4 := hb
        have k4 := hide (k3.out.trans (hbb.mono k3.out.size))
        have SV1 := hide (SV1.out.later hbb)
        have NB := hide (NB.out.below hbb NB.out.lt)
        clear hb hbb
        go_simp
        refine hK.out _ _ (by exact KP.out _ k4.out) (fun hHeld => ?_)
        clear hK K
        try simp only [Act.put, List.setIfInBounds_toArray, List.set_cons_zero, List.set_cons_succ, List.getElem_toArray, List.getElem_cons_succ, List.getElem_cons_zero]
        refine wpAnyH_ready (rs := [6]) (by kernel_rfl) (by simp) ?_
        refine AllReadyH.cons rfl (fun K hK => ?_) AllReadyH.nil
        go_simp
        go_at_call 7
        refine (appX_any (LX.l (LX.l ((LX.it kA).hig 1 2))) (LX.a (LX.l (LX.l ((LX.it kB).hig 1 2))) (LX.v 0)) _ _ _ (by exact ⟨a1, c1, rfl, SV1.out⟩) (by exact ⟨a4, c4, rfl, SV4.out⟩)).mono ?_
        rintro e w5 ⟨a5, c5, rfl, SV5', hb⟩
        have SV5 := hide SV5'
        have hbb : Below (w4).heap.size (w4) w5 := hb
        have k5 := hide (k4.out.trans (hbb.mono k4.out.size))
        have NB := hide (NB.out.below hbb NB.out.lt)
        clear hb hbb
        go_simp
        refine hK.out _ _ (by exact KP.out _ k5.out) (fun hHeld => ?_)
        clear hK K
        try simp only [Act.put, List.setIfInBounds_toArray, List.set_cons_zero, List.set_cons_succ, List.getElem_toArray, List.getElem_cons_succ, List.getElem_cons_zero]
        refine wpAnyH_ready (rs := [7]) (by kernel_rfl) (by simp) ?_
        refine AllReadyH.cons rfl (fun K hK => ?_) AllReadyH.nil
        go_simp
        go_at_call 6
        refine (funX_any (LX.a (LX.l (LX.l ((LX.it kA).hig 1 2))) (LX.a (LX.l (LX.l ((LX.it kB).hig 1 2))) (LX.v 0))) _ _ (by exact ⟨a5, c5, rfl, SV5.out⟩)).mono ?_
        rintro e w6 ⟨a6, c6, rfl, SV6', hb⟩
        have SV6 := hide SV6'
        have hbb : Below (w5).heap.size (w5) w6 := hb
        have k6 := hide (k5.out.trans (hbb.mono k5.out.size))
        have NB := hide (NB.out.below hbb NB.out.lt)
        clear hb hbb
        go_simp
        refine hK.out _ _ (by exact KP.out _ k6.out) (fun hHeld => ?_)
        clear hK K
        try simp only [Act.put, List.setIfInBounds_toArray, List.set_cons_zero, List.set_cons_succ, List.getElem_toArray, List.getElem_cons_succ, List.getElem_cons_zero]
        have q0 := NB.out.cell 0
        have q1 := NB.out.cell 1
        have q2 := NB.out.cell 2
        have qf := NB.out.frozen
        simp only [List.getElem?_toArray, List.getElem?_cons_succ, List.getElem?_cons_zero] at q0 q1 q2
        refine wpAnyH_ready (rs := [9]) (by kernel_rfl) (by simp) ?_
        refine AllReadyH.cons rfl (fun K hK => ?_) AllReadyH.nil
        go_simp
        refine hK.out _ _ (by exact KP.out _ (bl_setA k6.out _ (by have := k0.out.size; first | omega | exact this) _ _ _)) (fun hHeld => ?_)
        clear hK K
        try simp only [Act.put, List.setIfInBounds_toArray, List.set_cons_zero, List.set_cons_succ, List.getElem_toArray, List.getElem_cons_succ, List.getElem_cons_zero]
        refine wpAnyH_done (by kernel_rfl) ?_ _
        go_wp2_with fail
        go_meet
        exact mkX_first (t := timesX kA kB) HOK.out (by have := k0.out.size; first | omega | exact this) NB.out k6.out SV6.out
    case rest =>
      obtain ⟨we, hwe⟩ : ∃ x, x = wc := ⟨_, rfl⟩
      subst hwe
      obtain ⟨P10, _, a10, c10, rfl, hP10, hB10, hs10, hb10⟩ := hcut
      have K9 := hide (K9.out.below hb10 K9.out.lt)
      have S9 := hide (S9.out.later hb10)
      have K10 := hide hB10
      have S10 := hide hs10
      have KA := hide (KA.out.below hb10 KA.out.lt)
      have KB := hide (KB.out.below hb10 KB.out.lt)
      have SA := hide (SA.out.later hb10)
      have SB := hide (SB.out.later hb10)
      have BA := hide (BA.out.trans (hb10.mono BA.out.size))
      clear hB10 hs10 hb10 hP10 HOK
      have p0 : we.cell? ⟨PA, 0, none⟩ = some (.int .i64 2) := KA.out.cell 0
      have p1 : we.cell? ⟨PA, 1, none⟩ = some (.int .i64 0) := KA.out.cell 1
      have p2 : we.cell? ⟨PA, 2, none⟩ = some (.slice aA 1 cA) := KA.out.cell 2
      have q0 : we.cell? ⟨PB, 0, none⟩ = some (.int .i64 2) := KB.out.cell 0
      have q1 : we.cell? ⟨PB, 1, none⟩ = some (.int .i64 0) := KB.out.cell 1
      have q2 : we.cell? ⟨PB, 2, none⟩ = some (.slice aB 1 cB) := KB.out.cell 2
      go_wp2_with fail
      refine (appX_any (numX kB) (numX kA) _ _ we ⟨aB, cB, rfl, SB.out⟩ ⟨aA, cA, rfl, SA.out⟩).mono ?_
      rintro e wf ⟨a11, c11, rfl, hs11, hb11⟩
      have hb11' : Below we.heap.size we (wf.alloc (.cells #[.int .i64 3, .int .i64 0, .slice a11 2 c11] 25)) := hb11.alloc hb11.size _
      have K9 := hide (K9.out.below hb11' K9.out.lt)
      have S9 := hide (S9.out.later hb11')
      have K10 := hide (K10.out.below hb11' K10.out.lt)
      have S10 := hide (S10.out.later hb11')
      have K11 : Hid (Blk (wf.alloc (.cells #[.int .i64 3, .int .i64 0, .slice a11 2 c11] 25)) wf.heap.size #[.int .i64 3, .int .i64 0, .slice a11 2 c11] 25) := Blk.new _ _ _
      have S11 := hide (hs11.later ((Below.refl _ _).alloc (Nat.le_refl _) (.cells #[.int .i64 3, .int .i64 0, .slice a11 2 c11] 25)))
      have BA := hide (BA.out.trans (hb11'.mono BA.out.size))
      have T4 := hide (t4X kA HKA.out kB HKB4.out)
      have VP : Hid (∀ (w' : World) (v : Value), MV w' (fun _ => True) v (plusX kA kB).m → Calls Try.prog 10 #[v, .int .i64 400] w' fun e w'' => e = .returned (.tuple #[.int .i64 ((kA : Int) + (kB : Int)), .int .i64 0]) ∧ Below w'.heap.size w' w'') := fun w' v hv => by
        have h := lValue_ok (plusX kA kB).m 400 (by omega) (lamE_X T4.out.1.1 T4.out.2.1) v w' _ hv
        rw [vlR_ok (by have := T4.out.2.1; omega) (t1X kA HKA.out kB HKB4.out)] at h
        simpa using h
      have VT : Hid (∀ (w' : World) (v : Value), MV w' (fun _ => True) v (timesX kA kB).m → Calls Try.prog 10 #[v, .int .i64 400] w' fun e w'' => e = .returned (.tuple #[.int .i64 ((kA : Int) * (kB : Int)), .int .i64 0]) ∧ Below w'.heap.size w' w'') := fun w' v hv => by
        have h := lValue_ok (timesX kA kB).m 400 (by omega) (lamE_X T4.out.1.2.1 T4.out.2.2.1) v w' _ hv
        rw [vlR_ok (by have := T4.out.2.2.1; omega) (t2X kA HKA.out kB HKB4.out)] at h
        simpa using h
      have VW : Hid (∀ (w' : World) (v : Value), MV w' (fun _ => True) v (powerX kA kB).m → Calls Try.prog 10 #[v, .int .i64 400] w' fun e w'' => ∃ z1 z2 : Int, e = .returned (.tuple #[.int .i64 z1, .int .i64 z2]) ∧ (z2 = 9 ∨ (z2 = 0 ∧ z1 = ((kA ^ kB : Nat) : Int))) ∧ Below w'.heap.size w' w'') := fun w' v hv => by
        have h := lValue_ok (powerX kA kB).m 400 (by omega) (lamE_X T4.out.1.2.2 T4.out.2.2.2) v w' _ hv
        refine h.mono ?_
        rintro e w'' ⟨rfl, hb⟩
        refine ⟨_, _, rfl, ?_, hb⟩
        rcases t3X kA HKA.out kB HKB4.out with h9 | h9
        · rw [vlR_nine (by have := T4.out.2.2.2; omega) h9]; exact Or.inl rfl
        · rw [vlR_ok (by have := T4.out.2.2.2; omega) h9]; exact Or.inr ⟨rfl, rfl⟩
      have x0 : (wf.alloc (.cells #[.int .i64 3, .int .i64 0, .slice a11 2 c11] 25)).cell? ⟨P9, 0, none⟩ = some (.int .i64 (plusX kA kB).m.kind) := K9.out.cell 0
      have x1 : (wf.alloc (.cells #[.int .i64 3, .int .i64 0, .slice a11 2 c11] 25)).cell? ⟨P9, 1, none⟩ = some (.int .i64 (plusX kA kB).m.idx) := K9.out.cell 1
      have x2 : (wf.alloc (.cells #[.int .i64 3, .int .i64 0, .slice a11 2 c11] 25)).cell? ⟨P9, 2, none⟩ = some (.slice a9 (plusX kA kB).m.subs.length c9) := K9.out.cell 2
      clear hs11 hb11 hb11' p0 p1 p2 q0 q1 q2 KA KB SA SB
      go_wp2_with fail
      clear x0 x1 x2
      generalize (wf.alloc (.cells #[.int .i64 3, .int .i64 0, .slice a11 2 c11] 25)) = wg at *
      generalize wf.heap.size = P11 at *
      refine (VP.out wg _ (by exact ⟨a9, c9, rfl, S9.out⟩)).mono ?_
      rintro e wh ⟨rfl, hbh⟩
      have K10 := hide (K10.out.below hbh K10.out.lt)
      have S10 := hide (S10.out.later hbh)
      have K11 := hide (K11.out.below hbh K11.out.lt)
      have S11 := hide (S11.out.later hbh)
      have BA := hide (BA.out.trans (hbh.mono BA.out.size))
      have x0 : wh.cell? ⟨P10, 0, none⟩ = some (.int .i64 (timesX kA kB).m.kind) := K10.out.cell 0
      have x1 : wh.cell? ⟨P10, 1, none⟩ = some (.int .i64 (timesX kA kB).m.idx) := K10.out.cell 1
      have x2 : wh.cell? ⟨P10, 2, none⟩ = some (.slice a10 (timesX kA kB).m.subs.length c10) := K10.out.cell 2
      clear hbh
      go_wp2_with fail
      refine (VT.out wh _ (by exact ⟨a10, c10, rfl, S10.out⟩)).mono ?_
      rintro e wi ⟨rfl, hbi⟩
      have K11 := hide (K11.out.below hbi K11.out.lt)
      have S11 := hide (S11.out.later hbi)
      have BA := hide (BA.out.trans (hbi.mono BA.out.size))
      clear x0 x1 x2 hbi
      have x0 : wi.cell? ⟨P11, 0, none⟩ = some (.int .i64 3) := K11.out.cell 0
      have x1 : wi.cell? ⟨P11, 1, none⟩ = some (.int .i64 0) := K11.out.cell 1
      have x2 : wi.cell? ⟨P11, 2, none⟩ = some (.slice a11 2 c11) := K11.out.cell 2
      go_wp2_with fail
      refine (VW.out wi _ (by exact ⟨a11, c11, rfl, S11.out⟩)).mono ?_
      rintro e wj ⟨z1, z2, rfl, hz, hbj⟩
      have HZ := hide hz
      have BA := hide (BA.out.trans (hbj.mono BA.out.size))
      clear x0 x1 x2 hbj hz
      go_wp2_with fail
      go_loop [16, 17] (fun p i => ∃ j : Nat, j ≤ kB ∧ i = .int .i64 (j : Int) ∧ p = .int .i64 ((kA ^ j : Nat) : Int)) (fun p i => kB - (intOf i).toNat)
      case atStart => exact ⟨0, Nat.zero_le _, rfl, by simp⟩
      case round =>
        obtain ⟨j, hj, rfl, rfl⟩ := hrel
        by_cases hlt : j < kB
        · have hlt2 : (j : Int) < (kB : Int) := by omega
          have HPW : Hid (((kA ^ j : Nat) : Int) * (kA : Int) = ((kA ^ (j + 1) : Nat) : Int)) := by unfold Hid; rw [Nat.pow_succ]; push_cast; rfl
          have hps := pow_small HKA.out (j := j + 1) (by have := HKB4.out; omega)
          have hww : IntKind.i64.wrap (((kA ^ j : Nat) : Int) * (kA : Int)) = ((kA ^ (j + 1) : Nat) : Int) := by rw [HPW.out, IntKind.wrap_i64]; omega
          have HWW := hide hww
          have hps0 := pow_small HKA.out (j := j) (by have := HKB4.out; omega)
          clear hps
          go_wp2_with fail
          go_round
          case rel =>
            refine ⟨j + 1, by omega, by go_num, ?_⟩
            have e := HWW.out
            rw [IntKind.wrap_i64] at e
            first
              | (rw [← Int.natCast_pow]; unfold wrap64; rw [e]; done)
              | (rw [← Int.natCast_pow]; exact congrArg (Value.int .i64) hww)
          case measure => simp [intOf]; omega
        · have hjk : j = kB := by omega
          subst hjk
          have hmn : kA * j ≤ 12 := by
            have h1 : kA * j ≤ 4 * 3 := Nat.mul_le_mul (by have := HKA.out; omega) (by have := HKB4.out; omega)
            omega
          have hmi : (kA : Int) * (j : Int) = ((kA * j : Nat) : Int) := by push_cast; rfl
          have hwm : IntKind.i64.wrap ((kA : Int) * (j : Int)) = (kA : Int) * (j : Int) := by rw [hmi, IntKind.wrap_i64]; omega
          have hb1 : (0 : Int) ≤ (kA : Int) * (j : Int) := by rw [hmi]; omega
          have hb2 : (kA : Int) * (j : Int) ≤ 12 := by rw [hmi]; omega
          clear hmi hmn
          rcases HZ.out with rfl | ⟨rfl, rfl⟩
          · go_wp2_with fail
            go_ret
            exact ⟨by simp, BA.out⟩
          · go_wp2_with fail
            go_ret
            exact ⟨by simp, BA.out⟩
#print axioms topNumbers_any
end Go.Proofs.Ytmapeiecapiliaa
