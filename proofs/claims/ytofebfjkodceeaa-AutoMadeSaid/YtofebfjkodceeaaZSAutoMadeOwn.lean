/- Several texts in one. -/
import Derived.Test.YtofebfjkodceeaaGd4
import Derived.Test.YtofebfjkodceeaaGd9
import Derived.Test.YtofebfjkodceeaaAx5
import Derived.Test.YtofebfjkodceeaaAu12
namespace Go.Proofs.Ytofebfjkodceeaa
open Go.RowKit
set_option linter.unusedSimpArgs false
set_option linter.unusedVariables false
set_option maxRecDepth 8000
theorem kinds_agree {A : Au} (hA : OkAu 8 40 A) {n : Nat} (hn : A.st = (n : Int)) {all : List Nat} (ha : EndsOk A.mv n all) {out : List Tm} (hg : GrdOk A noA out) : cntK (alkT A out) out = cntK (alkS A.mv (setN A.la) all) all := leastOf_eq hA hn rfl ha hg
theorem within_agree {A B : Au} {b : Bool} (h : b = true ↔ ∀ t, accB A t = true → accB B t = true) : b = wiB A B := by
 rw [Bool.eq_iff_iff, h, wiB_iff]
set_option maxHeartbeats 20000000 in
theorem autoKinds_any (A B : Au) (va vb : Value) (w : World) (X : Nat → Prop) (hva : AV w X va A) (hvb : AV w X vb B) :
  Calls Try.prog 9 #[va, vb] w fun e w' => e = .returned (.bool true) ∧ Below w.heap.size w w' := by
 obtain ⟨am, an, al, ao, rfl, ham, hal⟩ := hva
 obtain ⟨bm, bn, bl, bo, rfl, hbm, hbl⟩ := hvb
 have hAF := allocsX_facts [(.cells #[.int .i64 A.st, .slice am A.mv.length an, .slice al A.la.length ao] 25 : Obj), (.cells #[.int .i64 B.st, .slice bm B.mv.length bn, .slice bl B.la.length bo] 25 : Obj)] w
 have eW : allocsX w [(.cells #[.int .i64 A.st, .slice am A.mv.length an, .slice al A.la.length ao] 25 : Obj), (.cells #[.int .i64 B.st, .slice bm B.mv.length bn, .slice bl B.la.length bo] 25 : Obj)] = (w.alloc (.cells #[.int .i64 A.st, .slice am A.mv.length an, .slice al A.la.length ao] 25)).alloc (.cells #[.int .i64 B.st, .slice bm B.mv.length bn, .slice bl B.la.length bo] 25) := rfl
 rw [eW] at hAF
 obtain ⟨hF1, hF2, hF3⟩ := hAF
 have KA : Hid (Blk ((w.alloc (.cells #[.int .i64 A.st, .slice am A.mv.length an, .slice al A.la.length ao] 25)).alloc (.cells #[.int .i64 B.st, .slice bm B.mv.length bn, .slice bl B.la.length bo] 25)) w.heap.size #[.int .i64 A.st, .slice am A.mv.length an, .slice al A.la.length ao] 25) := hF3 0 _ rfl
 have KB : Hid (Blk ((w.alloc (.cells #[.int .i64 A.st, .slice am A.mv.length an, .slice al A.la.length ao] 25)).alloc (.cells #[.int .i64 B.st, .slice bm B.mv.length bn, .slice bl B.la.length bo] 25)) (w.heap.size + 1) #[.int .i64 B.st, .slice bm B.mv.length bn, .slice bl B.la.length bo] 25) := hF3 1 _ rfl
 have B2 := hide hF1
 have AVW : Hid (∀ w', Below w.heap.size w w' → AV w' (fun _ => True) (.agg #[.int .i64 A.st, .slice am A.mv.length an, .slice al A.la.length ao]) A) := fun w' hb => ⟨am, an, al, ao, rfl, slV_monoG (ham.later hb), (hal.later hb).mono fun _ _ _ => trivial⟩
 have BVW : Hid (∀ w', Below w.heap.size w w' → AV w' (fun _ => True) (.agg #[.int .i64 B.st, .slice bm B.mv.length bn, .slice bl B.la.length bo]) B) := fun w' hb => ⟨bm, bn, bl, bo, rfl, slV_monoG (hbm.later hb), (hbl.later hb).mono fun _ _ _ => trivial⟩
 have hm1 := ham.1
 have hm2 := hbm.1
 clear eW hF1 hF2 hF3 ham hal hbm hbl
 go_enter Try.func9, Try.ntmps9
 go_upto_region 1 with fail
 generalize (w.alloc (.cells #[.int .i64 A.st, .slice am A.mv.length an, .slice al A.la.length ao] 25)).alloc (.cells #[.int .i64 B.st, .slice bm B.mv.length bn, .slice bl B.la.length bo] 25) = w2 at *
 have UP : Hid (∀ w', Below w2.heap.size w2 w' → Below w.heap.size w w') := fun w' hb => B2.out.trans (hb.mono B2.out.size)
 have CE : Hid (∀ w', Below w2.heap.size w2 w' → (w'.cell? ⟨w.heap.size, 0, none⟩ = some (.int .i64 A.st) ∧ w'.cell? ⟨w.heap.size, 1, none⟩ = some (.slice am A.mv.length an) ∧ w'.cell? ⟨w.heap.size, 2, none⟩ = some (.slice al A.la.length ao)) ∧ (w'.cell? ⟨w.heap.size + 1, 0, none⟩ = some (.int .i64 B.st) ∧ w'.cell? ⟨w.heap.size + 1, 1, none⟩ = some (.slice bm B.mv.length bn) ∧ w'.cell? ⟨w.heap.size + 1, 2, none⟩ = some (.slice bl B.la.length bo))) := fun w' hb => by
  have h1 := KA.out.below hb KA.out.lt
  have h2 := KB.out.below hb KB.out.lt
  exact ⟨⟨h1.cell 0, h1.cell 1, h1.cell 2⟩, ⟨h2.cell 0, h2.cell 1, h2.cell 2⟩⟩
 have K2 := hide (Below.refl w2.heap.size w2)
 obtain ⟨⟨a0, a1, a2⟩, b0, b1, b2⟩ := CE.out w2 K2.out
 go_wp2_with fail
 refine (hugeAuto_any A _ _ _ (AVW.out _ (UP.out _ K2.out))).mono ?_
 rintro e w3 ⟨rfl, hb⟩
 have K3 := hide (K2.out.trans (hb.mono K2.out.size))
 clear hb a0 a1 a2 b0 b1 b2
 cases h1 : hugA A with
 | true =>
  clear h1
  obtain ⟨⟨a0, a1, a2⟩, b0, b1, b2⟩ := CE.out w3 K3.out
  go_wp2_with fail
  go_ret
  exact ⟨rfl, UP.out _ K3.out⟩
 | false =>
  clear h1
  obtain ⟨⟨a0, a1, a2⟩, b0, b1, b2⟩ := CE.out w3 K3.out
  go_wp2_with fail
  refine (hugeAuto_any B _ _ _ (BVW.out _ (UP.out _ K3.out))).mono ?_
  rintro e w4 ⟨rfl, hb⟩
  have K4 := hide (K3.out.trans (hb.mono K3.out.size))
  clear hb a0 a1 a2 b0 b1 b2
  cases h2 : hugA B with
  | true =>
   clear h2
   obtain ⟨⟨a0, a1, a2⟩, b0, b1, b2⟩ := CE.out w4 K4.out
   go_wp2_with fail
   go_ret
   exact ⟨rfl, UP.out _ K4.out⟩
  | false =>
   clear h2
   obtain ⟨⟨a0, a1, a2⟩, b0, b1, b2⟩ := CE.out w4 K4.out
   go_wp2_with fail
   refine (autoMay_any A 8 40 (by omega) (by omega) _ _ _ (AVW.out _ (UP.out _ K4.out))).mono ?_
   rintro e w5 ⟨rfl, hb⟩
   have K5 := hide (K4.out.trans (hb.mono K4.out.size))
   clear hb a0 a1 a2 b0 b1 b2
   obtain ⟨E, hE⟩ : ∃ E, E = auE 8 40 A := ⟨_, rfl⟩
   rw [← hE]
   have HE := hide hE
   clear hE
   by_cases h0 : E = 0
   ·skip
    subst h0
    obtain ⟨⟨a0, a1, a2⟩, b0, b1, b2⟩ := CE.out w5 K5.out
    go_wp2_with fail
    refine (autoMay_any B 8 40 (by omega) (by omega) _ _ _ (BVW.out _ (UP.out _ K5.out))).mono ?_
    rintro e w6 ⟨rfl, hb⟩
    have K6 := hide (K5.out.trans (hb.mono K5.out.size))
    clear hb a0 a1 a2 b0 b1 b2
    obtain ⟨F, hF⟩ : ∃ F, F = auE 8 40 B := ⟨_, rfl⟩
    rw [← hF]
    have HFE := hide hF
    clear hF
    have OA : Hid (OkAu 8 40 A) := auE_zero.1 HE.out.symm
    cases hs : smB A with
    | false =>
     have HSA := hide hs
     clear hs
     obtain ⟨⟨a0, a1, a2⟩, b0, b1, b2⟩ := CE.out w6 K6.out
     go_wp2_with fail
     have CL := smallAuto_any A _ w6 _ (AVW.out _ (UP.out _ K6.out))
     rw [HSA.out] at CL
     refine CL.mono ?_
     clear CL
     rintro e w7 ⟨rfl, hb⟩
     have K7 := hide (K6.out.trans (hb.mono K6.out.size))
     clear hb a0 a1 a2 b0 b1 b2
     have HFA : Hid (fewL [A] = 3) := by unfold Hid; simp [fewL, eachL, HE.out.symm, HSA.out]
     by_cases hf0 : F = 0
     ·subst hf0
      obtain ⟨⟨a0, a1, a2⟩, b0, b1, b2⟩ := CE.out w7 K7.out
      go_wp2_with fail
      have CL := smallAuto_any A _ w7 _ (AVW.out _ (UP.out _ K7.out))
      rw [HSA.out] at CL
      refine CL.mono ?_
      clear CL
      rintro e w8 ⟨rfl, hb⟩
      have K8 := hide (K7.out.trans (hb.mono K7.out.size))
      clear hb a0 a1 a2 b0 b1 b2
      have HF : Hid (fewL [A, B] = 3) := by unfold Hid; simp [fewL, eachL, HE.out.symm, HFE.out.symm, HSA.out]
      have HW : Hid (wiR A B = false) := by unfold Hid wiR; rw [if_neg (by rw [HF.out]; decide)]
      obtain ⟨⟨a0, a1, a2⟩, b0, b1, b2⟩ := CE.out w8 K8.out
      go_wp2_with fail
      have CL := within_any A B _ _ w8 _ (AVW.out _ (UP.out _ K8.out)) (BVW.out _ (UP.out _ K8.out))
      rw [HW.out, HF.out] at CL
      refine CL.mono ?_
      clear CL
      rintro e w9 ⟨rfl, hb⟩
      have K9 := hide (K8.out.trans (hb.mono K8.out.size))
      clear hb a0 a1 a2 b0 b1 b2
      obtain ⟨⟨a0, a1, a2⟩, b0, b1, b2⟩ := CE.out w9 K9.out
      go_wp2_with fail
      refine (least_any A _ w9 _ (AVW.out _ (UP.out _ K9.out))).mono ?_
      rintro e w10 ⟨N, rfl, hN1, hN2, hb⟩
      have K10 := hide (K9.out.trans (hb.mono K9.out.size))
      rw [HFA.out] at hN1 hN2 ⊢
      have eN : N = 0 := hN1 (by omega)
      subst eN
      clear hN1 hN2 hb a0 a1 a2 b0 b1 b2
      go_wp2_with fail
      go_ret
      exact ⟨rfl, UP.out _ K10.out⟩
     ·have HF : Hid (fewL [A, B] = F) := by unfold Hid; rw [HFE.out] at hf0 ⊢; simp [fewL, eachL, HE.out.symm, hf0]
      have HW : Hid (wiR A B = false) := by unfold Hid wiR; rw [if_neg (by rw [HF.out]; exact hf0)]
      obtain ⟨⟨a0, a1, a2⟩, b0, b1, b2⟩ := CE.out w7 K7.out
      go_wp2_with fail
      have CL := within_any A B _ _ w7 _ (AVW.out _ (UP.out _ K7.out)) (BVW.out _ (UP.out _ K7.out))
      rw [HW.out, HF.out] at CL
      refine CL.mono ?_
      clear CL
      rintro e w8 ⟨rfl, hb⟩
      have K8 := hide (K7.out.trans (hb.mono K7.out.size))
      clear hb a0 a1 a2 b0 b1 b2
      obtain ⟨⟨a0, a1, a2⟩, b0, b1, b2⟩ := CE.out w8 K8.out
      go_wp2_with fail
      refine (least_any A _ w8 _ (AVW.out _ (UP.out _ K8.out))).mono ?_
      rintro e w9 ⟨N, rfl, hN1, hN2, hb⟩
      have K9 := hide (K8.out.trans (hb.mono K8.out.size))
      rw [HFA.out] at hN1 hN2 ⊢
      have eN : N = 0 := hN1 (by omega)
      subst eN
      clear hN1 hN2 hb a0 a1 a2 b0 b1 b2
      go_wp2_with fail
      go_ret
      exact ⟨rfl, UP.out _ K9.out⟩
    | true =>
     have SA := hide hs
     clear hs
     obtain ⟨⟨a0, a1, a2⟩, b0, b1, b2⟩ := CE.out w6 K6.out
     go_wp2_with fail
     have CL := smallAuto_any A _ w6 _ (AVW.out _ (UP.out _ K6.out))
     rw [SA.out] at CL
     refine CL.mono ?_
     clear CL
     rintro e w7 ⟨rfl, hb⟩
     have K7 := hide (K6.out.trans (hb.mono K6.out.size))
     clear hb a0 a1 a2 b0 b1 b2
     have HFA : Hid (fewL [A] = 0) := by unfold Hid; simp [fewL, eachL, HE.out.symm, SA.out]
     by_cases hf0 : F = 0
     ·skip
      subst hf0
      have OB : Hid (OkAu 8 40 B) := auE_zero.1 HFE.out.symm
      obtain ⟨⟨a0, a1, a2⟩, b0, b1, b2⟩ := CE.out w7 K7.out
      go_wp2_with fail
      have CL := smallAuto_any A _ w7 _ (AVW.out _ (UP.out _ K7.out))
      rw [SA.out] at CL
      refine CL.mono ?_
      clear CL
      rintro e w8 ⟨rfl, hb⟩
      have K8 := hide (K7.out.trans (hb.mono K7.out.size))
      clear hb a0 a1 a2 b0 b1 b2
      cases hsb : smB B with
      | false =>
       have SB := hide hsb
       clear hsb
       obtain ⟨⟨a0, a1, a2⟩, b0, b1, b2⟩ := CE.out w8 K8.out
       go_wp2_with fail
       have CL := smallAuto_any B _ w8 _ (BVW.out _ (UP.out _ K8.out))
       rw [SB.out] at CL
       refine CL.mono ?_
       clear CL
       rintro e w9 ⟨rfl, hb⟩
       have K9 := hide (K8.out.trans (hb.mono K8.out.size))
       clear hb a0 a1 a2 b0 b1 b2
       have HF : Hid (fewL [A, B] = 3) := by unfold Hid; simp [fewL, eachL, HE.out.symm, HFE.out.symm, SA.out, SB.out]
       have HW : Hid (wiR A B = false) := by unfold Hid wiR; rw [if_neg (by rw [HF.out]; decide)]
       by_cases hgA : (12 : Int) < (A.mv.length : Int)
       ·obtain ⟨⟨a0, a1, a2⟩, b0, b1, b2⟩ := CE.out w9 K9.out
        go_wp2_with fail
        go_ret
        exact ⟨rfl, UP.out _ K9.out⟩
       ·skip
        obtain ⟨⟨a0, a1, a2⟩, b0, b1, b2⟩ := CE.out w9 K9.out
        go_wp2_with fail
        refine (leastOf_any A OA.out SA.out _ _ _ (AVW.out _ (UP.out _ K9.out))).mono ?_
        rintro e w10 ⟨out, hgr, rfl, hb⟩
        have K10 := hide (K9.out.trans (hb.mono K9.out.size))
        clear hb a0 a1 a2 b0 b1 b2
        have HGR := hide hgr
        clear hgr
        obtain ⟨LL, hLL⟩ : ∃ L, L = cntK (alkT A out) out := ⟨_, rfl⟩
        rw [← hLL]
        have HLL := hide hLL
        clear hLL
        obtain ⟨⟨a0, a1, a2⟩, b0, b1, b2⟩ := CE.out w10 K10.out
        go_wp2_with fail
        have CL := within_any A B _ _ w10 _ (AVW.out _ (UP.out _ K10.out)) (BVW.out _ (UP.out _ K10.out))
        rw [HW.out, HF.out] at CL
        refine CL.mono ?_
        clear CL
        rintro e w11 ⟨rfl, hb⟩
        have K11 := hide (K10.out.trans (hb.mono K10.out.size))
        clear hb a0 a1 a2 b0 b1 b2
        obtain ⟨⟨a0, a1, a2⟩, b0, b1, b2⟩ := CE.out w11 K11.out
        go_wp2_with fail
        refine (least_any A _ w11 _ (AVW.out _ (UP.out _ K11.out))).mono ?_
        rintro e w12 ⟨N, rfl, hN1, hN2, hb⟩
        have K12 := hide (K11.out.trans (hb.mono K11.out.size))
        rw [HFA.out] at hN1 hN2 ⊢
        have eN : N = LL := by
         obtain ⟨nA, hnA⟩ : ∃ nA : Nat, A.st = (nA : Int) := ⟨A.st.toNat, by have := OA.out.pos; omega⟩
         obtain ⟨all, h1, _, h3⟩ := hN2 rfl nA hnA
         rw [h3, HLL.out]
         exact (kinds_agree OA.out hnA h1 HGR.out).symm
        subst eN
        clear hN1 hN2 hb a0 a1 a2 b0 b1 b2
        go_wp2_with fail
        go_ret
        exact ⟨rfl, UP.out _ K12.out⟩
      | true =>
       have SB := hide hsb
       clear hsb
       obtain ⟨⟨a0, a1, a2⟩, b0, b1, b2⟩ := CE.out w8 K8.out
       go_wp2_with fail
       have CL := smallAuto_any B _ w8 _ (BVW.out _ (UP.out _ K8.out))
       rw [SB.out] at CL
       refine CL.mono ?_
       clear CL
       rintro e w9 ⟨rfl, hb⟩
       have K9 := hide (K8.out.trans (hb.mono K8.out.size))
       clear hb a0 a1 a2 b0 b1 b2
       have HF : Hid (fewL [A, B] = 0) := by unfold Hid; simp [fewL, eachL, HE.out.symm, HFE.out.symm, SA.out, SB.out]
       by_cases hgA : (12 : Int) < (A.mv.length : Int)
       ·obtain ⟨⟨a0, a1, a2⟩, b0, b1, b2⟩ := CE.out w9 K9.out
        go_wp2_with fail
        go_ret
        exact ⟨rfl, UP.out _ K9.out⟩
       ·skip
        by_cases hgB : (12 : Int) < (B.mv.length : Int)
        ·obtain ⟨⟨a0, a1, a2⟩, b0, b1, b2⟩ := CE.out w9 K9.out
         go_wp2_with fail
         go_ret
         exact ⟨rfl, UP.out _ K9.out⟩
        ·skip
         obtain ⟨⟨a0, a1, a2⟩, b0, b1, b2⟩ := CE.out w9 K9.out
         go_wp2_with fail
         refine (leastOf_any A OA.out SA.out _ _ _ (AVW.out _ (UP.out _ K9.out))).mono ?_
         rintro e w10 ⟨out, hgr, rfl, hb⟩
         have K10 := hide (K9.out.trans (hb.mono K9.out.size))
         clear hb a0 a1 a2 b0 b1 b2
         have HGR := hide hgr
         clear hgr
         obtain ⟨LL, hLL⟩ : ∃ L, L = cntK (alkT A out) out := ⟨_, rfl⟩
         rw [← hLL]
         have HLL := hide hLL
         clear hLL
         obtain ⟨⟨a0, a1, a2⟩, b0, b1, b2⟩ := CE.out w10 K10.out
         go_wp2_with fail
         refine (withinOfR_any A B OA.out SA.out OB.out SB.out _ _ _ _ (AVW.out _ (UP.out _ K10.out)) (BVW.out _ (UP.out _ K10.out))).mono ?_
         rintro e w11 ⟨wb, rfl, hwb, hb⟩
         have K11 := hide (K10.out.trans (hb.mono K10.out.size))
         clear hb a0 a1 a2 b0 b1 b2
         have HW : Hid (wiR A B = wb) := by unfold Hid wiR; rw [if_pos HF.out]; exact (within_agree hwb).symm
         clear hwb
         obtain ⟨⟨a0, a1, a2⟩, b0, b1, b2⟩ := CE.out w11 K11.out
         go_wp2_with fail
         have CL := within_any A B _ _ w11 _ (AVW.out _ (UP.out _ K11.out)) (BVW.out _ (UP.out _ K11.out))
         rw [HW.out, HF.out] at CL
         refine CL.mono ?_
         clear CL
         rintro e w12 ⟨rfl, hb⟩
         have K12 := hide (K11.out.trans (hb.mono K11.out.size))
         clear hb a0 a1 a2 b0 b1 b2
         obtain ⟨⟨a0, a1, a2⟩, b0, b1, b2⟩ := CE.out w12 K12.out
         go_wp2_with fail
         refine (least_any A _ w12 _ (AVW.out _ (UP.out _ K12.out))).mono ?_
         rintro e w13 ⟨N, rfl, hN1, hN2, hb⟩
         have K13 := hide (K12.out.trans (hb.mono K12.out.size))
         rw [HFA.out] at hN1 hN2 ⊢
         have eN : N = LL := by
          obtain ⟨nA, hnA⟩ : ∃ nA : Nat, A.st = (nA : Int) := ⟨A.st.toNat, by have := OA.out.pos; omega⟩
          obtain ⟨all, h1, _, h3⟩ := hN2 rfl nA hnA
          rw [h3, HLL.out]
          exact (kinds_agree OA.out hnA h1 HGR.out).symm
         subst eN
         clear hN1 hN2 hb a0 a1 a2 b0 b1 b2
         go_wp2_with fail
         go_ret
         exact ⟨rfl, UP.out _ K13.out⟩
     ·have HF : Hid (fewL [A, B] = F) := by unfold Hid; rw [HFE.out] at hf0 ⊢; simp [fewL, eachL, HE.out.symm, hf0]
      have HW : Hid (wiR A B = false) := by unfold Hid wiR; rw [if_neg (by rw [HF.out]; exact hf0)]
      by_cases hgA : (12 : Int) < (A.mv.length : Int)
      ·obtain ⟨⟨a0, a1, a2⟩, b0, b1, b2⟩ := CE.out w7 K7.out
       go_wp2_with fail
       go_ret
       exact ⟨rfl, UP.out _ K7.out⟩
      ·skip
       obtain ⟨⟨a0, a1, a2⟩, b0, b1, b2⟩ := CE.out w7 K7.out
       go_wp2_with fail
       refine (leastOf_any A OA.out SA.out _ _ _ (AVW.out _ (UP.out _ K7.out))).mono ?_
       rintro e w8 ⟨out, hgr, rfl, hb⟩
       have K8 := hide (K7.out.trans (hb.mono K7.out.size))
       clear hb a0 a1 a2 b0 b1 b2
       have HGR := hide hgr
       clear hgr
       obtain ⟨LL, hLL⟩ : ∃ L, L = cntK (alkT A out) out := ⟨_, rfl⟩
       rw [← hLL]
       have HLL := hide hLL
       clear hLL
       obtain ⟨⟨a0, a1, a2⟩, b0, b1, b2⟩ := CE.out w8 K8.out
       go_wp2_with fail
       have CL := within_any A B _ _ w8 _ (AVW.out _ (UP.out _ K8.out)) (BVW.out _ (UP.out _ K8.out))
       rw [HW.out, HF.out] at CL
       refine CL.mono ?_
       clear CL
       rintro e w9 ⟨rfl, hb⟩
       have K9 := hide (K8.out.trans (hb.mono K8.out.size))
       clear hb a0 a1 a2 b0 b1 b2
       obtain ⟨⟨a0, a1, a2⟩, b0, b1, b2⟩ := CE.out w9 K9.out
       go_wp2_with fail
       refine (least_any A _ w9 _ (AVW.out _ (UP.out _ K9.out))).mono ?_
       rintro e w10 ⟨N, rfl, hN1, hN2, hb⟩
       have K10 := hide (K9.out.trans (hb.mono K9.out.size))
       rw [HFA.out] at hN1 hN2 ⊢
       have eN : N = LL := by
        obtain ⟨nA, hnA⟩ : ∃ nA : Nat, A.st = (nA : Int) := ⟨A.st.toNat, by have := OA.out.pos; omega⟩
        obtain ⟨all, h1, _, h3⟩ := hN2 rfl nA hnA
        rw [h3, HLL.out]
        exact (kinds_agree OA.out hnA h1 HGR.out).symm
       subst eN
       clear hN1 hN2 hb a0 a1 a2 b0 b1 b2
       go_wp2_with fail
       go_ret
       exact ⟨rfl, UP.out _ K10.out⟩
   ·skip
    have HFA : Hid (fewL [A] = E) := by unfold Hid; rw [HE.out] at h0 ⊢; simp [fewL, eachL, h0]
    have HF : Hid (fewL [A, B] = E) := by unfold Hid; rw [HE.out] at h0 ⊢; simp [fewL, eachL, h0]
    have HW : Hid (wiR A B = false) := by unfold Hid wiR; rw [if_neg (by rw [HF.out]; exact h0)]
    obtain ⟨⟨a0, a1, a2⟩, b0, b1, b2⟩ := CE.out w5 K5.out
    go_wp2_with fail
    have CL := within_any A B _ _ w5 _ (AVW.out _ (UP.out _ K5.out)) (BVW.out _ (UP.out _ K5.out))
    rw [HW.out, HF.out] at CL
    refine CL.mono ?_
    clear CL
    rintro e w6 ⟨rfl, hb⟩
    have K6 := hide (K5.out.trans (hb.mono K5.out.size))
    clear hb a0 a1 a2 b0 b1 b2
    obtain ⟨⟨a0, a1, a2⟩, b0, b1, b2⟩ := CE.out w6 K6.out
    go_wp2_with fail
    refine (least_any A _ w6 _ (AVW.out _ (UP.out _ K6.out))).mono ?_
    rintro e w7 ⟨N, rfl, hN1, hN2, hb⟩
    have K7 := hide (K6.out.trans (hb.mono K6.out.size))
    rw [HFA.out] at hN1 hN2 ⊢
    have eN : N = 0 := hN1 (by omega)
    subst eN
    clear hN1 hN2 hb a0 a1 a2 b0 b1 b2
    go_wp2_with fail
    go_ret
    exact ⟨rfl, UP.out _ K7.out⟩
end Go.Proofs.Ytofebfjkodceeaa
