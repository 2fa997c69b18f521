import Derived.Test.YtbnmlkaejdpigaaGreatDoorOv10
import Derived.Test.YtbnmlkaejdpigaaGreatDoorW163
import Derived.Test.YtbnmlkaejdpigaaGreatDoorTd3
namespace Go.Proofs.YtbnmlkaejdpigaaGreatDoor
open Go.RowKit
set_option linter.unusedSimpArgs false
set_option linter.unusedVariables false
set_option maxRecDepth 8000
theorem rule_may {p : Pr} (h : ruleE p = 0) : mayE p.l = 0 ∧ mayE p.r = 0 := by
 unfold ruleE at h
 split at h
 ·rename_i h1
  unfold twoE at h1
  split at h1
  ·rename_i h2
   exact ⟨h2, h1⟩
  ·rename_i h2
   exact absurd h1 h2
 ·rename_i h1
  exact absurd h h1
theorem ovL_len (U : List Pr → Int × List Bd) {o n : Pr} (same : Bool) (ho : mayE o.l = 0 ∧ mayE o.r = 0) (hn : mayE n.l = 0 ∧ mayE n.r = 0) : (ovL U o n same).length ≤ 200 := by
 have h1 := List.length_filterMap_le (ovQ U (apR o n) same) (dnT [] [] (apR o n).1.l)
 have h2 : (dnT [] [] (apR o n).1.l).length ≤ sizeL [(apR o n).1.l] := by
  obtain ⟨s, l⟩ := (apR o n).1.l
  unfold dnT
  have := dnL_len l [] 0 (hdN []) ([] : List Int).tail
  have e : sizeL [(⟨s, l⟩ : Tm)] = 1 + sizeL l := by simp [sizeL]
  rw [e, List.length_cons]
  simp only
  omega
 have h3 := may200 (apR_ok ho hn).1.1
 unfold ovL
 omega
def CrI (U : List Pr → Int × List Bd) (rs : List Pr) (w : World) (i j : Nat) (v : Value) (wr : World) : Prop :=
 ∃ cs, QRow wr w.heap.size (fun _ => False) v cs ∧ cs.length ≤ 400 ∧ Below w.heap.size w wr ∧ crT U (remZ rs.zipIdx i j) (cs.map (·.1)) = crR U rs
def CpP (U : List Pr → Int × List Bd) (rs : List Pr) (w : World) (e : Ending) (w' : World) : Prop :=
 Below w.heap.size w w' ∧ ((rulesE rs ≠ 0 ∧ e = .returned (.tuple #[.slice none 0 0, .int .i64 (rulesE rs)])) ∨ (rulesE rs = 0 ∧ (crR U rs).1 ≠ 0 ∧ e = .returned (.tuple #[.slice none 0 0, .int .i64 (crR U rs).1])) ∨
  (rulesE rs = 0 ∧ (crR U rs).1 = 0 ∧ ∃ v cs, e = .returned (.tuple #[v, .int .i64 0]) ∧ QRow w' w.heap.size (fun _ => False) v cs ∧ cs.length ≤ 400 ∧ cs.map (·.1) = (crR U rs).2))
set_option maxHeartbeats 4000000 in
theorem cPairs_any (BT : Nat) (U : List Pr → Int × List Bd) (hU : ∀ ls, pairsE ls = 0 → ∃ g, uRun false g [] ls = some (U ls)) (hUo : ∀ ls, pairsE ls = 0 → (U ls).1 = 0 → Once (U ls).2) (rs : List Pr) (u : Value) (w : World) (X : Nat → Prop) (hu : QV w X u rs) (hT : Tb BT w) (hBw : BT ≤ w.heap.size) :
  Calls Tryz.prog 5 #[u] w fun e w' => CpP U rs w e w' := by
 have HU := hide hu
 have HT := hide hT
 have HUU := hide hU
 have HUO := hide hUo
 obtain ⟨ua, uc, rfl, hul, -⟩ := id hu
 clear hu hT hU hUo
 go_enter Tryz.func5, Tryz.ntmps5
 go_wp2_with fail
 refine (rCheck_any rs _ w X HU.out).mono ?_
 rintro e w1 ⟨rfl, hb1⟩
 have HB1 := hide hb1
 clear hb1
 by_cases hr : rulesE rs = 0
 ·have HR := hide hr
  rw [hr]
  clear hr
  go_wp2_with fail
  go_loopw [5, 17] (fun ov oi wr => ∃ i, i ≤ rs.length ∧ oi = .int .i64 (i : Int) ∧ CrI U rs w i 0 ov wr) (fun ov oi wr => rs.length - (intOf oi).toNat)
  case atStart => exact ⟨0, Nat.zero_le _, rfl, [], QRow.start _ _ _, by simp, HB1.out, rfl⟩
  case round =>
   obtain ⟨i, hi, rfl, cs, hQ, hl, hB, hc⟩ := hrel
   obtain ⟨va, vc, rfl⟩ := own_form hQ.own
   have HQ := hide hQ
   have HB := hide hB
   have HC := hide hc
   have HL := hide hl
   clear hQ hB hc hl
   by_cases hin : i < rs.length
   ·have hii : (i : Int) < (rs.length : Int) := by omega
    go_wp2_with fail
    go_loopw [5, 22] (fun ov oi wr => ∃ j, j ≤ rs.length ∧ oi = .int .i64 (j : Int) ∧ CrI U rs w i j ov wr) (fun ov oi wr => rs.length - (intOf oi).toNat)
    case atStart => exact ⟨0, Nat.zero_le _, rfl, cs, HQ.out, HL.out, HB.out, HC.out⟩
    case round =>
     obtain ⟨j, hj, rfl, cs2, hQ2, hl2, hB2, hc2⟩ := hrel
     obtain ⟨va2, vc2, rfl⟩ := own_form hQ2.own
     have HQ2 := hide hQ2
     have HB2 := hide hB2
     have HC2 := hide hc2
     have HL2 := hide hl2
     clear hQ2 hB2 hc2 hl2
     by_cases hjn : j < rs.length
     ·have hjj : (j : Int) < (rs.length : Int) := by omega
      have HMI := hide (rule_may (rulesE_all HR.out rs[i] (List.getElem_mem hin)))
      have HMJ := hide (rule_may (rulesE_all HR.out rs[j] (List.getElem_mem hjn)))
      have HST : Hid (remZ rs.zipIdx i j = ((rs[i], i), (rs[j], j)) :: remZ rs.zipIdx i (j + 1)) := by unfold Hid; rw [remZ_step _ i j (by simpa using hin) (by simpa using hjn), zi_at rs i hin, zi_at rs j hjn]
      go_wp2_with fail
      refine (pairsO_any BT U HUU.out HUO.out rs i j hin hjn _ _ X (HU.out.later HB2.out) HMI.out HMJ.out (HT.out.on (HB2.out.mono hBw)) (by have := HB2.out.size; omega)).mono ?_
      rintro e w3 ⟨hb3, hcase⟩
      have HB3 := hide (HB2.out.trans (hb3.mono HB2.out.size))
      have HQ3 := hide (HQ2.out.below hb3)
      have hz3 := hb3.size
      clear hb3
      rcases hcase with ⟨hnf, v', cs3, rfl, hq', hm'⟩ | ⟨hf, rfl⟩
      ·have hln : cs3.length ≤ 200 := by
        have h1 := congrArg List.length hm'
        rw [List.length_map] at h1
        rw [h1]
        exact ovL_len U _ HMI.out HMJ.out
       have hzw := HB2.out.size
       have hl2 := HL2.out
       obtain ⟨v2, w4, hrun, hq4, hg4⟩ := pairs_join HQ3.out HB3.out.size (fun _ h => h.elim) hq' hzw (fun b hb => (HQ2.out.own.lt b hb).2) (by omega)
       have hlt3 := HQ3.out.own.lt
       have HB4 : Hid (Below w.heap.size w w4) := HB3.out.grown hg4 HB3.out.size (fun q hq => (hlt3 q hq).1)
       have HQ4 := hide hq4
       obtain ⟨a3, c3, rfl⟩ := own_form hq'.own
       obtain ⟨a4, c4, hv4⟩ := own_form hq4.own
       obtain ⟨nl, hnl⟩ : ∃ nl, nl = (cs2 ++ cs3).length := ⟨_, rfl⟩
       rw [← hnl] at hv4
       subst hv4
       have HRUN := hide hrun
       have HNL := hide hnl
       have HNF : Hid (¬ crB U ((rs[i], i), (rs[j], j))) := fun h => by
        obtain ⟨d, hd, hf⟩ := h
        exact hnf d hd hf
       have HM : Hid ((cs2 ++ cs3).map (·.1) = cs2.map (·.1) ++ crO U ((rs[i], i), (rs[j], j))) := by unfold Hid; rw [List.map_append, hm']; rfl
       clear hrun hq4 hg4 hlt3 hq' hm' hnf hnl hl2 hzw hln hz3
       have HE : Hid (crT U (((rs[i], i), (rs[j], j)) :: remZ rs.zipIdx i (j + 1)) (cs2.map (·.1)) = crR U rs) := by unfold Hid; rw [← HST.out]; exact HC2.out
       by_cases hm4 : 400 < nl
       ·have hgt : (400 : Int) < (nl : Int) := by omega
        go_wp2_with (at_builtin; refine wpList_append_eq rfl _ _ _ _ rfl rfl rfl HRUN.out ?_)
        refine bodyPost_ret (v := .tuple #[.slice none 0 0, .int .i64 3]) (by simp [results, Tryz.results5, go_sem]) rfl ?_
        have h := HE.out
        rw [crT_many HNF.out (by rw [← HM.out, List.length_map, ← HNL.out]; exact hm4)] at h
        exact ⟨HB4.out, Or.inr (Or.inl ⟨HR.out, by rw [← h]; decide, by rw [← h]⟩)⟩
       ·have hgt : ¬ (400 : Int) < (nl : Int) := by omega
        have hgt2 : (nl : Int) ≤ 400 := by omega
        go_wp2_with (at_builtin; refine wpList_append_eq rfl _ _ _ _ rfl rfl rfl HRUN.out ?_)
        go_roundw
        case rel =>
         have h := HE.out
         rw [crT_on HNF.out (by rw [← HM.out, List.length_map, ← HNL.out]; exact hm4), ← HM.out] at h
         exact ⟨j + 1, by omega, by simp, cs2 ++ cs3, HQ4.out, by rw [← HNL.out]; omega, HB4.out, h⟩
        case measure => simp [intOf]; omega
      ·have HE : Hid ((8, []) = crR U rs) := by
        have h := HC2.out
        rw [HST.out, crT_full (by obtain ⟨d, hd, h⟩ := hf; exact ⟨d, hd, h⟩)] at h
        exact h
       clear hf
       go_wp2_with fail
       refine bodyPost_ret (v := .tuple #[.slice none 0 0, .int .i64 8]) (by simp [results, Tryz.results5, go_sem]) rfl ?_
       have h := HE.out
       exact ⟨HB3.out, Or.inr (Or.inl ⟨HR.out, by rw [← h]; decide, by rw [← h]⟩)⟩
     ·have hjj : ¬ (j : Int) < (rs.length : Int) := by omega
      have ej : j = rs.length := by omega
      have HNX : Hid (crT U (remZ rs.zipIdx (i + 1) 0) (cs2.map (·.1)) = crR U rs) := by
       unfold Hid
       rw [← remZ_next _ i (by simpa using hin), zi_len, ← ej]
       exact HC2.out
      clear ej
      go_wp2_with fail
      go_roundw
      case rel => exact ⟨i + 1, by omega, by simp, cs2, HQ2.out, HL2.out, HB2.out, HNX.out⟩
      case measure => simp [intOf]; omega
   ·have hii : ¬ (i : Int) < (rs.length : Int) := by omega
    have ei : i = rs.length := by omega
    have HEN : Hid ((0, cs.map (·.1)) = crR U rs) := by
     have h : crT U (remZ rs.zipIdx rs.zipIdx.length 0) (cs.map (·.1)) = crR U rs := by rw [zi_len, ← ei]; exact HC.out
     rw [remZ_end, crT_nil] at h
     exact h
    clear ei
    go_wp2_with fail
    refine bodyPost_ret (v := .tuple #[.slice va cs.length vc, .int .i64 0]) (by simp [results, Tryz.results5, go_sem]) rfl ?_
    have h := HEN.out
    exact ⟨HB.out, Or.inr (Or.inr ⟨HR.out, by rw [← h], _, cs, rfl, HQ.out, HL.out, by rw [← h]⟩)⟩
 ·obtain ⟨er, her⟩ : ∃ er, er = rulesE rs := ⟨_, rfl⟩
  rw [← her] at hr ⊢
  have HR : Hid (er = rulesE rs ∧ er ≠ 0) := ⟨her, hr⟩
  have hr3 : (er != 0) = true := by simp [hr]
  clear her hr
  go_wp2_with fail
  refine bodyPost_ret (v := .tuple #[.slice none 0 0, .int .i64 er]) (by simp [results, Tryz.results5, go_sem]) rfl ?_
  have h := HR.out
  exact ⟨HB1.out, Or.inl ⟨fun q => h.2 (h.1.trans q), by rw [h.1]⟩⟩
end Go.Proofs.YtbnmlkaejdpigaaGreatDoor
