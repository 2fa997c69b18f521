/- Walks: the law CombMade. -/
import Derived.Test.YtcdabjekppddjaaGreatDoorCs8
import Derived.Test.YtcdabjekppddjaaGreatDoorCf5
import Derived.Test.YtcdabjekppddjaaGreatDoorCb14
import Derived.Test.YtcdabjekppddjaaGreatDoorLf1gw
import Derived.Test.YtcdabjekppddjaaGreatDoorBxs
namespace Go.Proofs.YtcdabjekppddjaaGreatDoor
open Go.RowKit
set_option linter.unusedSimpArgs false
set_option linter.unusedVariables false
set_option maxRecDepth 8000

set_option maxHeartbeats 4000000 in
theorem combMade_any (zs : List Int) (hr : ∀ z ∈ zs, Rng z) (y1 y2 : Int) (h1 : Rng y1) (h2 : Rng y2) (u : Value) (w : World) (X : Nat → Prop) (hu : PV w X u zs) (hT : Tb w.heap.size w) (hS : Tse w.heap.size w) :
    Calls Tryz.prog 4 #[u, .int .i64 y1, .int .i64 y2] w fun e w' => e = .returned (.bool true) ∧ Below w.heap.size w w' := by
  have HU := hide hu
  have HRG := hide hr
  have HT : Hid (∀ w', Below w.heap.size w w' → Tb w'.heap.size w') := fun w' hb => hT.raise hb hb.size
  have HS : Hid (∀ w', Below w.heap.size w w' → Tse w'.heap.size w') := fun w' hb => hS.raise hb hb.size
  unfold Rng at h1 h2
  obtain ⟨ua, uc, rfl⟩ : ∃ ua uc, u = .slice ua zs.length uc := by
    obtain ⟨a, c, h, _⟩ := hu
    exact ⟨a, c, h⟩
  clear hu hr hT hS
  by_cases hl : 256 < zs.length
  · have hli : (256 : Int) < (zs.length : Int) := by omega
    go_enter Tryz.func4, Tryz.ntmps4
    go_wp2_with fail
    go_ret
    exact ⟨rfl, Below.refl _ _⟩
  · have hli : ¬ (256 : Int) < (zs.length : Int) := by omega
    go_enter Tryz.func4, Tryz.ntmps4
    go_wp2_with fail
    refine (pick_any y1 20 (by omega) (by omega) h1 _).mono ?_
    rintro e w1 ⟨n2, rfl, hn2, rfl⟩
    have CL := lamOfRawG_any 2 0 (by omega) (by omega) (by omega) zs _ HRG.out (by omega) (2 + n2) 0 (by omega) (by omega) w1 X HU.out
    have e3 : ((2 + n2 : Nat) : Int) = 2 + (n2 : Int) := by omega
    have e4 : ((2 : Nat) : Int) = 2 := rfl
    have e5 : ((0 : Nat) : Int) = 0 := rfl
    rw [e3, e4, e5] at CL
    have HCL := hide CL
    have HN : Hid (tpQ (2 + n2) ≤ 100) := by unfold Hid tpQ; split <;> omega
    clear CL e3 e4 e5
    go_wp2_with fail
    refine HCL.out.mono ?_
    rintro e w2 ⟨t, a, c, rfl, hs, hb, he, hz⟩
    have HE := hide he
    have HZ : Hid (sizeM [t] ≤ 100) := Nat.le_trans hz HN.out
    have HB3 := hide (up1 hb (.cells #[.int .i64 t.kind, .int .i64 t.idx, .slice a t.subs.length c] 36))
    have BL3 := hide (BxL.new (c := c) hs)
    clear hs hb he hz HN HCL
    go_wp2_with fail
    generalize w2.alloc (.cells #[.int .i64 t.kind, .int .i64 t.idx, .slice a t.subs.length c] 36) = w3 at *
    generalize w2.heap.size = A at *
    refine (combOf_zero 100 t _ w3 _ (by omega) HE.out BL3.out.mv HZ.out).mono ?_
    generalize cmb 86 100 0 t = o
    rintro e w4 ⟨hbn, hcase⟩
    have HB4 := hide (HB3.out.trans (hbn.mono HB3.out.size))
    have BL4 := hide (BL3.out.later hbn)
    clear hbn
    obtain ⟨q, ub, cb, err, rfl, herr, hsl⟩ : ∃ (q : Tm) (ub : Option Addr) (cb : Nat) (err : Int), e = .returned (.tuple #[.agg #[.string q.name, .slice ub q.args.length cb], .int .i64 err]) ∧ (err = 0 ∨ err = 8) ∧ Sl w4 (fun b => w3.heap.size ≤ b) ub q.args := by
      rcases hcase with ⟨u, a, c, _, rfl, hs⟩ | ⟨_, rfl⟩
      · exact ⟨u, a, c, 0, rfl, Or.inl rfl, hs⟩
      · exact ⟨⟨⟨#[]⟩, []⟩, none, 0, 8, rfl, Or.inr rfl, ⟨by simp, Or.inl rfl⟩⟩
    clear hcase
    have HB5 := hide (up1 HB4.out (.cells #[.string q.name, .slice ub q.args.length cb] 24))
    have BL5 := hide (BL4.out.later (one1 w4 (.cells #[.string q.name, .slice ub q.args.length cb] 24)))
    have BT5 := hide (BxT.new (c := cb) hsl)
    obtain ⟨l05, l15, l25⟩ := BL5.out.cs
    clear hsl
    go_wp2_with fail
    generalize w4.alloc (.cells #[.string q.name, .slice ub q.args.length cb] 24) = w5 at *
    generalize w4.heap.size = B at *
    refine (combFromLaw_any t _ w5 _ BL5.out.mv (HT.out _ HB5.out)).mono ?_
    rintro e w6 ⟨rfl, hbn⟩
    have HB6 := hide (HB5.out.trans (hbn.mono HB5.out.size))
    have BL6 := hide (BL5.out.later hbn)
    have BT6 := hide (BT5.out.later hbn)
    clear hbn l05 l15 l25
    rcases herr with rfl | rfl
    · obtain ⟨t06, t16⟩ := BT6.out.cs
      go_wp2_with fail
      refine (size_any q _ 60 w6 _ BT6.out.tv (by omega) (by omega)).mono ?_
      rintro e w7 ⟨rfl, hbn⟩
      have HB7 := hide (HB6.out.trans (hbn.mono HB6.out.size))
      have BL7 := hide (BL6.out.later hbn)
      have BT7 := hide (BT6.out.later hbn)
      clear hbn t06 t16
      by_cases hq60 : 60 < sizeL [q]
      · have hg : min (sizeL [q] : Int) (60 + 1) > 60 := by omega
        obtain ⟨l07, l17, l27⟩ := BL7.out.cs
        go_wp2_with fail
        refine (combFromLaw_any t _ w7 _ BL7.out.mv (HT.out _ HB7.out)).mono ?_
        rintro e w8 ⟨rfl, hbn⟩
        have HB8 := hide (HB7.out.trans (hbn.mono HB7.out.size))
        clear hbn
        go_wp2_with fail
        go_ret
        exact ⟨rfl, HB8.out⟩
      · have hg : ¬ min (sizeL [q] : Int) (60 + 1) > 60 := by omega
        have KP : Hid (∀ w', Below w7.heap.size w7 w' → w'.cell? ⟨B, 0, none⟩ = some (.string q.name) ∧ w'.cell? ⟨B, 1, none⟩ = some (.slice ub q.args.length cb)) := fun w' h => (BT7.out.later h).cs
        have kd : Below w7.heap.size w7 w7.drew := (Below.refl _ _).drew
        have HSd := hide (KP.out _ kd)
        have V7 : Hid (∀ w', Below w7.heap.size w7 w' → TV w' (fun _ => True) (.agg #[.string q.name, .slice ub q.args.length cb]) q) := fun w' h => (BT7.out.later h).tv
        have kw := hide kd
        go_wp2_with fail
        refine wp_region_held_drew (S := (fun w' => w'.cell? ⟨B, 0, none⟩ = some (.string q.name) ∧ w'.cell? ⟨B, 1, none⟩ = some (.slice ub q.args.length cb))) (by kernel_rfl) HSd.out (fun hHeld => ?_)
        refine wpAnyH_take (i := 0) (v := ?_) rfl (by kernel_rfl) (by kernel_rfl) (by kernel_rfl) (fun _ _ _ h => h) (Or.inl ⟨by rfl, ?_⟩) (by assumption) ?_
        rotate_left
        · intro w' hSw
          obtain ⟨e0, e1⟩ := hSw
          go_simp <;> with_reducible rfl
        try simp only [Act.put, List.setIfInBounds_toArray, List.set_cons_zero, List.set_cons_succ, List.getElem_toArray, List.getElem_cons_succ, List.getElem_cons_zero]
        refine wpAnyH_take (i := 1) (v := ?_) rfl (by kernel_rfl) (by kernel_rfl) (by kernel_rfl) (fun _ _ _ h => h) (Or.inl ⟨by rfl, ?_⟩) (by assumption) ?_
        rotate_left
        · intro w' hSw
          go_simp <;> with_reducible rfl
        try simp only [Act.put, List.setIfInBounds_toArray, List.set_cons_zero, List.set_cons_succ, List.getElem_toArray, List.getElem_cons_succ, List.getElem_cons_zero]
        refine wpAnyH_ready (rs := [2]) (by kernel_rfl) (by simp) ?_
        refine AllReadyH.cons rfl (fun K hK => ?_) AllReadyH.nil
        go_simp
        go_at_call 19
        refine (pick_any y2 30 (by omega) (by omega) h2 _).mono ?_
        rintro e w8 ⟨n3, rfl, hn3, rfl⟩
        go_simp
        refine hK.out _ _ (by exact HSd.out) (fun hHeld => ?_)
        clear hK K
        try simp only [Act.put, List.setIfInBounds_toArray, List.set_cons_zero, List.set_cons_succ, List.getElem_toArray, List.getElem_cons_succ, List.getElem_cons_zero]
        refine wpAnyH_ready (rs := [3]) (by kernel_rfl) (by simp) ?_
        refine AllReadyH.cons rfl (fun K hK => ?_) AllReadyH.nil
        go_simp
        go_at_call 22
        refine (combRuns_any q _ _ _ _ (V7.out _ kd)).mono ?_
        rintro e w9 ⟨rfl, hbn⟩
        have k9 : Below w7.heap.size w7 w9 := kd.trans (hbn.mono kd.size)
        clear hbn
        go_simp
        refine hK.out _ _ (by exact KP.out _ k9) (fun hHeld => ?_)
        clear hK K
        try simp only [Act.put, List.setIfInBounds_toArray, List.set_cons_zero, List.set_cons_succ, List.getElem_toArray, List.getElem_cons_succ, List.getElem_cons_zero]
        refine wpAnyH_take (i := 4) (v := ?_) rfl (by kernel_rfl) (by kernel_rfl) (by kernel_rfl) (fun _ _ _ h => h) (Or.inl ⟨by rfl, ?_⟩) (by assumption) ?_
        rotate_left
        · intro w' hSw
          go_simp <;> with_reducible rfl
        try simp only [Act.put, List.setIfInBounds_toArray, List.set_cons_zero, List.set_cons_succ, List.getElem_toArray, List.getElem_cons_succ, List.getElem_cons_zero]
        refine wpAnyH_take (i := 5) (v := ?_) rfl (by kernel_rfl) (by kernel_rfl) (by kernel_rfl) (fun _ _ _ h => h) (Or.inl ⟨by rfl, ?_⟩) (by assumption) ?_
        rotate_left
        · intro w' hSw
          obtain ⟨e0, e1⟩ := hSw
          go_simp <;> with_reducible rfl
        try simp only [Act.put, List.setIfInBounds_toArray, List.set_cons_zero, List.set_cons_succ, List.getElem_toArray, List.getElem_cons_succ, List.getElem_cons_zero]
        refine wpAnyH_ready (rs := [6]) (by kernel_rfl) (by simp) ?_
        refine AllReadyH.cons rfl (fun K hK => ?_) AllReadyH.nil
        go_simp
        go_at_call 24
        refine (leafD_any ⟨#[88]⟩ _).mono ?_
        rintro e w10 ⟨rfl, hbn⟩
        have k10 : Below w7.heap.size w7 w10 := k9.trans (hbn.mono k9.size)
        clear hbn
        go_simp
        refine hK.out _ _ (by exact KP.out _ k10) (fun hHeld => ?_)
        clear hK K
        try simp only [Act.put, List.setIfInBounds_toArray, List.set_cons_zero, List.set_cons_succ, List.getElem_toArray, List.getElem_cons_succ, List.getElem_cons_zero]
        refine wpAnyH_ready (rs := [7]) (by kernel_rfl) (by simp) ?_
        refine AllReadyH.cons rfl (fun K hK => ?_) AllReadyH.nil
        go_simp
        go_at_call 24
        refine (leafD_any ⟨#[99, 49]⟩ _).mono ?_
        rintro e w11 ⟨rfl, hbn⟩
        have k11 : Below w7.heap.size w7 w11 := k10.trans (hbn.mono k10.size)
        clear hbn
        go_simp
        refine hK.out _ _ (by exact KP.out _ k11) (fun hHeld => ?_)
        clear hK K
        try simp only [Act.put, List.setIfInBounds_toArray, List.set_cons_zero, List.set_cons_succ, List.getElem_toArray, List.getElem_cons_succ, List.getElem_cons_zero]
        refine wpAnyH_ready (rs := [8]) (by kernel_rfl) (by simp) ?_
        refine AllReadyH.cons rfl (fun K hK => ?_) AllReadyH.nil
        go_simp
        go_at_call 23
        refine (put2_any ⟨⟨#[88]⟩, []⟩ ⟨⟨#[99, 49]⟩, []⟩ _ _ _ (fun _ => True) ⟨none, 0, rfl, ⟨by simp, Or.inl rfl⟩⟩ ⟨none, 0, rfl, ⟨by simp, Or.inl rfl⟩⟩).mono ?_
        rintro e w12 ⟨v1, rfl, hv1, hbn⟩
        have k12 : Below w7.heap.size w7 w12 := k11.trans (hbn.mono k11.size)
        have HV1 := hide (hv1.mono (Y := fun _ => True) fun _ _ _ => trivial)
        clear hv1
        clear hbn
        go_simp
        refine hK.out _ _ (by exact KP.out _ k12) (fun hHeld => ?_)
        clear hK K
        try simp only [Act.put, List.setIfInBounds_toArray, List.set_cons_zero, List.set_cons_succ, List.getElem_toArray, List.getElem_cons_succ, List.getElem_cons_zero]
        refine wpAnyH_ready (rs := [9]) (by kernel_rfl) (by simp) ?_
        refine AllReadyH.cons rfl (fun K hK => ?_) AllReadyH.nil
        go_simp
        go_at_call 23
        refine (put2_any q _ _ _ _ (fun _ => True) (V7.out _ k12) HV1.out).mono ?_
        rintro e w13 ⟨v2, rfl, hv2, hbn⟩
        have k13 : Below w7.heap.size w7 w13 := k12.trans (hbn.mono k12.size)
        have HV2 := hide hv2
        clear hv2
        clear hbn
        go_simp
        refine hK.out _ _ (by exact KP.out _ k13) (fun hHeld => ?_)
        clear hK K
        try simp only [Act.put, List.setIfInBounds_toArray, List.set_cons_zero, List.set_cons_succ, List.getElem_toArray, List.getElem_cons_succ, List.getElem_cons_zero]
        refine wpAnyH_ready (rs := [10]) (by kernel_rfl) (by simp) ?_
        refine AllReadyH.cons rfl (fun K hK => ?_) AllReadyH.nil
        go_simp
        go_at_call 3
        refine (combSays_any ⟨#[88]⟩ _ v2 _ _ HV2.out (HT.out _ (HB7.out.trans (k13.mono HB7.out.size))) (HS.out _ (HB7.out.trans (k13.mono HB7.out.size)))).mono ?_
        rintro e w14 ⟨rfl, hbn⟩
        have k14 : Below w7.heap.size w7 w14 := k13.trans (hbn.mono k13.size)
        clear hbn
        go_simp
        refine hK.out _ _ (by exact KP.out _ k14) (fun hHeld => ?_)
        clear hK K
        try simp only [Act.put, List.setIfInBounds_toArray, List.set_cons_zero, List.set_cons_succ, List.getElem_toArray, List.getElem_cons_succ, List.getElem_cons_zero]
        refine wpAnyH_take (i := 11) (v := ?_) rfl (by kernel_rfl) (by kernel_rfl) (by kernel_rfl) (fun _ _ _ h => h) (Or.inl ⟨by rfl, ?_⟩) (by assumption) ?_
        rotate_left
        · intro w' hSw
          go_simp <;> with_reducible rfl
        try simp only [Act.put, List.setIfInBounds_toArray, List.set_cons_zero, List.set_cons_succ, List.getElem_toArray, List.getElem_cons_succ, List.getElem_cons_zero]
        refine wpAnyH_take (i := 12) (v := ?_) rfl (by kernel_rfl) (by kernel_rfl) (by kernel_rfl) (fun _ _ _ h => h) (Or.inl ⟨by rfl, ?_⟩) (by assumption) ?_
        rotate_left
        · intro w' hSw
          go_simp <;> with_reducible rfl
        try simp only [Act.put, List.setIfInBounds_toArray, List.set_cons_zero, List.set_cons_succ, List.getElem_toArray, List.getElem_cons_succ, List.getElem_cons_zero]
        refine wpAnyH_done (by kernel_rfl) ?_ _
        have HB14 := hide (HB7.out.trans (k14.mono HB7.out.size))
        clear kd k9 k10 k11 k12 k13 k14
        go_wp2_with fail
        go_ret
        exact ⟨rfl, HB14.out⟩
    · obtain ⟨l06, l16, l26⟩ := BL6.out.cs
      go_wp2_with fail
      refine (combFromLaw_any t _ w6 _ BL6.out.mv (HT.out _ HB6.out)).mono ?_
      rintro e w7 ⟨rfl, hbn⟩
      have HB7 := hide (HB6.out.trans (hbn.mono HB6.out.size))
      clear hbn
      go_wp2_with fail
      go_ret
      exact ⟨rfl, HB7.out⟩
end Go.Proofs.YtcdabjekppddjaaGreatDoor
