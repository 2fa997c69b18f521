import Derived.Test.YtbnmlkaejdpigaaGreatDoorOv13
import Derived.Test.YtbnmlkaejdpigaaGreatDoorW187
import Derived.Test.YtbnmlkaejdpigaaGreatDoorW120
import Derived.Test.YtbnmlkaejdpigaaGreatDoorTd3
import Derived.Deep.RegionHeld3
namespace Go.Proofs.YtbnmlkaejdpigaaGreatDoor
open Go.RowKit
set_option linter.unusedSimpArgs false
set_option linter.unusedVariables false
set_option maxRecDepth 8000
def TlI (rs : List Pr) (ls : List Pr) (jb : Bool) (w : World) (all i : Value) (wr : World) : Prop :=
 ∃ (k : Nat) (ab : Bool), k ≤ ls.length ∧ i = .int .i64 (k : Int) ∧ all = .bool ab ∧ (ab = true → jnL rs 100 (ls.drop k) = (jb, 0)) ∧ (ab = false → jb = false) ∧ Below w.heap.size w wr
theorem tl_stop {rs : List Pr} {p : Pr} {r : List Pr} {jb ab : Bool} {mb : Bool} {me : Int} (hm : (mb, me) = meetP rs 100 p.l p.r) (h0 : me ≠ 0) (h1 : ab = true → jnL rs 100 (p :: r) = (jb, 0)) (h2 : ab = false → jb = false) : ab = false ∧ jb = false := by
 cases ab with
 | false => exact ⟨rfl, h2 rfl⟩
 | true =>
  have h := h1 rfl
  rw [jnL, ← hm, if_neg (by simp [h0])] at h
  exact absurd (congrArg Prod.snd h) h0
theorem tl_next {rs : List Pr} {p : Pr} {r : List Pr} {jb ab mb : Bool} (hm : (mb, 0) = meetP rs 100 p.l p.r) (h1 : ab = true → jnL rs 100 (p :: r) = (jb, 0)) (h2 : ab = false → jb = false) : ((ab && mb) = true → jnL rs 100 r = (jb, 0)) ∧ ((ab && mb) = false → jb = false) := by
 cases ab with
 | false => exact ⟨fun h => by simp at h, fun _ => h2 rfl⟩
 | true =>
  have h := h1 rfl
  cases mb with
  | true =>
   rw [jnL, ← hm, if_pos (by simp)] at h
   exact ⟨fun _ => h, fun h => by simp at h⟩
  | false =>
   rw [jnL, ← hm, if_neg (by simp)] at h
   exact ⟨fun h => by simp at h, fun _ => (congrArg Prod.fst h).symm⟩
set_option maxHeartbeats 8000000 in
theorem topLocal_any (BT : Nat) (y1 y2 y3 : Int) (hy1 : -9223372036854775808 ≤ y1 ∧ y1 ≤ 9223372036854775807) (hy2 : -9223372036854775808 ≤ y2 ∧ y2 ≤ 9223372036854775807) (w : World) (hT : Tb BT w) (hBw : BT ≤ w.heap.size) :
  Calls Tryz.prog 3 #[.int .i64 y1, .int .i64 y2, .int .i64 y3] w fun e w' => e = .returned (.bool true) ∧ Below w.heap.size w w' := by
 have HT := hide hT
 clear hT
 go_enter Tryz.func3, Tryz.ntmps3
 go_wp2_with fail
 refine (rulesFromR_any y1 hy1 _).mono ?_
 rintro e w1 ⟨l1, v1, cs1, N1, rfl, hl1, hn1, hn2, hq1, hc1, hz1, hb1⟩
 have HB1 := hide hb1
 have HQ1 := hide hq1
 clear hb1 hq1
 go_wp2_with fail
 refine (rulesFromR_any y2 hy2 _).mono ?_
 rintro e w2 ⟨l2, v2, cs2, N2, rfl, hl2, hn3, hn4, hq2, hc2, hz2, hb2⟩
 have hlt1 := HQ1.out.own.lt
 obtain ⟨v, w3, hrun, hq3, hg3⟩ := pairs_join (HQ1.out.below hb2) (by have := hb2.size; omega) (fun _ h => h.elim) hq2 (by omega) (fun b hb => by have := (hlt1 b hb).2; omega) (by omega)
 have HB3 : Hid (Below w.heap.size w w3) := (HB1.out.trans (hb2.mono HB1.out.size)).grown hg3 (HB1.out.trans (hb2.mono HB1.out.size)).size (fun q hq => by have := (hlt1 q hq).1; have := HB1.out.size; omega)
 obtain ⟨rs, hrs⟩ : ∃ rs, rs = (cs1 ++ cs2).map (fun x => x.1) := ⟨_, rfl⟩
 have hqv := hq3.qv
 rw [← hrs] at hqv
 have HQV := hide hqv
 have HR : Hid (rulesE rs = 0) := by
  unfold Hid
  rw [hrs, List.map_append, hc1, hc2]
  refine rulesE_ofD (by have e1 := congrArg List.length hc1; have e2 := congrArg List.length hc2; simp at e1 e2 ⊢; omega) fun p hp => ?_
  rcases List.mem_append.1 hp with h | h
  ·exact rulesE_all (ten_rules l1 hl1).1 p h
  ·exact rulesE_all (ten_rules l2 hl2).1 p h
 have HRUN := hide hrun
 obtain ⟨va, vc, hv, -⟩ := id hqv
 subst hv
 clear hrun hq3 hg3 hqv hrs hc1 hc2 hz1 hz2 hl1 hl2 hn1 hn2 hn3 hn4 hb2 hq2 hlt1
 go_wp2_with (at_builtin; refine wpList_append_eq rfl _ _ _ _ rfl rfl rfl HRUN.out ?_)
 clear HRUN HQ1 HB1
 have HTB : Hid (Tb BT w3) := HT.out.on (HB3.out.mono hBw)
 have HBT : Hid (BT ≤ w3.heap.size) := Nat.le_trans hBw HB3.out.size
 refine (cPairs_any BT unU unU_may unU_once rs _ w3 _ HQV.out HTB.out HBT.out).mono ?_
 rintro e w4 ⟨hb4, hcase⟩
 have HB4 : Hid (Below w3.heap.size w3 w4) := hb4
 have HCJ : Hid (∀ w', Below w3.heap.size w3 w' → Calls Tryz.prog 6 #[.slice va rs.length vc, .int .i64 100] w' fun e w'' => e = .returned (.tuple #[.bool (cjF unU rs 100).1, .int .i64 (cjF unU rs 100).2]) ∧ Below w3.heap.size w3 w'' ∧ Below w'.heap.size w' w'') := fun w' hb => by
  refine (cJoin_any BT unU unU_may unU_once rs 100 _ w' _ (HQV.out.later hb) (HTB.out.on (hb.mono HBT.out)) (Nat.le_trans HBT.out hb.size)).mono ?_
  rintro e w'' ⟨rfl, hb2⟩
  exact ⟨rfl, hb.trans (hb2.mono hb.size), hb2⟩
 clear hb4
 obtain ⟨jb, je, hj⟩ : ∃ jb je, (jb, je) = cjF unU rs 100 := ⟨_, _, rfl⟩
 rw [← hj] at HCJ
 simp only at HCJ
 have HJ := hide hj
 clear hj
 rcases hcase with ⟨h1, -⟩ | ⟨h1, h2, rfl⟩ | ⟨h1, h2, v4, cs4, rfl, hq4, hl4, hm4⟩
 ·exact absurd HR.out h1
 ·have HE : Hid (je = (crR unU rs).1) := by
   have h := HJ.out
   unfold cjF at h
   rw [if_pos h1, if_neg h2] at h
   exact congrArg Prod.snd h
  generalize (crR unU rs).1 = er at *
  have hr3 : (er != 0) = true := by simp [h2]
  clear h1 h2 HJ
  go_wp2_with fail
  refine (HCJ.out w4 HB4.out).mono ?_
  rintro e w5 ⟨rfl, hb5, -⟩
  have HB5 := hide (HB3.out.trans (hb5.mono HB3.out.size))
  obtain rfl := HE.out
  clear hb5 HE HCJ
  go_wp2_with fail
  refine bodyPost_ret (v := .bool true) (by simp [results, Tryz.results3, go_sem]) rfl ?_
  exact ⟨rfl, HB5.out⟩
 ·have HE : Hid ((jb, je) = jnL rs 100 (cs4.map (·.1))) := by
   have h := HJ.out
   unfold cjF at h
   rw [if_pos h1, if_pos h2, if_pos (by decide), ← hm4] at h
   exact h
  have HER : Hid (je = 0 ∨ je = 8 ∨ je = 9) := by
   have h := jnL_err rs 100 (cs4.map (·.1))
   rw [← HE.out] at h
   exact h
  have HOK : Hid (∀ p ∈ cs4.map (·.1), Ok2 p) := by unfold Hid; rw [hm4]; exact crR_ok (rulesE_all HR.out)
  have hlc : (cs4.map (·.1)).length = cs4.length := by simp
  have hqv4 := hq4.qv
  obtain ⟨a4, c4, rfl⟩ := own_form hq4.own
  clear h1 h2 hm4 HJ hq4
  go_wp2_with fail
  refine (HCJ.out w4 HB4.out).mono ?_
  rintro e w5 ⟨rfl, hb5, hb45⟩
  have HB5 := hide hb5
  have HQ5 := hide (hqv4.later hb45)
  have HB05 : Hid (Below w.heap.size w w5) := HB3.out.trans (HB5.out.mono HB3.out.size)
  have HRS := hide (HQV.out.later hb5)
  clear hb5 hb45 HCJ hqv4 HB4 HQV HTB HBT HB3 HB5 HT
  by_cases hje : je = 0
  ·subst hje
   have HE2 : Hid (jnL rs 100 (cs4.map (·.1)) = (jb, 0)) := HE.out.symm
   clear HE HER
   generalize cs4.map (·.1) = ls at *
   rw [← hlc] at hl4 ⊢
   clear hlc
   go_wp2_with fail
   go_loopw [12, 13] (fun all i wr => TlI rs ls jb w5 all i wr) (fun all i wr => ls.length - (intOf i).toNat)
   case atStart => exact ⟨0, true, Nat.zero_le _, rfl, rfl, fun _ => HE2.out, (by intro h; cases h), Below.refl _ _⟩
   case round =>
    obtain ⟨k, ab, hk, rfl, rfl, hab, han, hbw⟩ := hrel
    have HAB := hide hab
    have HAN := hide han
    have HBW := hide hbw
    by_cases hlt : k < ls.length
    ·obtain ⟨b, o, a1, c1, a2, c2, hva, d0, d1, d2, d3, hs1, hs2⟩ := (HQ5.out.later hbw).get k hlt
     have HOKP := hide (HOK.out ls[k] (List.getElem_mem hlt))
     have HDR : Hid (ls.drop k = ls[k] :: ls.drop (k + 1)) := List.drop_eq_getElem_cons hlt
     have HX1 := hide hs1
     have HX2 := hide hs2
     have HRW := hide (HRS.out.later hbw)
     have hki : (k : Int) < (ls.length : Int) := by omega
     clear hab han hbw hs1 hs2
     subst hva
     rw [HDR.out] at HAB
     clear HDR
     generalize ls[k] = d at *
     obtain ⟨mb, me, hme⟩ : ∃ mb me, (mb, me) = rMeet rs d.l d.r (100 : Nat) := ⟨_, _, rfl⟩
     have HME := hide hme
     have HS0 := hide (And.intro d0 (And.intro d1 (And.intro d2 d3)))
     have TM : Hid (∀ w', Below wr.heap.size wr w' → Calls Tryz.prog 7 #[.slice va rs.length vc, .agg #[.string d.l.name, .slice a1 d.l.args.length c1], .agg #[.string d.r.name, .slice a2 d.r.args.length c2], .int .i64 100] w' fun e w'' => e = .returned (.tuple #[.bool mb, .int .i64 me]) ∧ Below wr.heap.size wr w'' ∧ w''.cell? ⟨b, o + k * 4, none⟩ = some (.string d.l.name) ∧ w''.cell? ⟨b, o + k * 4 + 1, none⟩ = some (.slice a1 d.l.args.length c1) ∧ w''.cell? ⟨b, o + k * 4 + 2, none⟩ = some (.string d.r.name) ∧ w''.cell? ⟨b, o + k * 4 + 3, none⟩ = some (.slice a2 d.r.args.length c2)) := fun w' hb => by
      refine (rMeet_any rs d.l d.r ((100 : Nat) : Int) _ _ _ _ _ w' (fun _ => True) ((HRW.out.later hb).mono fun _ _ _ => trivial) ((HX1.out.later hb).mono fun _ _ _ => trivial) ((HX2.out.later hb).mono fun _ _ _ => trivial)).mono ?_
      rintro e w'' ⟨rfl, hb2⟩
      have hb3 := hb.trans (hb2.mono hb.size)
      rw [← HME.out]
      exact ⟨rfl, hb3, cell_later hb3 d0, cell_later hb3 d1, cell_later hb3 d2, cell_later hb3 d3⟩
     have HRM : Hid ((mb, me) = (false, 3) ∨ (mb, me) = meetP rs 100 d.l d.r) := by
      have h := rMeet_ok HR.out HOKP.out (m := 100) (by omega)
      rw [← hme] at h
      exact h
     clear hme HME
     go_wp2_with fail
     go_region_held3 (fun w' => w'.cell? ⟨b, o + k * 4, none⟩ = some (.string d.l.name) ∧ w'.cell? ⟨b, o + k * 4 + 1, none⟩ = some (.slice a1 d.l.args.length c1) ∧ w'.cell? ⟨b, o + k * 4 + 2, none⟩ = some (.string d.r.name) ∧ w'.cell? ⟨b, o + k * 4 + 3, none⟩ = some (.slice a2 d.r.args.length c2)) (first | exact HS0.out | exact hS | go_keep)
      (first
       | (go_at_call 7; refine (TM.out _ (by first | exact Below.refl _ _ | exact (Below.refl _ _).drew)).mono ?_; rintro e w7 ⟨rfl, hb7, hS⟩))
     have HB7 : Hid (Below w5.heap.size w5 w7) := HBW.out.trans (hb7.mono HBW.out.size)
     clear hb7 hS TM HS0 d0 d1 d2 d3
     by_cases hm0 : me = 0
     ·subst hm0
      have HN : Hid (((ab && mb) = true → jnL rs 100 (ls.drop (k + 1)) = (jb, 0)) ∧ ((ab && mb) = false → jb = false)) := tl_next (HRM.out.resolve_left (fun h => by cases h)) HAB.out HAN.out
      clear HRM HAB HAN
      cases ab with
      | true =>
       go_wp2_with fail
       go_roundw
       case rel => exact ⟨k + 1, mb, by omega, by go_num, rfl, by have h := HN.out.1; simpa using h, by have h := HN.out.2; simpa using h, HB7.out⟩
       case measure => simp [intOf]; omega
      | false =>
       go_wp2_with fail
       go_roundw
       case rel => exact ⟨k + 1, false, by omega, by go_num, rfl, (by intro h; cases h), (fun _ => HN.out.2 rfl), HB7.out⟩
       case measure => simp [intOf]; omega
     ·have hmn : (me != 0) = true := by simp [hm0]
      by_cases hm3 : me = 3
      ·subst hm3
       clear hm0
       cases ab with
       | true =>
        go_wp2_with fail
        refine bodyPost_ret (v := .bool true) (by simp [results, Tryz.results3, go_sem]) rfl ?_
        exact ⟨rfl, HB05.out.trans (HB7.out.mono HB05.out.size)⟩
       | false =>
        cases jb with
        | true =>
         go_wp2_with fail
         refine bodyPost_ret (v := .bool true) (by simp [results, Tryz.results3, go_sem]) rfl ?_
         exact ⟨rfl, HB05.out.trans (HB7.out.mono HB05.out.size)⟩
        | false =>
         go_wp2_with fail
         refine bodyPost_ret (v := .bool true) (by simp [results, Tryz.results3, go_sem]) rfl ?_
         exact ⟨rfl, HB05.out.trans (HB7.out.mono HB05.out.size)⟩
      ·obtain ⟨e1, e2⟩ := tl_stop (HRM.out.resolve_left (fun h => hm3 (congrArg Prod.snd h))) hm0 HAB.out HAN.out
       subst e1
       subst e2
       clear HAB HAN HRM HE2
       go_wp2_with fail
       refine bodyPost_ret (v := .bool true) (by simp [results, Tryz.results3, go_sem]) rfl ?_
       exact ⟨rfl, HB05.out.trans (HB7.out.mono HB05.out.size)⟩
    ·have hki : ¬ (k : Int) < (ls.length : Int) := by omega
     have hej : ab = jb := by
      rw [List.drop_eq_nil_of_le (by omega), jnL] at hab
      cases ab with
      | true => exact (congrArg Prod.fst (hab rfl))
      | false => exact (han rfl).symm
     clear hab han hbw
     subst hej
     clear HAB HAN HE2
     cases ab with
     | true =>
      go_wp2_with fail
      refine (fact_any _).mono ?_
      rintro e w7 ⟨rfl, hb7⟩
      have HB7 : Hid (Below w5.heap.size w5 w7) := HBW.out.trans (hb7.mono HBW.out.size)
      clear hb7
      go_wp2_with fail
      refine bodyPost_ret (v := .bool true) (by simp [results, Tryz.results3, go_sem]) rfl ?_
      exact ⟨rfl, HB05.out.trans (HB7.out.mono HB05.out.size)⟩
     | false =>
      go_wp2_with fail
      refine (fact_any _).mono ?_
      rintro e w7 ⟨rfl, hb7⟩
      have HB7 : Hid (Below w5.heap.size w5 w7) := HBW.out.trans (hb7.mono HBW.out.size)
      clear hb7
      go_wp2_with fail
      refine bodyPost_ret (v := .bool true) (by simp [results, Tryz.results3, go_sem]) rfl ?_
      exact ⟨rfl, HB05.out.trans (HB7.out.mono HB05.out.size)⟩
  ·have hj1 : (je != 0) = true := by simp [hje]
   rcases HER.out with h | h | h
   ·exact absurd h hje
   ·subst h
    clear hje HE HER HOK
    go_wp2_with fail
    refine bodyPost_ret (v := .bool true) (by simp [results, Tryz.results3, go_sem]) rfl ?_
    exact ⟨rfl, HB05.out⟩
   ·subst h
    clear hje HE HER HOK
    go_wp2_with fail
    refine bodyPost_ret (v := .bool true) (by simp [results, Tryz.results3, go_sem]) rfl ?_
    exact ⟨rfl, HB05.out⟩
end Go.Proofs.YtbnmlkaejdpigaaGreatDoor
