import Derived.Test.YtbnmlkaejdpigaaGreatDoorOv11
import Derived.Test.YtbnmlkaejdpigaaGreatDoorW185
namespace Go.Proofs.YtbnmlkaejdpigaaGreatDoor
open Go.RowKit
set_option linter.unusedSimpArgs false
set_option linter.unusedVariables false
set_option maxRecDepth 8000
theorem rkL_le (K : ByteArray → ByteArray) (l : List Tm) : ∀ (ns : List ByteArray), sizeL (rkL K ns l).1 ≤ sizeL l := by
 induction l using Tm.indL with
 | h0 => intro ns; rw [rkL]; exact Nat.le_refl _
 | h s l r ihl ihr =>
  intro ns
  have e : sizeL ((⟨s, l⟩ : Tm) :: r) = 1 + sizeL l + sizeL r := by simp [sizeL]
  rw [e, rkL]
  split
  ·have h := ihr (adZ ns (K s))
   simp [sizeL]
   omega
  ·have h1 := ihl ns
   have h2 := ihr (rkL K ns l).2
   simp [sizeL]
   omega
theorem rkT_le (K : ByteArray → ByteArray) (t : Tm) (ns : List ByteArray) : sizeL [(rkT K ns t).1] ≤ sizeL [t] := by
 have h := rkL_le K [t] ns
 rw [rkL_cons, rkL_nil] at h
 exact h
def Sm2 (p : Pr) : Prop := sizeL [p.l] ≤ 2000 ∧ sizeL [p.r] ≤ 2000
theorem crO_sm {U : List Pr → Int × List Bd} {q : Rn × Rn} (h : ¬ crB U q) : ∀ p ∈ crO U q, Sm2 p := by
 intro p hp
 obtain ⟨d, hd, he⟩ := List.mem_filterMap.1 hp
 unfold ovQ at he
 split at he
 ·cases he
 ·rename_i hs
  have e : nmP (ovW U (apR q.1.1 q.2.1) d) = p := Option.some.inj he
  subst e
  have hn : ¬ ovF U (apR q.1.1 q.2.1) (decide (q.1.2 = q.2.2)) d := fun hf => h ⟨d, hd, hf⟩
  have h1 : ¬ 2000 < sizeL [(ovW U (apR q.1.1 q.2.1) d).l] := fun g => hn ⟨by simpa using hs, Or.inr (Or.inl g)⟩
  have h2 : ¬ 2000 < sizeL [(ovW U (apR q.1.1 q.2.1) d).r] := fun g => hn ⟨by simpa using hs, Or.inr (Or.inr g)⟩
  have g1 := rkT_le id (ovW U (apR q.1.1 q.2.1) d).l []
  have g2 := rkT_le id (ovW U (apR q.1.1 q.2.1) d).r (rkT id [] (ovW U (apR q.1.1 q.2.1) d).l).2
  refine ⟨?_, ?_⟩
  ·unfold nmP rnP; simp only; omega
  ·unfold nmP rnP; simp only; omega
theorem crT_sm (U : List Pr → Int × List Bd) : ∀ (l : List (Rn × Rn)) (out : List Pr), (∀ p ∈ out, Sm2 p) → ∀ p ∈ (crT U l out).2, Sm2 p
 | [], out, h => by rw [crT]; exact h
 | q :: r, out, h => by
  rw [crT]
  split
  ·simp
  ·rename_i hb
   split
   ·simp
   ·exact crT_sm U r _ (fun p hp => by
     rcases List.mem_append.1 hp with e | e
     ·exact h p e
     ·exact crO_sm hb p e)
theorem crR_sm (U : List Pr → Int × List Bd) (rs : List Pr) : ∀ p ∈ (crR U rs).2, Sm2 p := crT_sm U _ _ (by simp)
def jnL (rs : List Pr) (m : Nat) : List Pr → Bool × Int
 | [] => (true, 0)
 | p :: r => if (meetP rs m p.l p.r).1 = true ∧ (meetP rs m p.l p.r).2 = 0 then jnL rs m r else (false, (meetP rs m p.l p.r).2)
noncomputable def cjF (U : List Pr → Int × List Bd) (rs : List Pr) (k : Int) : Bool × Int :=
 if rulesE rs = 0 then (if (crR U rs).1 = 0 then (if 0 ≤ k ∧ k ≤ 400 then jnL rs k.toNat (crR U rs).2 else (false, 10)) else (false, (crR U rs).1)) else (false, rulesE rs)
set_option maxHeartbeats 4000000 in
theorem cJoin_any (BT : Nat) (U : List Pr → Int × List Bd) (hU : ∀ ls, pairsE ls = 0 → ∃ g, uRun false g [] ls = some (U ls)) (hUo : ∀ ls, pairsE ls = 0 → (U ls).1 = 0 → Once (U ls).2) (rs : List Pr) (k : Int) (u : Value) (w : World) (X : Nat → Prop) (hu : QV w X u rs) (hT : Tb BT w) (hBw : BT ≤ w.heap.size) :
  Calls Tryz.prog 6 #[u, .int .i64 k] w fun e w' => e = .returned (.tuple #[.bool (cjF U rs k).1, .int .i64 (cjF U rs k).2]) ∧ Below w.heap.size w w' := by
 have HU := hide hu
 have HC := hide (cPairs_any BT U hU hUo rs u w X hu hT hBw)
 obtain ⟨ua, uc, rfl, hul, -⟩ := id hu
 clear hu hT hU hUo
 obtain ⟨bb, be, hbe⟩ : ∃ bb be, (bb, be) = cjF U rs k := ⟨_, _, rfl⟩
 rw [← hbe]
 have HBE := hide hbe
 clear hbe
 simp only
 go_enter Tryz.func6, Tryz.ntmps6
 go_wp2_with fail
 refine HC.out.mono ?_
 rintro e w1 ⟨hb1, ⟨h1, rfl⟩ | ⟨h1, h2, rfl⟩ | ⟨h1, h2, v, cs, rfl, hq, hl, hm⟩⟩
 ·have HB1 := hide hb1
  have HE : Hid (bb = false ∧ be = rulesE rs) := by
   have h := HBE.out
   unfold cjF at h
   rw [if_neg h1] at h
   exact ⟨congrArg Prod.fst h, congrArg Prod.snd h⟩
  generalize rulesE rs = er at *
  have hr3 : (er != 0) = true := by simp [h1]
  clear hb1 h1 HBE
  go_wp2_with fail
  refine bodyPost_ret (v := .tuple #[.bool false, .int .i64 er]) (by simp [results, Tryz.results6, go_sem]) rfl ?_
  obtain ⟨rfl, rfl⟩ := HE.out
  exact ⟨rfl, HB1.out⟩
 ·have HB1 := hide hb1
  have HE : Hid (bb = false ∧ be = (crR U rs).1) := by
   have h := HBE.out
   unfold cjF at h
   rw [if_pos h1, if_neg h2] at h
   exact ⟨congrArg Prod.fst h, congrArg Prod.snd h⟩
  generalize (crR U rs).1 = er at *
  have hr3 : (er != 0) = true := by simp [h2]
  clear hb1 h1 h2 HBE
  go_wp2_with fail
  refine bodyPost_ret (v := .tuple #[.bool false, .int .i64 er]) (by simp [results, Tryz.results6, go_sem]) rfl ?_
  obtain ⟨rfl, rfl⟩ := HE.out
  exact ⟨rfl, HB1.out⟩
 ·have HB1 := hide hb1
  have HQ := hide hq
  have HM := hide hm
  have HR := hide h1
  obtain ⟨va, vc, rfl⟩ := own_form hq.own
  by_cases hk : 0 ≤ k ∧ k ≤ 400
  ·have HE : Hid ((bb, be) = jnL rs k.toNat (cs.map (·.1))) := by
    have h := HBE.out
    unfold cjF at h
    rw [if_pos h1, if_pos h2, if_pos hk, ← hm] at h
    exact h
   obtain ⟨m, rfl⟩ : ∃ m : Nat, k = (m : Int) := ⟨k.toNat, by omega⟩
   have HE2 : Hid ((bb, be) = jnL rs m (cs.map (·.1))) := HE.out
   have hk1 : ¬ (m : Int) < 0 := by omega
   have hk2 : ¬ (400 : Int) < (m : Int) := by omega
   have HMM : Hid (m ≤ 400) := by unfold Hid; omega
   have HSM : Hid (∀ p ∈ cs.map (·.1), Sm2 p) := by unfold Hid; rw [hm]; exact crR_sm U rs
   have HQV := hide hq.qv
   have hlc : (cs.map (·.1)).length = cs.length := by simp
   clear hb1 h1 h2 hq hm HBE HE hk HM
   go_wp2_with fail
   generalize hls : cs.map (·.1) = ls at *
   rw [← hlc] at HQV hl ⊢
   clear hlc HQ hls
   go_loopw [28] (fun oi wr => ∃ i, i ≤ ls.length ∧ oi = .int .i64 (i : Int) ∧ Below w1.heap.size w1 wr ∧ (bb, be) = jnL rs m (ls.drop i)) (fun oi wr => ls.length - (intOf oi).toNat)
   case atStart => exact ⟨0, Nat.zero_le _, rfl, Below.refl _ _, HE2.out⟩
   case round =>
    obtain ⟨i, hi, rfl, hbw, hje⟩ := hrel
    have HBW := hide hbw
    have HJ := hide hje
    by_cases hin : i < ls.length
    ·have hii : (i : Int) < (ls.length : Int) := by omega
     have hi4 : (i : Int) ≤ 400 := by omega
     obtain ⟨b, o, a1, c1, a2, c2, hva, p0, p1, p2, p3, s1, s2⟩ := (HQV.out.later hbw).get i hin
     subst hva
     have HS1 := hide s1
     have HS2 := hide s2
     have HSZ := hide (HSM.out ls[i] (List.getElem_mem hin))
     have HJ2 : Hid ((bb, be) = jnL rs m (ls[i] :: ls.drop (i + 1))) := by unfold Hid; rw [← List.drop_eq_getElem_cons hin]; exact hje
     clear hbw hje s1 s2
     go_wp2_with fail
     rename_i wr
     refine (sMeet_any rs (rulesE_all HR.out) ls[i].l ls[i].r m _ a1 a2 c1 c2 _ (fun _ => True) (((HU.out.later HB1.out).later HBW.out).mono (fun _ _ _ => trivial) |>.alloc _) ((HS1.out.later ((Below.refl _ _).alloc (Nat.le_refl _) _)).mono fun _ _ _ => trivial) ((HS2.out.later ((Below.refl _ _).alloc (Nat.le_refl _) _)).mono fun _ _ _ => trivial) HSZ.out.1 HSZ.out.2 HMM.out).mono ?_
     rintro e w3 ⟨rfl, hb3⟩
     have HB3 : Hid (Below w1.heap.size w1 w3) := (HBW.out.alloc HBW.out.size _).trans (hb3.mono (by have := HBW.out.size; simp; omega))
     clear hb3 p0 p1 p2 p3
     obtain ⟨mb, me, hme⟩ : ∃ mb me, (mb, me) = meetP rs m ls[i].l ls[i].r := ⟨_, _, rfl⟩
     have HJ3 : Hid ((bb, be) = if mb = true ∧ me = 0 then jnL rs m (ls.drop (i + 1)) else (false, me)) := by
      have h := HJ2.out
      rw [jnL, ← hme] at h
      exact h
     rw [← hme]
     clear hme HJ2
     simp only
     cases mb with
     | false =>
      go_wp2_with fail
      refine bodyPost_ret (v := .tuple #[.bool false, .int .i64 me]) (by simp [results, Tryz.results6, go_sem]) rfl ?_
      have h := HJ3.out
      simp at h
      obtain ⟨rfl, rfl⟩ := h
      exact ⟨rfl, HB1.out.trans (HB3.out.mono HB1.out.size)⟩
     | true =>
      by_cases hm0 : me = 0
      ·subst hm0
       have HJ4 : Hid ((bb, be) = jnL rs m (ls.drop (i + 1))) := by have h := HJ3.out; unfold Hid; simpa using h
       clear HJ3
       go_wp2_with fail
       go_roundw
       case rel => exact ⟨i + 1, by omega, by simp, HB3.out, HJ4.out⟩
       case measure => simp [intOf]; omega
      ·have HJ4 : Hid ((bb, be) = (false, me)) := by have h := HJ3.out; rw [if_neg (by simp [hm0])] at h; exact h
       have hm1 : (me != 0) = true := by simp [hm0]
       clear HJ3
       go_wp2_with fail
       refine bodyPost_ret (v := .tuple #[.bool false, .int .i64 me]) (by simp [results, Tryz.results6, go_sem]) rfl ?_
       have h := HJ4.out
       simp at h
       obtain ⟨rfl, rfl⟩ := h
       exact ⟨rfl, HB1.out.trans (HB3.out.mono HB1.out.size)⟩
    ·have hii : ¬ (i : Int) < (ls.length : Int) := by omega
     have HJ5 : Hid ((bb, be) = (true, 0)) := by
      unfold Hid
      rw [hje, List.drop_eq_nil_of_le (by omega), jnL]
     clear hbw hje
     go_wp2_with fail
     refine bodyPost_ret (v := .tuple #[.bool true, .int .i64 0]) (by simp [results, Tryz.results6, go_sem]) rfl ?_
     have h := HJ5.out
     simp at h
     obtain ⟨rfl, rfl⟩ := h
     exact ⟨rfl, HB1.out.trans (HBW.out.mono HB1.out.size)⟩
  ·have HE : Hid (bb = false ∧ be = 10) := by
    have h := HBE.out
    unfold cjF at h
    rw [if_pos h1, if_pos h2, if_neg hk] at h
    exact ⟨congrArg Prod.fst h, congrArg Prod.snd h⟩
   clear hb1 h1 h2 hq hm HBE
   by_cases hk1 : k < 0
   ·go_wp2_with fail
    refine bodyPost_ret (v := .tuple #[.bool false, .int .i64 10]) (by simp [results, Tryz.results6, go_sem]) rfl ?_
    obtain ⟨rfl, rfl⟩ := HE.out
    exact ⟨rfl, HB1.out⟩
   ·have hk2 : 400 < k := by omega
    go_wp2_with fail
    refine bodyPost_ret (v := .tuple #[.bool false, .int .i64 10]) (by simp [results, Tryz.results6, go_sem]) rfl ?_
    obtain ⟨rfl, rfl⟩ := HE.out
    exact ⟨rfl, HB1.out⟩
end Go.Proofs.YtbnmlkaejdpigaaGreatDoor
