import Derived.Test.YtmkendjmfdaedaaGreatW191
import Derived.Test.YtmkendjmfdaedaaGreatZBRewriteMadeOwn
import Derived.Deep.RegionHeld3
import Derived.Deep.DeepCutAuto
namespace Go.Proofs.YtmkendjmfdaedaaGreat
open Go.RowKit
set_option linter.unusedSimpArgs false
set_option linter.unusedVariables false
set_option maxRecDepth 8000
structure LE (t t2 : Tm) (a a2 : Option Addr) (c c2 : Nat) (w w' : World) : Prop where
 tb : Blk w' w.heap.size #[.string t.name, .slice a t.args.length c] 27
 tb2 : Blk w' (w.heap.size + 1) #[.string t2.name, .slice a2 t2.args.length c2] 27
 bl : Below w.heap.size w w'
theorem LE.below {t t2 : Tm} {a a2 : Option Addr} {c c2 : Nat} {w w1 w2 : World} (h : LE t t2 a a2 c c2 w w1) (hb : Below w1.heap.size w1 w2) : LE t t2 a a2 c c2 w w2 :=
 ⟨h.tb.below hb h.tb.lt, h.tb2.below hb h.tb2.lt, h.bl.trans (hb.mono h.bl.size)⟩
theorem workE_one {rs : List Pr} {t : Tm} {m : Int} : workE rs [t] m = if (if rulesE rs = 0 then mayE t else rulesE rs) = 0 then (if m < 0 ∨ 400 < m then 10 else 0) else (if rulesE rs = 0 then mayE t else rulesE rs) := by
 unfold workE allE
 rw [firstE_one]
theorem workE_two {rs : List Pr} {t t2 : Tm} {m : Int} : workE rs [t, t2] m = if (if rulesE rs = 0 then twoE t t2 else rulesE rs) = 0 then (if m < 0 ∨ 400 < m then 10 else 0) else (if rulesE rs = 0 then twoE t t2 else rulesE rs) := by
 unfold workE allE
 rw [firstE_two]
theorem if_self0 (E : Int) : (if E = 0 then 0 else E) = E := by
 by_cases h : E = 0
 ·rw [if_pos h, h]
 ·rw [if_neg h]
structure FinS (t t2 x y : Tm) (a a2 ax ay : Option Addr) (c c2 cx cy P Q : Nat) (w w' : World) : Prop where
 le : LE t t2 a a2 c c2 w w'
 pb : Blk w' P #[.string x.name, .slice ax x.args.length cx] 27
 qb : Blk w' Q #[.string y.name, .slice ay y.args.length cy] 27
 sx : Sl w' (fun b => b ≠ P ∧ b ≠ Q) ax x.args
 sy : Sl w' (fun b => b ≠ P ∧ b ≠ Q) ay y.args
theorem FinS.below {t t2 x y : Tm} {a a2 ax ay : Option Addr} {c c2 cx cy P Q : Nat} {w w1 w2 : World} (h : FinS t t2 x y a a2 ax ay c c2 cx cy P Q w w1) (hb : Below w1.heap.size w1 w2) : FinS t t2 x y a a2 ax ay c c2 cx cy P Q w w2 :=
 ⟨h.le.below hb, h.pb.below hb h.pb.lt, h.qb.below hb h.qb.lt, h.sx.later hb, h.sy.later hb⟩
def EndS (rs : List Pr) (t t2 : Tm) (m : Int) (a a2 : Option Addr) (c c2 P Q : Nat) (w : World) (p q r s : Value) (w' : World) : Prop :=
 ∃ (x y : Tm) (ax ay : Option Addr) (cx cy n k : Nat) (er er2 : Int), p = .int .i64 er ∧ q = .int .i64 (n : Int) ∧ r = .int .i64 (k : Int) ∧ s = .int .i64 er2 ∧ rEnd rs true t m = (er, x, n) ∧ rEnd rs false t m = (er2, y, k) ∧ FinS t t2 x y a a2 ax ay c c2 cx cy P Q w w'
set_option maxHeartbeats 20000000 in
theorem rewriteEnds_any (rs : List Pr) (t t2 : Tm) (m : Int) (u v v2 : Value) (w : World) (X0 : Nat → Prop) (hu : QV w X0 u rs) (hv : TV w X0 v t) (hv2 : TV w X0 v2 t2) :
  Calls Tryz.prog 8 #[u, v, v2, .int .i64 m] w fun e w' => e = .returned (.bool true) ∧ Below w.heap.size w w' := by
 obtain ⟨ua, uc, rfl, _, _⟩ := id hu
 obtain ⟨a, c, rfl, hs⟩ := hv
 obtain ⟨a2, c2, rfl, hs2⟩ := hv2
 obtain ⟨X, hXw, hu, hs, hs2⟩ : ∃ X : Nat → Prop, (∀ b, X b → b < w.heap.size) ∧ QV w X (.slice ua rs.length uc) rs ∧ Sl w X a t.args ∧ Sl w X a2 t2.args := ⟨fun b => X0 b ∧ b < w.heap.size, fun _ h => h.2, hu.mono fun b h1 h2 => ⟨h1, h2⟩, hs.mono fun b h1 h2 => ⟨h1, h2⟩, hs2.mono fun b h1 h2 => ⟨h1, h2⟩⟩
 have HXW := hide hXw
 have HU := hide hu
 have HS := hide hs
 have HS2 := hide hs2
 clear hs hs2 hu hXw
 have HW : Hid (∃ W, W = (w.alloc (.cells #[.string t.name, .slice a t.args.length c] 27)).alloc (.cells #[.string t2.name, .slice a2 t2.args.length c2] 27) ∧ LE t t2 a a2 c c2 w W) := by
  obtain ⟨h1, h2, h3⟩ := allocs_facts [(.cells #[.string t.name, .slice a t.args.length c] 27 : Obj), (.cells #[.string t2.name, .slice a2 t2.args.length c2] 27 : Obj)] w
  exact ⟨_, rfl, h3 0 _ rfl, h3 1 _ rfl, h1⟩
 go_enter Tryz.func8, Tryz.ntmps8
 go_upto_region 1 with fail
 obtain ⟨w0, hw0, hl0⟩ := HW.out
 rw [← hw0]
 have L0 := hide hl0
 clear hw0 HW hl0
 go_cut [42] (fun o wc => ∃ b : Bool, o = .bool b ∧ LE t t2 a a2 c c2 w wc)
 case first =>
  go_wp2_with fail
  refine (hugePairs_any rs _ w0 X (HU.out.later L0.out.bl)).mono ?_
  rintro e w1 ⟨rfl, hb⟩
  have L1 := hide (L0.out.below hb)
  clear hb L0
  have t0 := L1.out.tb.c0
  have t1 := L1.out.tb.c1
  cases hq : hugeQ rs with
  | true =>
   go_wp2_with fail
   go_meet
   exact ⟨_, rfl, L1.out⟩
  | false =>
   go_wp2_with fail
   refine (huge_any t _ w1 X ⟨a, c, rfl, HS.out.later L1.out.bl⟩).mono ?_
   rintro e w2 ⟨rfl, hb⟩
   have L2 := hide (L1.out.below hb)
   clear hb t0 t1 L1
   have s0 := L2.out.tb2.c0
   have s1 := L2.out.tb2.c1
   cases hd : decide (3000 < sizeL [t]) with
   | true =>
    go_wp2_with fail
    go_meet
    exact ⟨_, rfl, L2.out⟩
   | false =>
    go_wp2_with fail
    refine (huge_any t2 _ w2 X ⟨a2, c2, rfl, HS2.out.later L2.out.bl⟩).mono ?_
    rintro e w3 ⟨rfl, hb⟩
    have L3 := hide (L2.out.below hb)
    clear hb s0 s1 L2
    cases hd2 : decide (3000 < sizeL [t2]) with
    | true =>
     go_wp2_with fail
     go_meet
     exact ⟨_, rfl, L3.out⟩
    | false =>
     by_cases m1 : 30 < m
     ·by_cases m2 : m ≤ 400
      ·go_wp2_with fail
       go_meet
       exact ⟨_, rfl, L3.out⟩
      ·go_wp2_with fail
       go_meet
       exact ⟨_, rfl, L3.out⟩
     ·go_wp2_with fail
      go_meet
      exact ⟨_, rfl, L3.out⟩
 obtain ⟨bb, rfl, hl1⟩ := hcut
 have L1 := hide hl1
 clear hl1 L0
 cases bb with
 | true =>
  go_wp2_with fail
  go_ret
  exact ⟨rfl, L1.out.bl⟩
 | false =>
 go_wp2_with fail
 refine (rulesMay_any rs _ wc X (HU.out.later L1.out.bl)).mono ?_
 rintro e w2 ⟨rfl, hb⟩
 have L2 := hide (L1.out.below hb)
 clear hb L1
 go_upto_if 47 with fail
 go_cut [9, 10] (fun p q wc => p = .int .i64 (if rulesE rs = 0 then mayE t else rulesE rs) ∧ q = .int .i64 (if rulesE rs = 0 then twoE t t2 else rulesE rs) ∧ LE t t2 a a2 c c2 w wc)
 case first =>
  have t0 := L2.out.tb.c0
  have t1 := L2.out.tb.c1
  by_cases h0 : rulesE rs = 0
  ·have H0 := hide h0
   have hb0 : (rulesE rs == 0) = true := by simp [h0]
   clear h0
   go_wp2_with fail
   refine (termMay_any t _ w2 X ⟨a, c, rfl, HS.out.later L2.out.bl⟩).mono ?_
   rintro e w3 ⟨rfl, hb⟩
   have L3 := hide (L2.out.below hb)
   clear hb t0 t1 L2
   have t0 := L3.out.tb.c0
   have t1 := L3.out.tb.c1
   have s0 := L3.out.tb2.c0
   have s1 := L3.out.tb2.c1
   go_wp2_with fail
   refine (twoMay_any t t2 _ _ w3 X ⟨a, c, rfl, HS.out.later L3.out.bl⟩ ⟨a2, c2, rfl, HS2.out.later L3.out.bl⟩).mono ?_
   rintro e w4 ⟨rfl, hb⟩
   have L4 := hide (L3.out.below hb)
   clear hb
   go_wp2_with fail
   go_meet
   exact ⟨by rw [if_pos H0.out], by rw [if_pos H0.out], L4.out⟩
  ·have H0 := hide h0
   have hb0 : (rulesE rs == 0) = false := by simpa using h0
   clear t0 t1 h0
   go_wp2_with fail
   go_meet
   exact ⟨by rw [if_neg H0.out], by rw [if_neg H0.out], L2.out⟩
 obtain ⟨hp, hq, hl3⟩ := hcut
 obtain ⟨E, hE⟩ : ∃ E : Int, E = if rulesE rs = 0 then mayE t else rulesE rs := ⟨_, rfl⟩
 obtain ⟨F, hF⟩ : ∃ F : Int, F = if rulesE rs = 0 then twoE t t2 else rulesE rs := ⟨_, rfl⟩
 rw [← hE] at hp
 rw [← hF] at hq
 subst hp
 subst hq
 have HE := hide hE
 have HF := hide hF
 have L3 := hide hl3
 clear hE hF hl3 L2
 go_upto_region 8 with fail
 go_cut [69] (fun o wc => ∃ b : Bool, o = .bool b ∧ LE t t2 a a2 c c2 w wc)
 case first =>
  have t0 := L3.out.tb.c0
  have t1 := L3.out.tb.c1
  by_cases f0 : F = 0
  ·have hb0 : (F == 0) = true := by simp [f0]
   clear f0
   go_wp2_with fail
   refine (size_any t _ 40 wc X ⟨a, c, rfl, HS.out.later L3.out.bl⟩ (by decide) (by decide)).mono ?_
   rintro e w4 ⟨rfl, hb⟩
   have L4 := hide (L3.out.below hb)
   clear hb t0 t1
   have s0 := L4.out.tb2.c0
   have s1 := L4.out.tb2.c1
   by_cases z1 : 40 < min (sizeL [t] : Int) (40 + 1)
   ·generalize min (sizeL [t] : Int) (40 + 1) = k1 at *
    go_wp2_with fail
    go_meet
    exact ⟨_, rfl, L4.out⟩
   ·generalize min (sizeL [t] : Int) (40 + 1) = k1 at *
    go_wp2_with fail
    refine (size_any t2 _ 40 w4 X ⟨a2, c2, rfl, HS2.out.later L4.out.bl⟩ (by decide) (by decide)).mono ?_
    rintro e w5 ⟨rfl, hb⟩
    have L5 := hide (L4.out.below hb)
    clear hb s0 s1
    by_cases z2 : 40 < min (sizeL [t2] : Int) (40 + 1)
    ·generalize min (sizeL [t2] : Int) (40 + 1) = k2 at *
     go_wp2_with fail
     go_meet
     exact ⟨_, rfl, L5.out⟩
    ·generalize min (sizeL [t2] : Int) (40 + 1) = k2 at *
     go_wp2_with fail
     go_meet
     exact ⟨_, rfl, L5.out⟩
  ·have hb0 : (F == 0) = false := by simpa using f0
   go_wp2_with fail
   go_meet
   exact ⟨_, rfl, L3.out⟩
 obtain ⟨bb, rfl, hl4⟩ := hcut
 have L4 := hide hl4
 clear hl4 L3
 cases bb with
 | true =>
  go_wp2_with fail
  go_ret
  exact ⟨rfl, L4.out.bl⟩
 | false =>
 go_upto_region 10 with fail
 go_cut [75] (fun o wc => o = .bool (decide (m < 0 ∨ 400 < m)) ∧ LE t t2 a a2 c c2 w wc)
 case first =>
  by_cases m1 : m < 0
  ·have e1 : decide (m < 0 ∨ 400 < m) = true := by simp [m1]
   have HE1 := hide e1
   clear e1
   go_wp2_with fail
   go_meet
   exact ⟨by rw [HE1.out], L4.out⟩
  ·by_cases m2 : 400 < m
   ·have e1 : decide (m < 0 ∨ 400 < m) = true := by simp [m2]
    have HE1 := hide e1
    clear e1
    go_wp2_with fail
    go_meet
    exact ⟨by rw [HE1.out], L4.out⟩
   ·have e1 : decide (m < 0 ∨ 400 < m) = false := by simp; omega
    have HE1 := hide e1
    clear e1
    go_wp2_with fail
    go_meet
    exact ⟨by rw [HE1.out], L4.out⟩
 obtain ⟨rfl, hl5⟩ := hcut
 have L5 := hide hl5
 clear hl5 L4
 go_upto_if 75 with fail
 go_cut [9, 10] (fun p q wc => p = .int .i64 (workE rs [t] m) ∧ q = .int .i64 (workE rs [t, t2] m) ∧ LE t t2 a a2 c c2 w wc)
 case first =>
  have HW1 : Hid (workE rs [t] m = if E = 0 then (if m < 0 ∨ 400 < m then 10 else 0) else E) := by unfold Hid; rw [workE_one, ← HE.out]
  have HW2 : Hid (workE rs [t, t2] m = if F = 0 then (if m < 0 ∨ 400 < m then 10 else 0) else F) := by unfold Hid; rw [workE_two, ← HF.out]
  cases hbm : decide (m < 0 ∨ 400 < m) with
  | false =>
   have hm : ¬ (m < 0 ∨ 400 < m) := by simpa using hbm
   have HM1 : Hid (workE rs [t] m = E) := by unfold Hid; rw [HW1.out, if_neg hm]; exact if_self0 _
   have HM2 : Hid (workE rs [t, t2] m = F) := by unfold Hid; rw [HW2.out, if_neg hm]; exact if_self0 _
   clear hbm hm
   go_wp2_with fail
   go_meet
   exact ⟨by rw [HM1.out], by rw [HM2.out], L5.out⟩
  | true =>
   have hm : (m < 0 ∨ 400 < m) := by simpa using hbm
   rw [if_pos hm] at HW1 HW2
   clear hbm hm
   by_cases e0 : E = 0
   ·have HM1 : Hid (workE rs [t] m = 10) := by unfold Hid; rw [HW1.out, if_pos e0]
    have hb1 : (E == 0) = true := by simp [e0]
    by_cases f0 : F = 0
    ·have HM2 : Hid (workE rs [t, t2] m = 10) := by unfold Hid; rw [HW2.out, if_pos f0]
     have hb2 : (F == 0) = true := by simp [f0]
     clear e0 f0
     go_wp2_with fail
     go_meet
     exact ⟨by rw [HM1.out], by rw [HM2.out], L5.out⟩
    ·have HM2 : Hid (workE rs [t, t2] m = F) := by unfold Hid; rw [HW2.out, if_neg f0]
     have hb2 : (F == 0) = false := by simpa using f0
     clear e0 f0
     go_wp2_with fail
     go_meet
     exact ⟨by rw [HM1.out], by rw [HM2.out], L5.out⟩
   ·have HM1 : Hid (workE rs [t] m = E) := by unfold Hid; rw [HW1.out, if_neg e0]
    have hb1 : (E == 0) = false := by simpa using e0
    by_cases f0 : F = 0
    ·have HM2 : Hid (workE rs [t, t2] m = 10) := by unfold Hid; rw [HW2.out, if_pos f0]
     have hb2 : (F == 0) = true := by simp [f0]
     clear e0 f0
     go_wp2_with fail
     go_meet
     exact ⟨by rw [HM1.out], by rw [HM2.out], L5.out⟩
    ·have HM2 : Hid (workE rs [t, t2] m = F) := by unfold Hid; rw [HW2.out, if_neg f0]
     have hb2 : (F == 0) = false := by simpa using f0
     clear e0 f0
     go_wp2_with fail
     go_meet
     exact ⟨by rw [HM1.out], by rw [HM2.out], L5.out⟩
 obtain ⟨hp, hq, hl6⟩ := hcut
 subst hp
 subst hq
 have L6 := hide hl6
 clear hl6 L5 HE HF
 go_upto_if 84 with fail
 have HWA : Hid (∃ W, W = (wc.alloc (.cells #[.string ⟨#[]⟩, .slice none 0 0] 27)).alloc (.cells #[.string ⟨#[]⟩, .slice none 0 0] 27) ∧ Below wc.heap.size wc W ∧ W.heap.size = wc.heap.size + 2 ∧ Blk W wc.heap.size #[.string ⟨#[]⟩, .slice none 0 0] 27 ∧ Blk W (wc.heap.size + 1) #[.string ⟨#[]⟩, .slice none 0 0] 27) := by
  obtain ⟨h1, h2, h3⟩ := allocs_facts [(.cells #[.string ⟨#[]⟩, .slice none 0 0] 27 : Obj), (.cells #[.string ⟨#[]⟩, .slice none 0 0] 27 : Obj)] wc
  exact ⟨_, rfl, h1, h2, h3 0 _ rfl, h3 1 _ rfl⟩
 obtain ⟨wa, hwa, hba, hza, hpa, hqa⟩ := HWA.out
 rw [← hwa]
 have LA := hide (L6.out.below hba)
 have PA := hide hpa
 have QA := hide hqa
 have hPw : w.heap.size + 2 ≤ wc.heap.size := L6.out.tb2.lt
 obtain ⟨P, hP⟩ : ∃ P, P = wc.heap.size := ⟨_, rfl⟩
 rw [← hP] at PA QA hPw hza
 have hPa : P + 2 ≤ wa.heap.size := by omega
 rw [← hP]
 clear hwa hba hza hpa hqa HWA L6 hP
 go_cut [9, 13, 14, 15] (fun p q r s wx => EndS rs t t2 m a a2 c c2 P (P + 1) w p q r s wx)
 case first =>
  by_cases h0 : workE rs [t] m = 0
  ·obtain ⟨k1, k2, k3, k4⟩ := work_parts h0
   have hmt : mayE t = 0 := by rw [firstE_one] at k2; exact k2
   have hzt := may_le hmt
   have HR1 : Hid (rEnd rs true t m = endP rs true m.toNat t) := by unfold Hid rEnd; rw [if_pos h0]
   have HR2 : Hid (rEnd rs false t m = endP rs false m.toNat t) := by unfold Hid rEnd; rw [if_pos h0]
   have HRZ : Hid (∀ p ∈ rs, sizeL [p.l] ≤ 1000000 ∧ sizeL [p.r] ≤ 1000000) := fun p hp => ⟨by have := may_le (ruleE_parts (rulesE_all k1 p hp)).1; omega, by have := may_le (ruleE_parts (rulesE_all k1 p hp)).2.1; omega⟩
   have h40 := rulesE_len k1
   obtain ⟨n, hn⟩ : ∃ n : Nat, m = (n : Int) := ⟨m.toNat, by omega⟩
   have e1 : m.toNat = n := by omega
   rw [e1] at HR1 HR2
   have hb0 : (workE rs [t] m == 0) = true := by simp [h0]
   have hn4 : n ≤ 400 := by omega
   subst hn
   clear h0 k1 k2 k3 k4 hmt e1
   have t0 := LA.out.tb.c0
   have t1 := LA.out.tb.c1
   generalize workE rs [t] (n : Int) = W1 at *
   go_wp2_with fail
   refine (endOf_any rs t true n _ a c wa X (HU.out.later LA.out.bl) (HS.out.later LA.out.bl) h40 HRZ.out (by omega) hn4).mono ?_
   rintro e w7 ⟨hb7, x, ax, cx, i, er, rfl, he7, hsx⟩
   have HE7 := hide (HR1.out.trans he7)
   have L7 := hide (LA.out.below hb7)
   have P7 := hide (PA.out.below hb7 PA.out.lt)
   have Q7 := hide (QA.out.below hb7 QA.out.lt)
   have SX7 : Hid (Sl w7 (fun b => b ≠ P ∧ b ≠ P + 1) ax x.args) := hsx.mono fun b hb _ => by
    rcases hb with h | h
    ·have := HXW.out b h.1; omega
    ·omega
   have hz7 := hb7.size
   clear hb7 he7 hsx t0 t1
   have p0 := P7.out.c0
   have p1 := P7.out.c1
   have pf := P7.out.frozen
   have pl := P7.out.lt
   have PF : Hid (Blk ((w7.setCell ⟨P, 0, none⟩ (.string x.name)).setCell ⟨P, 1, none⟩ (.slice ax x.args.length cx)) P #[.string x.name, .slice ax x.args.length cx] 27) := (P7.out.set 0 _).set 1 _
   have QF : Hid (Blk ((w7.setCell ⟨P, 0, none⟩ (.string x.name)).setCell ⟨P, 1, none⟩ (.slice ax x.args.length cx)) (P + 1) #[.string ⟨#[]⟩, .slice none 0 0] 27) := (Q7.out.setOther _ _ (by omega)).setOther _ _ (by omega)
   have LF : Hid (LE t t2 a a2 c c2 w ((w7.setCell ⟨P, 0, none⟩ (.string x.name)).setCell ⟨P, 1, none⟩ (.slice ax x.args.length cx))) := ⟨(L7.out.tb.setOther _ _ (by omega)).setOther _ _ (by omega), (L7.out.tb2.setOther _ _ (by omega)).setOther _ _ (by omega), (L7.out.bl.setCell (by simp; omega) _).setCell (by simp; omega) _⟩
   have SF : Hid (Sl ((w7.setCell ⟨P, 0, none⟩ (.string x.name)).setCell ⟨P, 1, none⟩ (.slice ax x.args.length cx)) (fun b => b ≠ P ∧ b ≠ P + 1) ax x.args) := SX7.out.kept fun b hb => by rw [Below.heap_setCell _ _ _ _ (by simpa using hb.1), Below.heap_setCell _ _ _ _ (by simpa using hb.1)]
   have ZF : Hid (((w7.setCell ⟨P, 0, none⟩ (.string x.name)).setCell ⟨P, 1, none⟩ (.slice ax x.args.length cx)).heap.size = w7.heap.size) := by simp [Hid, World.setCell]
   have t0 : ((w7.setCell ⟨P, 0, none⟩ (.string x.name)).setCell ⟨P, 1, none⟩ (.slice ax x.args.length cx)).cell? ⟨w.heap.size, 0, none⟩ = some (.string t.name) := LF.out.tb.cell 0
   have t1 : ((w7.setCell ⟨P, 0, none⟩ (.string x.name)).setCell ⟨P, 1, none⟩ (.slice ax x.args.length cx)).cell? ⟨w.heap.size, 1, none⟩ = some (.slice a t.args.length c) := LF.out.tb.cell 1
   have s70 := L7.out.tb.c0
   have s71 := L7.out.tb.c1
   go_wp2_with fail
   clear t0 t1 s70 s71 p0 p1 pf pl
   generalize ((w7.setCell ⟨P, 0, none⟩ (.string x.name)).setCell ⟨P, 1, none⟩ (.slice ax x.args.length cx)) = w8 at *
   refine (endOf_any rs t false n _ a c w8 X (HU.out.later LF.out.bl) (HS.out.later LF.out.bl) h40 HRZ.out (by omega) hn4).mono ?_
   rintro e w9 ⟨hb9, y, ay, cy, i2, er2, rfl, he9, hsy⟩
   have HE9 := hide (HR2.out.trans he9)
   have L9 := hide (LF.out.below hb9)
   have P9 := hide (PF.out.below hb9 PF.out.lt)
   have Q9 := hide (QF.out.below hb9 QF.out.lt)
   have SX9 := hide (SF.out.later hb9)
   have hz8 := ZF.out
   have SY9 : Hid (Sl w9 (fun b => b ≠ P ∧ b ≠ P + 1) ay y.args) := hsy.mono fun b hb _ => by
    rcases hb with h | h
    ·have := HXW.out b h.1; omega
    ·omega
   clear hb9 he9 hsy ZF
   have p0 := Q9.out.c0
   have p1 := Q9.out.c1
   have pf := Q9.out.frozen
   have pl := Q9.out.lt
   go_wp2_with fail
   go_meet
   refine ⟨x, y, ax, ay, cx, cy, i, i2, er, er2, rfl, rfl, rfl, rfl, HE7.out, HE9.out, ⟨⟨(L9.out.tb.setOther _ _ (by omega)).setOther _ _ (by omega), (L9.out.tb2.setOther _ _ (by omega)).setOther _ _ (by omega), (L9.out.bl.setCell (by simp; omega) _).setCell (by simp; omega) _⟩, (P9.out.setOther _ _ (by omega)).setOther _ _ (by omega), (Q9.out.set 0 _).set 1 _, SX9.out.kept fun b hb => ?_, SY9.out.kept fun b hb => ?_⟩⟩
   ·rw [Below.heap_setCell _ _ _ _ (by simpa using hb.2), Below.heap_setCell _ _ _ _ (by simpa using hb.2)]
   ·rw [Below.heap_setCell _ _ _ _ (by simpa using hb.2), Below.heap_setCell _ _ _ _ (by simpa using hb.2)]
  ·have HR1 : Hid (rEnd rs true t m = (workE rs [t] m, ⟨⟨#[]⟩, []⟩, 0)) := by unfold Hid rEnd; rw [if_neg h0]
   have HR2 : Hid (rEnd rs false t m = (workE rs [t] m, ⟨⟨#[]⟩, []⟩, 0)) := by unfold Hid rEnd; rw [if_neg h0]
   have hb0 : (workE rs [t] m == 0) = false := by simpa using h0
   generalize workE rs [t] m = W1 at *
   clear h0
   go_wp2_with fail
   go_meet
   exact ⟨⟨⟨#[]⟩, []⟩, ⟨⟨#[]⟩, []⟩, none, none, 0, 0, 0, 0, W1, W1, rfl, rfl, rfl, rfl, HR1.out, HR2.out, ⟨LA.out, PA.out, QA.out, ⟨by simp, Or.inl rfl⟩, ⟨by simp, Or.inl rfl⟩⟩⟩
 obtain ⟨x, y, ax, ay, cx, cy, n, k, er, er2, rfl, rfl, rfl, rfl, he1, he2, hfs⟩ := hcut
 have HE1 := hide he1
 have HE2 := hide he2
 have FS := hide hfs
 clear he1 he2 hfs LA PA QA
 go_upto_if 102 with fail
 go_cut [10, 16] (fun p q wx => ∃ (q1 : Bool) (q2 : Int), rMeet rs t t2 m = (q1, q2) ∧ p = .int .i64 q2 ∧ q = .bool q1 ∧ FinS t t2 x y a a2 ax ay c c2 cx cy P (P + 1) w wx)
 case first =>
  by_cases h0 : workE rs [t, t2] m = 0
  ·obtain ⟨k1, k2, k3, k4⟩ := work_parts h0
   rw [firstE_two] at k2
   have hza := may_le (two_zero k2).1
   have hzb := may_le (two_zero k2).2
   have HRZ : Hid (∀ p ∈ rs, sizeL [p.l] ≤ 1000000 ∧ sizeL [p.r] ≤ 1000000) := fun p hp => ⟨by have := may_le (ruleE_parts (rulesE_all k1 p hp)).1; omega, by have := may_le (ruleE_parts (rulesE_all k1 p hp)).2.1; omega⟩
   have h40 := rulesE_len k1
   obtain ⟨n', hn⟩ : ∃ n' : Nat, m = (n' : Int) := ⟨m.toNat, by omega⟩
   have HRE : Hid (rMeet rs t t2 m = meetP rs n' t t2) := by unfold Hid rMeet; rw [if_pos h0, hn]; rfl
   have hb0 : (workE rs [t, t2] m == 0) = true := by simp [h0]
   have hn4 : n' ≤ 400 := by omega
   subst hn
   clear h0 k1 k2 k3 k4
   have t0 := FS.out.le.tb.c0
   have t1 := FS.out.le.tb.c1
   have s0 := FS.out.le.tb2.c0
   have s1 := FS.out.le.tb2.c1
   generalize workE rs [t, t2] (n' : Int) = W1 at *
   go_wp2_with fail
   refine (meetOf_any rs t t2 n' _ a a2 c c2 wc X (HU.out.later FS.out.le.bl) (HS.out.later FS.out.le.bl) (HS2.out.later FS.out.le.bl) h40 HRZ.out (by omega) (by omega) hn4).mono ?_
   rintro e w7 ⟨rfl, hb7⟩
   have F7 := hide (FS.out.below hb7)
   clear hb7 t0 t1 s0 s1 hza hzb
   obtain ⟨q1, q2, hq⟩ : ∃ q1 q2, meetP rs n' t t2 = (q1, q2) := ⟨_, _, rfl⟩
   rw [hq]
   have HQ := hide hq
   clear hq
   go_wp2_with fail
   go_meet
   exact ⟨q1, q2, HRE.out.trans HQ.out, rfl, rfl, F7.out⟩
  ·have HRE : Hid (rMeet rs t t2 m = (false, workE rs [t, t2] m)) := by unfold Hid rMeet; rw [if_neg h0]
   have hb0 : (workE rs [t, t2] m == 0) = false := by simpa using h0
   generalize workE rs [t, t2] m = W1 at *
   clear h0
   go_wp2_with fail
   go_meet
   exact ⟨false, W1, HRE.out, rfl, rfl, FS.out⟩
 obtain ⟨q1, q2, hq, rfl, rfl, hfs⟩ := hcut
 have HQ := hide hq
 have FM := hide hfs
 clear hq hfs FS
 have t0 := FM.out.le.tb.c0
 have t1 := FM.out.le.tb.c1
 go_wp2_with fail
 refine (rInner_any rs t m _ a c wc X (HU.out.later FM.out.le.bl) (HS.out.later FM.out.le.bl)).mono ?_
 rintro e w1 ⟨hb1, x', ax', cx', k', er', rfl, he', hsx'⟩
 have hpe := HE1.out.symm.trans he'
 obtain ⟨rfl, rfl, rfl⟩ : er' = er ∧ x' = x ∧ k' = n := by cases hpe; exact ⟨rfl, rfl, rfl⟩
 have F1 := hide (FM.out.below hb1)
 have SX1 := hide hsx'
 clear hpe he' hb1 hsx' t0 t1 FM
 have t0 : ∀ o, (w1.alloc o).cell? ⟨w.heap.size, 0, none⟩ = some (.string t.name) := fun o => (F1.out.le.tb.alloc o).cell 0
 have t1 : ∀ o, (w1.alloc o).cell? ⟨w.heap.size, 1, none⟩ = some (.slice a t.args.length c) := fun o => (F1.out.le.tb.alloc o).cell 1
 have BA : Hid (Below w1.heap.size w1 (w1.alloc (.cells #[.string x'.name, .slice ax' x'.args.length cx'] 27))) := (Below.refl _ _).alloc (Nat.le_refl _) _
 have KX : Hid (Blk (w1.alloc (.cells #[.string x'.name, .slice ax' x'.args.length cx'] 27)) w1.heap.size #[.string x'.name, .slice ax' x'.args.length cx'] 27) := Blk.new w1 _ _
 go_wp2_with fail
 clear t0 t1
 have F2 := hide (F1.out.below BA.out)
 have SX2 := hide (SX1.out.later BA.out)
 generalize (w1.alloc (.cells #[.string x'.name, .slice ax' x'.args.length cx'] 27)) = w2 at *
 clear BA
 obtain ⟨B1, hB1⟩ : ∃ B, B = w1.heap.size := ⟨_, rfl⟩
 rw [← hB1] at KX
 rw [← hB1]
 clear hB1 F1 SX1
 refine (rOuter_any rs t m _ a c w2 X (HU.out.later F2.out.le.bl) (HS.out.later F2.out.le.bl)).mono ?_
 rintro e w3 ⟨hb3, y', ay', cy', k2', er2', rfl, he', hsy'⟩
 have hpe := HE2.out.symm.trans he'
 obtain ⟨rfl, rfl, rfl⟩ : er2' = er2 ∧ y' = y ∧ k2' = k := by cases hpe; exact ⟨rfl, rfl, rfl⟩
 have F3 := hide (F2.out.below hb3)
 have SX3 := hide (SX2.out.later hb3)
 have K3 := hide (KX.out.below hb3 KX.out.lt)
 have SY3 := hide hsy'
 clear hpe he' hb3 hsy' F2 SX2 KX
 have t0 : ∀ o, (w3.alloc o).cell? ⟨w.heap.size, 0, none⟩ = some (.string t.name) := fun o => (F3.out.le.tb.alloc o).cell 0
 have t1 : ∀ o, (w3.alloc o).cell? ⟨w.heap.size, 1, none⟩ = some (.slice a t.args.length c) := fun o => (F3.out.le.tb.alloc o).cell 1
 have s0 : ∀ o, (w3.alloc o).cell? ⟨w.heap.size + 1, 0, none⟩ = some (.string t2.name) := fun o => (F3.out.le.tb2.alloc o).cell 0
 have s1 : ∀ o, (w3.alloc o).cell? ⟨w.heap.size + 1, 1, none⟩ = some (.slice a2 t2.args.length c2) := fun o => (F3.out.le.tb2.alloc o).cell 1
 have BA : Hid (Below w3.heap.size w3 (w3.alloc (.cells #[.string y'.name, .slice ay' y'.args.length cy'] 27))) := (Below.refl _ _).alloc (Nat.le_refl _) _
 have KY : Hid (Blk (w3.alloc (.cells #[.string y'.name, .slice ay' y'.args.length cy'] 27)) w3.heap.size #[.string y'.name, .slice ay' y'.args.length cy'] 27) := Blk.new w3 _ _
 go_wp2_with fail
 clear t0 t1 s0 s1
 have F4 := hide (F3.out.below BA.out)
 have SX4 := hide (SX3.out.later BA.out)
 have SY4 := hide (SY3.out.later BA.out)
 have K4 := hide (K3.out.below BA.out K3.out.lt)
 generalize (w3.alloc (.cells #[.string y'.name, .slice ay' y'.args.length cy'] 27)) = w4 at *
 clear BA
 obtain ⟨B2, hB2⟩ : ∃ B, B = w3.heap.size := ⟨_, rfl⟩
 rw [← hB2] at KY
 rw [← hB2]
 clear hB2 F3 SX3 SY3 K3
 refine (rMeet_any rs t t2 m _ a a2 c c2 w4 X (HU.out.later F4.out.le.bl) (HS.out.later F4.out.le.bl) (HS2.out.later F4.out.le.bl)).mono ?_
 rintro e w5 ⟨he', hb5⟩
 rw [HQ.out] at he'
 subst he'
 have F5 := hide (F4.out.below hb5)
 have SX5 := hide (SX4.out.later hb5)
 have SY5 := hide (SY4.out.later hb5)
 have K5 := hide (K4.out.below hb5 K4.out.lt)
 have KY5 := hide (KY.out.below hb5 KY.out.lt)
 clear hb5 F4 SX4 SY4 K4 KY
 have p0 := K5.out.c0
 have p1 := K5.out.c1
 have r0 := F5.out.pb.c0
 have r1 : w5.cell? ⟨P, 1, none⟩ = some (.slice ax x'.args.length cx) := F5.out.pb.cell 1
 go_wp2_with fail
 refine (term2R_any er' x' (rEnd_zero HE1.out) ax' ax cx' cx w5 _ _ SX5.out F5.out.sx).mono ?_
 rintro e w6 ⟨rfl, hb6⟩
 have F6 := hide (F5.out.below hb6)
 have SY6 := hide (SY5.out.later hb6)
 have KY6 := hide (KY5.out.below hb6 KY5.out.lt)
 clear hb6 p0 p1 r0 r1 F5 SX5 SY5 K5 KY5
 have p0 := KY6.out.c0
 have p1 := KY6.out.c1
 have r0 := F6.out.qb.c0
 have r1 : w6.cell? ⟨P + 1, 1, none⟩ = some (.slice ay y'.args.length cy) := F6.out.qb.cell 1
 go_wp2_with fail
 refine (term2R_any er2' y' (rEnd_zero HE2.out) ay' ay cy' cy w6 _ _ SY6.out F6.out.sy).mono ?_
 rintro e w7 ⟨rfl, hb7⟩
 have F7 := hide (F6.out.below hb7)
 clear hb7 p0 p1 r0 r1
 go_wp2_with fail
 go_ret
 exact ⟨by simp, F7.out.le.bl⟩
end Go.Proofs.YtmkendjmfdaedaaGreat
