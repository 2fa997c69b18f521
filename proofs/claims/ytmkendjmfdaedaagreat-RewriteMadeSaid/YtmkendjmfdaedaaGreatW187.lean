import Derived.Test.YtmkendjmfdaedaaGreatW186
namespace Go.Proofs.YtmkendjmfdaedaaGreat
open Go.RowKit Go.Shelf
set_option linter.unusedSimpArgs false
set_option linter.unusedVariables false
set_option maxRecDepth 8000
def workE (rs : List Pr) (l : List Tm) (m : Int) : Int := if allE rs l = 0 then (if m < 0 ∨ 400 < m then 10 else 0) else allE rs l
set_option maxHeartbeats 1000000 in
theorem checkWork_any (rs : List Pr) (l : List Tm) (m : Int) (u : Value) (a : Option Addr) (c : Nat) (w : World) (X : Nat → Prop) (hu : QV w X u rs) (hs : Sl w X a l) :
  Calls Tryz.prog 48 #[u, .int .i64 m, .slice a l.length c] w fun e w' => e = .returned (.int .i64 (workE rs l m)) ∧ Below w.heap.size w w' := by
 have HU := hide hu
 have HS := hide hs
 obtain ⟨ua, uc, rfl, _, _⟩ := hu
 clear hs
 go_enter Tryz.func48, Tryz.ntmps48
 go_wp2_with fail
 refine (checkAll_any rs l _ a c w X HU.out HS.out).mono ?_
 rintro e w1 ⟨rfl, hb1⟩
 have HB1 := hide hb1
 clear hb1
 by_cases h0 : allE rs l = 0
 ·have HP : Hid (workE rs l m = if m < 0 ∨ 400 < m then 10 else 0) := by unfold Hid workE; rw [if_pos h0]
  rw [h0]
  clear h0
  by_cases h1 : m < 0
  ·have HQ : Hid (10 = workE rs l m) := by unfold Hid; rw [HP.out, if_pos (Or.inl h1)]
   go_wp2_with fail
   go_ret
   exact ⟨ret_int HQ.out, HB1.out⟩
  ·by_cases h2 : 400 < m
   ·have HQ : Hid (10 = workE rs l m) := by unfold Hid; rw [HP.out, if_pos (Or.inr h2)]
    go_wp2_with fail
    go_ret
    exact ⟨ret_int HQ.out, HB1.out⟩
   ·have HQ : Hid (0 = workE rs l m) := by unfold Hid; rw [HP.out, if_neg (by omega)]
    go_wp2_with fail
    go_ret
    exact ⟨ret_int HQ.out, HB1.out⟩
 ·have HQ : Hid (allE rs l = workE rs l m) := by unfold Hid workE; rw [if_neg h0]
  go_wp2_with fail
  go_ret
  exact ⟨ret_int HQ.out, HB1.out⟩
def rEnd (rs : List Pr) (inner : Bool) (t : Tm) (m : Int) : Int × Tm × Nat := if workE rs [t] m = 0 then endP rs inner m.toNat t else (workE rs [t] m, ⟨⟨#[]⟩, []⟩, 0)
theorem work_parts {rs : List Pr} {l : List Tm} {m : Int} (h : workE rs l m = 0) : rulesE rs = 0 ∧ firstE l = 0 ∧ 0 ≤ m ∧ m ≤ 400 := by
 unfold workE at h
 split at h
 ·rename_i h0
  split at h
  ·cases h
  ·rename_i h1
   unfold allE at h0
   split at h0
   ·rename_i h2; exact ⟨h2, h0, by omega, by omega⟩
   ·rename_i h2; exact absurd h0 h2
 ·rename_i h0; exact absurd h h0
set_option maxHeartbeats 2000000 in
theorem rInner_any (rs : List Pr) (t : Tm) (m : Int) (u : Value) (aa : Option Addr) (ca : Nat) (w : World) (X : Nat → Prop) (hu : QV w X u rs) (hs : Sl w X aa t.args) :
  Calls Tryz.prog 24 #[u, .agg #[.string t.name, .slice aa t.args.length ca], .int .i64 m] w fun e w' => EdPost (rEnd rs true t m) w e w' := by
 have HU := hide hu
 have HS := hide hs
 obtain ⟨ua, uc, rfl, _, _⟩ := hu
 clear hs
 have HAF := hide (allocs_facts [(.cells #[.string t.name, .slice aa t.args.length ca] 27 : Obj), (.cells #[.string ⟨#[]⟩, .slice none 0 0] 27 : Obj), (.cells #[.string t.name, .slice aa t.args.length ca] 27 : Obj)] w)
 have HW : Hid (∃ W, W = ((w.alloc (.cells #[.string t.name, .slice aa t.args.length ca] 27)).alloc (.cells #[.string ⟨#[]⟩, .slice none 0 0] 27)).alloc (.cells #[.string t.name, .slice aa t.args.length ca] 27) ∧ Below w.heap.size w W ∧ Blk W w.heap.size #[.string t.name, .slice aa t.args.length ca] 27 ∧ Blk W (w.heap.size + 1) #[.string ⟨#[]⟩, .slice none 0 0] 27 ∧ Blk W (w.heap.size + 1 + 1) #[.string t.name, .slice aa t.args.length ca] 27) := ⟨_, rfl, HAF.out.1, HAF.out.2.2 0 _ rfl, HAF.out.2.2 1 _ rfl, HAF.out.2.2 2 _ rfl⟩
 go_enter Tryz.func24, Tryz.ntmps24
 go_wp2_with fail
 obtain ⟨w0, hw0, hb0, ht0, hr0, ht2⟩ := HW.out
 rw [← hw0]
 have HB0 := hide hb0
 have HT0 := hide ht0
 have HR0 := hide hr0
 clear hw0 HW HAF
 refine (checkWork_any rs [t] m _ _ 1 w0 (fun _ => True) ((HU.out.later hb0).mono fun _ _ _ => trivial) (sl_oneR ht2 ((HS.out.later hb0).mono fun _ _ _ => trivial))).mono ?_
 rintro e w1 ⟨rfl, hb1⟩
 have HB1 := hide (HB0.out.trans (hb1.mono HB0.out.size))
 have T1 := hide (HT0.out.below hb1 HT0.out.lt)
 have R1 := hide (HR0.out.below hb1 HR0.out.lt)
 clear hb0 ht0 hr0 ht2 hb1
 by_cases h0 : workE rs [t] m = 0
 ·obtain ⟨k1, k2, k3, k4⟩ := work_parts h0
  have hmt : mayE t = 0 := by rw [firstE_one] at k2; exact k2
  have hzt := may_le hmt
  obtain ⟨n, hn⟩ : ∃ n : Nat, m = (n : Int) := ⟨m.toNat, by omega⟩
  have HRE : Hid (rEnd rs true t m = endP rs true n t) := by unfold Hid rEnd; rw [if_pos h0, hn]; rfl
  have HRU := hide (rulesE_all k1)
  rw [h0]
  subst hn
  have t0 := T1.out.c0
  have t1 := T1.out.c1
  clear h0 k1 k2 hmt
  go_wp2_with fail
  refine (sInner_any rs HRU.out t n _ aa ca w1 X (HU.out.later HB1.out) (HS.out.later HB1.out) (by omega) (by omega)).mono ?_
  rintro e w2 ⟨hb2, x, ax, cx, k, er, rfl, he2, hsx⟩
  have HB2 := hide (HB1.out.trans (hb2.mono HB1.out.size))
  have R2 := hide (R1.out.below hb2 R1.out.lt)
  have HSX := hide hsx
  have HE2 := hide he2
  have hz2 := hb2.size
  clear hb2 hsx he2 t0 t1
  have r0 := R2.out.c0
  have r1 := R2.out.c1
  have rf := R2.out.frozen
  go_wp2_with fail
  refine bodyPost_ret (v := .tuple #[.agg #[.string x.name, .slice ax x.args.length cx], .int .i64 (k : Int), .int .i64 er]) (by simp [results, Tryz.results24, go_sem, World.cell?_setCell_same, World.cell?_setCell_other, r0, r1]) rfl ?_
  have hl1 := R1.out.lt
  refine ⟨(HB2.out.setCell (by simp) _).setCell (by simp) _, x, ax, cx, k, er, rfl, HRE.out.trans HE2.out, (HSX.out.kept fun b hb => ?_).mono fun b hb _ => by omega⟩
  rw [Below.heap_setCell _ _ _ _ (by simp; omega), Below.heap_setCell _ _ _ _ (by simp; omega)]
 ·have HRE : Hid (rEnd rs true t m = (workE rs [t] m, ⟨⟨#[]⟩, []⟩, 0)) := by unfold Hid rEnd; rw [if_neg h0]
  have r0 := R1.out.c0
  have r1 := R1.out.c1
  have rf := R1.out.frozen
  generalize workE rs [t] m = er at *
  go_wp2_with fail
  refine bodyPost_ret (v := .tuple #[.agg #[.string ⟨#[]⟩, .slice none 0 0], .int .i64 0, .int .i64 er]) (by simp [results, Tryz.results24, go_sem, World.cell?_setCell_same, World.cell?_setCell_other, r0, r1]) rfl ?_
  exact ⟨(HB1.out.setCell (by simp) _).setCell (by simp) _, ⟨⟨#[]⟩, []⟩, none, 0, 0, er, rfl, HRE.out, ⟨by simp, Or.inl rfl⟩⟩
set_option maxHeartbeats 2000000 in
theorem rOuter_any (rs : List Pr) (t : Tm) (m : Int) (u : Value) (aa : Option Addr) (ca : Nat) (w : World) (X : Nat → Prop) (hu : QV w X u rs) (hs : Sl w X aa t.args) :
  Calls Tryz.prog 25 #[u, .agg #[.string t.name, .slice aa t.args.length ca], .int .i64 m] w fun e w' => EdPost (rEnd rs false t m) w e w' := by
 have HU := hide hu
 have HS := hide hs
 obtain ⟨ua, uc, rfl, _, _⟩ := hu
 clear hs
 have HAF := hide (allocs_facts [(.cells #[.string t.name, .slice aa t.args.length ca] 27 : Obj), (.cells #[.string ⟨#[]⟩, .slice none 0 0] 27 : Obj), (.cells #[.string t.name, .slice aa t.args.length ca] 27 : Obj)] w)
 have HW : Hid (∃ W, W = ((w.alloc (.cells #[.string t.name, .slice aa t.args.length ca] 27)).alloc (.cells #[.string ⟨#[]⟩, .slice none 0 0] 27)).alloc (.cells #[.string t.name, .slice aa t.args.length ca] 27) ∧ Below w.heap.size w W ∧ Blk W w.heap.size #[.string t.name, .slice aa t.args.length ca] 27 ∧ Blk W (w.heap.size + 1) #[.string ⟨#[]⟩, .slice none 0 0] 27 ∧ Blk W (w.heap.size + 1 + 1) #[.string t.name, .slice aa t.args.length ca] 27) := ⟨_, rfl, HAF.out.1, HAF.out.2.2 0 _ rfl, HAF.out.2.2 1 _ rfl, HAF.out.2.2 2 _ rfl⟩
 go_enter Tryz.func25, Tryz.ntmps25
 go_wp2_with fail
 obtain ⟨w0, hw0, hb0, ht0, hr0, ht2⟩ := HW.out
 rw [← hw0]
 have HB0 := hide hb0
 have HT0 := hide ht0
 have HR0 := hide hr0
 clear hw0 HW HAF
 refine (checkWork_any rs [t] m _ _ 1 w0 (fun _ => True) ((HU.out.later hb0).mono fun _ _ _ => trivial) (sl_oneR ht2 ((HS.out.later hb0).mono fun _ _ _ => trivial))).mono ?_
 rintro e w1 ⟨rfl, hb1⟩
 have HB1 := hide (HB0.out.trans (hb1.mono HB0.out.size))
 have T1 := hide (HT0.out.below hb1 HT0.out.lt)
 have R1 := hide (HR0.out.below hb1 HR0.out.lt)
 clear hb0 ht0 hr0 ht2 hb1
 by_cases h0 : workE rs [t] m = 0
 ·obtain ⟨k1, k2, k3, k4⟩ := work_parts h0
  have hmt : mayE t = 0 := by rw [firstE_one] at k2; exact k2
  have hzt := may_le hmt
  obtain ⟨n, hn⟩ : ∃ n : Nat, m = (n : Int) := ⟨m.toNat, by omega⟩
  have HRE : Hid (rEnd rs false t m = endP rs false n t) := by unfold Hid rEnd; rw [if_pos h0, hn]; rfl
  have HRU := hide (rulesE_all k1)
  rw [h0]
  subst hn
  have t0 := T1.out.c0
  have t1 := T1.out.c1
  clear h0 k1 k2 hmt
  go_wp2_with fail
  refine (sOuter_any rs HRU.out t n _ aa ca w1 X (HU.out.later HB1.out) (HS.out.later HB1.out) (by omega) (by omega)).mono ?_
  rintro e w2 ⟨hb2, x, ax, cx, k, er, rfl, he2, hsx⟩
  have HB2 := hide (HB1.out.trans (hb2.mono HB1.out.size))
  have R2 := hide (R1.out.below hb2 R1.out.lt)
  have HSX := hide hsx
  have HE2 := hide he2
  have hz2 := hb2.size
  clear hb2 hsx he2 t0 t1
  have r0 := R2.out.c0
  have r1 := R2.out.c1
  have rf := R2.out.frozen
  go_wp2_with fail
  refine bodyPost_ret (v := .tuple #[.agg #[.string x.name, .slice ax x.args.length cx], .int .i64 (k : Int), .int .i64 er]) (by simp [results, Tryz.results25, go_sem, World.cell?_setCell_same, World.cell?_setCell_other, r0, r1]) rfl ?_
  have hl1 := R1.out.lt
  refine ⟨(HB2.out.setCell (by simp) _).setCell (by simp) _, x, ax, cx, k, er, rfl, HRE.out.trans HE2.out, (HSX.out.kept fun b hb => ?_).mono fun b hb _ => by omega⟩
  rw [Below.heap_setCell _ _ _ _ (by simp; omega), Below.heap_setCell _ _ _ _ (by simp; omega)]
 ·have HRE : Hid (rEnd rs false t m = (workE rs [t] m, ⟨⟨#[]⟩, []⟩, 0)) := by unfold Hid rEnd; rw [if_neg h0]
  have r0 := R1.out.c0
  have r1 := R1.out.c1
  have rf := R1.out.frozen
  generalize workE rs [t] m = er at *
  go_wp2_with fail
  refine bodyPost_ret (v := .tuple #[.agg #[.string ⟨#[]⟩, .slice none 0 0], .int .i64 0, .int .i64 er]) (by simp [results, Tryz.results25, go_sem, World.cell?_setCell_same, World.cell?_setCell_other, r0, r1]) rfl ?_
  exact ⟨(HB1.out.setCell (by simp) _).setCell (by simp) _, ⟨⟨#[]⟩, []⟩, none, 0, 0, er, rfl, HRE.out, ⟨by simp, Or.inl rfl⟩⟩
def rMeet (rs : List Pr) (a b : Tm) (m : Int) : Bool × Int := if workE rs [a, b] m = 0 then meetP rs m.toNat a b else (false, workE rs [a, b] m)
theorem two_zero {a b : Tm} (h : twoE a b = 0) : mayE a = 0 ∧ mayE b = 0 := by
 unfold twoE at h
 split at h
 ·rename_i h1; exact ⟨h1, h⟩
 ·rename_i h1; exact absurd h h1
set_option maxHeartbeats 2000000 in
theorem rMeet_any (rs : List Pr) (t t2 : Tm) (m : Int) (u : Value) (a a2 : Option Addr) (c c2 : Nat) (w : World) (X : Nat → Prop) (hu : QV w X u rs) (hs : Sl w X a t.args) (hs2 : Sl w X a2 t2.args) :
  Calls Tryz.prog 26 #[u, .agg #[.string t.name, .slice a t.args.length c], .agg #[.string t2.name, .slice a2 t2.args.length c2], .int .i64 m] w fun e w' => e = .returned (.tuple #[.bool (rMeet rs t t2 m).1, .int .i64 (rMeet rs t t2 m).2]) ∧ Below w.heap.size w w' := by
 have HU := hide hu
 have HS := hide hs
 have HS2 := hide hs2
 obtain ⟨ua, uc, rfl, _, _⟩ := hu
 clear hs hs2
 have HAF := hide (allocs_facts [(.cells #[.string t.name, .slice a t.args.length c] 27 : Obj), (.cells #[.string t2.name, .slice a2 t2.args.length c2] 27 : Obj), (.cells #[.string t.name, .slice a t.args.length c, .string t2.name, .slice a2 t2.args.length c2] 27 : Obj)] w)
 have HW : Hid (∃ W, W = ((w.alloc (.cells #[.string t.name, .slice a t.args.length c] 27)).alloc (.cells #[.string t2.name, .slice a2 t2.args.length c2] 27)).alloc (.cells #[.string t.name, .slice a t.args.length c, .string t2.name, .slice a2 t2.args.length c2] 27) ∧ Below w.heap.size w W ∧ Blk W w.heap.size #[.string t.name, .slice a t.args.length c] 27 ∧ Blk W (w.heap.size + 1) #[.string t2.name, .slice a2 t2.args.length c2] 27 ∧ Blk W (w.heap.size + 1 + 1) #[.string t.name, .slice a t.args.length c, .string t2.name, .slice a2 t2.args.length c2] 27) := ⟨_, rfl, HAF.out.1, HAF.out.2.2 0 _ rfl, HAF.out.2.2 1 _ rfl, HAF.out.2.2 2 _ rfl⟩
 go_enter Tryz.func26, Tryz.ntmps26
 go_wp2_with fail
 obtain ⟨w0, hw0, hb0, ht0, hr0, ht2⟩ := HW.out
 rw [← hw0]
 have HB0 := hide hb0
 have HT0 := hide ht0
 have HR0 := hide hr0
 clear hw0 HW HAF
 refine (checkWork_any rs [t, t2] m _ _ 2 w0 (fun _ => True) ((HU.out.later hb0).mono fun _ _ _ => trivial) (sl_twoR ht2 ((HS.out.later hb0).mono fun _ _ _ => trivial) ((HS2.out.later hb0).mono fun _ _ _ => trivial))).mono ?_
 rintro e w1 ⟨rfl, hb1⟩
 have HB1 := hide (HB0.out.trans (hb1.mono HB0.out.size))
 have T1 := hide (HT0.out.below hb1 HT0.out.lt)
 have R1 := hide (HR0.out.below hb1 HR0.out.lt)
 clear hb0 ht0 hr0 ht2 hb1
 by_cases h0 : workE rs [t, t2] m = 0
 ·obtain ⟨k1, k2, k3, k4⟩ := work_parts h0
  rw [firstE_two] at k2
  obtain ⟨hma, hmb⟩ := two_zero k2
  have hza := may_le hma
  have hzb := may_le hmb
  obtain ⟨n, hn⟩ : ∃ n : Nat, m = (n : Int) := ⟨m.toNat, by omega⟩
  have HRE : Hid (rMeet rs t t2 m = meetP rs n t t2) := by unfold Hid rMeet; rw [if_pos h0, hn]; rfl
  have HRU := hide (rulesE_all k1)
  rw [h0]
  subst hn
  have t0 := T1.out.c0
  have t1 := T1.out.c1
  have s0 := R1.out.c0
  have s1 := R1.out.c1
  clear h0 k1 k2 hma hmb
  go_wp2_with fail
  refine (sMeet_any rs HRU.out t t2 n _ a a2 c c2 w1 X (HU.out.later HB1.out) (HS.out.later HB1.out) (HS2.out.later HB1.out) (by omega) (by omega) (by omega)).mono ?_
  rintro e w2 ⟨rfl, hb2⟩
  have HB2 := hide (HB1.out.trans (hb2.mono HB1.out.size))
  clear hb2 t0 t1 s0 s1
  obtain ⟨q1, q2, hq⟩ : ∃ q1 q2, meetP rs n t t2 = (q1, q2) := ⟨_, _, rfl⟩
  rw [hq]
  have HQ := hide hq
  clear hq
  go_wp2_with fail
  refine bodyPost_ret (v := .tuple #[.bool q1, .int .i64 q2]) (by simp [results, Tryz.results26, go_sem]) rfl ?_
  exact ⟨by rw [HRE.out, HQ.out], HB2.out⟩
 ·have HRE : Hid (rMeet rs t t2 m = (false, workE rs [t, t2] m)) := by unfold Hid rMeet; rw [if_neg h0]
  obtain ⟨er, her⟩ : ∃ er, workE rs [t, t2] m = er := ⟨_, rfl⟩
  rw [her] at h0 HRE
  rw [her]
  clear her
  go_wp2_with fail
  refine bodyPost_ret (v := .tuple #[.bool false, .int .i64 er]) (by simp [results, Tryz.results26, go_sem]) rfl ?_
  exact ⟨by rw [HRE.out], HB1.out⟩
end Go.Proofs.YtmkendjmfdaedaaGreat
