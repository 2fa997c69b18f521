import Derived.Test.YtbnmlkaejdpigaaGreatDoorW186
namespace Go.Proofs.YtbnmlkaejdpigaaGreatDoor
open Go.RowKit Go.Shelf
set_option linter.unusedSimpArgs false
set_option linter.unusedVariables false
set_option maxRecDepth 8000
def workE (rs : List Pr) (l : List Tm) (m : Int) : Int := if allE rs l = 0 then (if m < 0 ∨ 400 < m then 10 else 0) else allE rs l
set_option maxHeartbeats 1000000 in
theorem checkWork_any (rs : List Pr) (l : List Tm) (m : Int) (u : Value) (a : Option Addr) (c : Nat) (w : World) (X : Nat → Prop) (hu : QV w X u rs) (hs : Sl w X a l) :
  Calls Tryz.prog 14 #[u, .int .i64 m, .slice a l.length c] w fun e w' => e = .returned (.int .i64 (workE rs l m)) ∧ Below w.heap.size w w' := by
 have HU := hide hu
 have HS := hide hs
 obtain ⟨ua, uc, rfl, _, _⟩ := hu
 clear hs
 go_enter Tryz.func14, Tryz.ntmps14
 go_wp2_with fail
 refine (checkAll_any rs l _ a c w X HU.out HS.out).mono ?_
 rintro e w1 ⟨rfl, hb1⟩
 have HB1 := hide hb1
 clear hb1
 by_cases h0 : allE rs l = 0
 ·have HP : Hid (workE rs l m = if m < 0 ∨ 400 < m then 10 else 0) := by unfold Hid workE; rw [if_pos h0]
  rw [h0]
  clear h0
  by_cases h1 : m < 0
  ·have HQ : Hid (10 = workE rs l m) := by unfold Hid; rw [HP.out, if_pos (Or.inl h1)]
   go_wp2_with fail
   go_ret
   exact ⟨ret_int HQ.out, HB1.out⟩
  ·by_cases h2 : 400 < m
   ·have HQ : Hid (10 = workE rs l m) := by unfold Hid; rw [HP.out, if_pos (Or.inr h2)]
    go_wp2_with fail
    go_ret
    exact ⟨ret_int HQ.out, HB1.out⟩
   ·have HQ : Hid (0 = workE rs l m) := by unfold Hid; rw [HP.out, if_neg (by omega)]
    go_wp2_with fail
    go_ret
    exact ⟨ret_int HQ.out, HB1.out⟩
 ·have HQ : Hid (allE rs l = workE rs l m) := by unfold Hid workE; rw [if_neg h0]
  go_wp2_with fail
  go_ret
  exact ⟨ret_int HQ.out, HB1.out⟩
theorem work_parts {rs : List Pr} {l : List Tm} {m : Int} (h : workE rs l m = 0) : rulesE rs = 0 ∧ firstE l = 0 ∧ 0 ≤ m ∧ m ≤ 400 := by
 unfold workE at h
 split at h
 ·rename_i h0
  split at h
  ·cases h
  ·rename_i h1
   unfold allE at h0
   split at h0
   ·rename_i h2; exact ⟨h2, h0, by omega, by omega⟩
   ·rename_i h2; exact absurd h0 h2
 ·rename_i h0; exact absurd h h0
def rMeet (rs : List Pr) (a b : Tm) (m : Int) : Bool × Int := if workE rs [a, b] m = 0 then meetP rs m.toNat a b else (false, workE rs [a, b] m)
theorem two_zero {a b : Tm} (h : twoE a b = 0) : mayE a = 0 ∧ mayE b = 0 := by
 unfold twoE at h
 split at h
 ·rename_i h1; exact ⟨h1, h⟩
 ·rename_i h1; exact absurd h h1
set_option maxHeartbeats 2000000 in
theorem rMeet_any (rs : List Pr) (t t2 : Tm) (m : Int) (u : Value) (a a2 : Option Addr) (c c2 : Nat) (w : World) (X : Nat → Prop) (hu : QV w X u rs) (hs : Sl w X a t.args) (hs2 : Sl w X a2 t2.args) :
  Calls Tryz.prog 7 #[u, .agg #[.string t.name, .slice a t.args.length c], .agg #[.string t2.name, .slice a2 t2.args.length c2], .int .i64 m] w fun e w' => e = .returned (.tuple #[.bool (rMeet rs t t2 m).1, .int .i64 (rMeet rs t t2 m).2]) ∧ Below w.heap.size w w' := by
 have HU := hide hu
 have HS := hide hs
 have HS2 := hide hs2
 obtain ⟨ua, uc, rfl, _, _⟩ := hu
 clear hs hs2
 have HAF := hide (allocs_facts [(.cells #[.string t.name, .slice a t.args.length c] 32 : Obj), (.cells #[.string t2.name, .slice a2 t2.args.length c2] 32 : Obj), (.cells #[.string t.name, .slice a t.args.length c, .string t2.name, .slice a2 t2.args.length c2] 32 : Obj)] w)
 have HW : Hid (∃ W, W = ((w.alloc (.cells #[.string t.name, .slice a t.args.length c] 32)).alloc (.cells #[.string t2.name, .slice a2 t2.args.length c2] 32)).alloc (.cells #[.string t.name, .slice a t.args.length c, .string t2.name, .slice a2 t2.args.length c2] 32) ∧ Below w.heap.size w W ∧ Blk W w.heap.size #[.string t.name, .slice a t.args.length c] 32 ∧ Blk W (w.heap.size + 1) #[.string t2.name, .slice a2 t2.args.length c2] 32 ∧ Blk W (w.heap.size + 1 + 1) #[.string t.name, .slice a t.args.length c, .string t2.name, .slice a2 t2.args.length c2] 32) := ⟨_, rfl, HAF.out.1, HAF.out.2.2 0 _ rfl, HAF.out.2.2 1 _ rfl, HAF.out.2.2 2 _ rfl⟩
 go_enter Tryz.func7, Tryz.ntmps7
 go_wp2_with fail
 obtain ⟨w0, hw0, hb0, ht0, hr0, ht2⟩ := HW.out
 rw [← hw0]
 have HB0 := hide hb0
 have HT0 := hide ht0
 have HR0 := hide hr0
 clear hw0 HW HAF
 refine (checkWork_any rs [t, t2] m _ _ 2 w0 (fun _ => True) ((HU.out.later hb0).mono fun _ _ _ => trivial) (sl_twoR ht2 ((HS.out.later hb0).mono fun _ _ _ => trivial) ((HS2.out.later hb0).mono fun _ _ _ => trivial))).mono ?_
 rintro e w1 ⟨rfl, hb1⟩
 have HB1 := hide (HB0.out.trans (hb1.mono HB0.out.size))
 have T1 := hide (HT0.out.below hb1 HT0.out.lt)
 have R1 := hide (HR0.out.below hb1 HR0.out.lt)
 clear hb0 ht0 hr0 ht2 hb1
 by_cases h0 : workE rs [t, t2] m = 0
 ·obtain ⟨k1, k2, k3, k4⟩ := work_parts h0
  rw [firstE_two] at k2
  obtain ⟨hma, hmb⟩ := two_zero k2
  have hza := may_le hma
  have hzb := may_le hmb
  obtain ⟨n, hn⟩ : ∃ n : Nat, m = (n : Int) := ⟨m.toNat, by omega⟩
  have HRE : Hid (rMeet rs t t2 m = meetP rs n t t2) := by unfold Hid rMeet; rw [if_pos h0, hn]; rfl
  have HRU := hide (rulesE_all k1)
  rw [h0]
  subst hn
  have t0 := T1.out.c0
  have t1 := T1.out.c1
  have s0 := R1.out.c0
  have s1 := R1.out.c1
  clear h0 k1 k2 hma hmb
  go_wp2_with fail
  refine (sMeet_any rs HRU.out t t2 n _ a a2 c c2 w1 X (HU.out.later HB1.out) (HS.out.later HB1.out) (HS2.out.later HB1.out) (by omega) (by omega) (by omega)).mono ?_
  rintro e w2 ⟨rfl, hb2⟩
  have HB2 := hide (HB1.out.trans (hb2.mono HB1.out.size))
  clear hb2 t0 t1 s0 s1
  obtain ⟨q1, q2, hq⟩ : ∃ q1 q2, meetP rs n t t2 = (q1, q2) := ⟨_, _, rfl⟩
  rw [hq]
  have HQ := hide hq
  clear hq
  go_wp2_with fail
  refine bodyPost_ret (v := .tuple #[.bool q1, .int .i64 q2]) (by simp [results, Tryz.results7, go_sem]) rfl ?_
  exact ⟨by rw [HRE.out, HQ.out], HB2.out⟩
 ·have HRE : Hid (rMeet rs t t2 m = (false, workE rs [t, t2] m)) := by unfold Hid rMeet; rw [if_neg h0]
  obtain ⟨er, her⟩ : ∃ er, workE rs [t, t2] m = er := ⟨_, rfl⟩
  rw [her] at h0 HRE
  rw [her]
  clear her
  go_wp2_with fail
  refine bodyPost_ret (v := .tuple #[.bool false, .int .i64 er]) (by simp [results, Tryz.results7, go_sem]) rfl ?_
  exact ⟨by rw [HRE.out], HB1.out⟩
end Go.Proofs.YtbnmlkaejdpigaaGreatDoor
