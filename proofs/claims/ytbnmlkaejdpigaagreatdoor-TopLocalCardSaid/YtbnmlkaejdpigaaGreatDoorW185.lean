import Derived.Test.YtbnmlkaejdpigaaGreatDoorZTopLocalOwn
import Derived.Test.YtbnmlkaejdpigaaGreatDoorW184
import Derived.Test.YtbnmlkaejdpigaaGreatDoorZCTopLocalOwn
import Derived.Test.YtbnmlkaejdpigaaGreatDoorW175
namespace Go.Proofs.YtbnmlkaejdpigaaGreatDoor
open Go.RowKit Go.Shelf
set_option linter.unusedSimpArgs false
set_option linter.unusedVariables false
set_option maxRecDepth 8000
def EdPost (r : Int × Tm × Nat) (w : World) (e : Ending) (w' : World) : Prop :=
 Below w.heap.size w w' ∧ ∃ (x : Tm) (a : Option Addr) (c n : Nat) (er : Int), e = .returned (.tuple #[.agg #[.string x.name, .slice a x.args.length c], .int .i64 (n : Int), .int .i64 er]) ∧ r = (er, x, n) ∧ Sl w' (fun b => w.heap.size ≤ b) a x.args
theorem end_fin {rs : List Pr} {m d' : Nat} {t x : Tm} (h : InOk rs (fun a => a) m 0 t x d') : endP rs true m t = (0, x, d') := by
 obtain ⟨_, _, h3, _, h5⟩ := h
 have e1 := endP_none (rs := rs) (inner := true) (m := m - d') ((nextT_none rs true x).2 h3)
 simp only [Nat.sub_zero] at h5
 rw [h5, e1]
 simp [shiftN]
set_option maxHeartbeats 4000000 in
theorem sInner_any (rs : List Pr) (hr : ∀ p ∈ rs, ruleE p = 0) (t : Tm) (m : Nat) (u : Value) (a : Option Addr) (c : Nat) (w : World) (X0 : Nat → Prop) (hu0 : QV w X0 u rs) (hs0 : Sl w X0 a t.args) (hz : sizeL [t] ≤ 2000) (hm : m ≤ 400) :
  Calls Tryz.prog 23 #[u, .agg #[.string t.name, .slice a t.args.length c], .int .i64 (m : Int)] w fun e w' => EdPost (endP rs true m t) w e w' := by
 obtain ⟨X, hXw, hu, hs⟩ : ∃ X : Nat → Prop, (∀ b, X b → b < w.heap.size) ∧ QV w X u rs ∧ Sl w X a t.args := ⟨fun b => X0 b ∧ b < w.heap.size, fun _ h => h.2, hu0.mono fun b h1 h2 => ⟨h1, h2⟩, hs0.mono fun b h1 h2 => ⟨h1, h2⟩⟩
 have HXW := hide hXw
 have HU := hide hu
 have HS := hide hs
 have HR := hide hr
 obtain ⟨ua, uc, rfl, _, _⟩ := hu
 clear hXw hs hu0 hs0 hr
 have HW : Hid (∃ W, W = (w.alloc (.cells #[.string t.name, .slice a t.args.length c] 32)).alloc (.cells #[.string ⟨#[]⟩, .slice none 0 0] 32) ∧ Below w.heap.size w W ∧ W.heap.size = w.heap.size + 2 ∧ Blk W w.heap.size #[.string t.name, .slice a t.args.length c] 32 ∧ Blk W (w.heap.size + 1) #[.string ⟨#[]⟩, .slice none 0 0] 32) := by
  obtain ⟨h1, h2, h3⟩ := allocs_facts [(.cells #[.string t.name, .slice a t.args.length c] 32 : Obj), (.cells #[.string ⟨#[]⟩, .slice none 0 0] 32 : Obj)] w
  exact ⟨_, rfl, h1, h2, h3 0 _ rfl, h3 1 _ rfl⟩
 go_enter Tryz.func23, Tryz.ntmps23
 go_wp2_with fail
 obtain ⟨w0, hw0, hb0, hz0, ht0, hr0⟩ := HW.out
 rw [← hw0]
 have HB0 := hide hb0
 have HT0 := hide ht0
 have HR0 := hide hr0
 have HZ0 := hide hz0
 clear hw0 HW hb0 hz0 ht0 hr0
 refine (count_any 2000 (by omega) (by omega) t _ w0 X ⟨a, c, rfl, HS.out.later HB0.out⟩).mono ?_
 rintro e w1 ⟨rfl, hb1⟩
 have em : min (sizeL [t] : Int) (2000 + 1) = sizeL [t] := by omega
 rw [em]
 clear em
 have HB1 := hide (HB0.out.trans (hb1.mono HB0.out.size))
 have T1 := hide (HT0.out.below hb1 HT0.out.lt)
 have R1 := hide (HR0.out.below hb1 HR0.out.lt)
 have hz1 : w.heap.size + 2 ≤ w1.heap.size := by have := hb1.size; have := HZ0.out; omega
 clear hb1
 have HBA : Hid (Below w1.heap.size w1 (w1.alloc (.cells #[.slice ua rs.length uc, .int .i64 (m : Int), .int .i64 0, .int .i64 (sizeL [t] : Int)] 95))) := (Below.refl _ _).alloc (Nat.le_refl _) _
 have HIA : Hid (Blk (w1.alloc (.cells #[.slice ua rs.length uc, .int .i64 (m : Int), .int .i64 0, .int .i64 (sizeL [t] : Int)] 95)) w1.heap.size #[.slice ua rs.length uc, .int .i64 (m : Int), .int .i64 0, .int .i64 (sizeL [t] : Int)] 95) := Blk.new w1 _ _
 have t0 : ∀ o, (w1.alloc o).cell? ⟨w.heap.size, 0, none⟩ = some (.string t.name) := fun o => (T1.out.alloc o).cell 0
 have t1 : ∀ o, (w1.alloc o).cell? ⟨w.heap.size, 1, none⟩ = some (.slice a t.args.length c) := fun o => (T1.out.alloc o).cell 1
 go_wp2_with fail
 clear t0 t1
 generalize (w1.alloc (.cells #[.slice ua rs.length uc, .int .i64 (m : Int), .int .i64 0, .int .i64 (sizeL [t] : Int)] 95)) = W at *
 have HBW := hide (HB1.out.trans (HBA.out.mono HB1.out.size))
 have hzW : w1.heap.size + 1 ≤ W.heap.size := HIA.out.lt
 have hg : gT [] t = t := gT_nil t
 refine (inner_any rs HR.out ua uc w1.heap.size m hm m (fun z => z) 0 0 t [] none a c W X (CtxZ.id rs) (by omega) (by omega) (HU.out.later HBW.out) (HS.out.later HBW.out) (Or.inl ⟨rfl, rfl⟩) (fun d hd => by simp at hd) (fun b hb => by have := HXW.out b hb; omega) (by rw [hg]; omega) hz (by rw [hg]; exact HIA.out)).mono ?_
 rw [hg]
 clear hg
 rintro e w2 ⟨x2, x, ax, cx, er, rfl, hsx, hcs⟩
 have HSX := hide hsx
 have hz2 := x2.size
 have HB2 : Hid (Below w.heap.size w w2) := HBW.out.trans (x2.below (B := w.heap.size) (by omega) (fun b hb => by omega))
 have R2 := hide ((R1.out.below HBA.out R1.out.lt).exq x2 (by omega))
 have HBX : Hid (Below w2.heap.size w2 (w2.alloc (.cells #[.string x.name, .slice ax x.args.length cx] 32))) := (Below.refl _ _).alloc (Nat.le_refl _) _
 rcases hcs with ⟨rfl, d', hok, hI⟩ | ⟨h0, hx0, he9⟩
 ·have HOK := hide (end_fin hok)
  have hd4 : d' ≤ 400 := by have := hok.2.1; omega
  have HI := hide hI
  have HXZ : Hid (sizeL [x] ≤ 2000) := hok.2.2.2.1
  clear hsx x2 hok hI
  have hxz : sizeL [x] ≤ 2000 := HXZ.out
  clear HXZ
  go_upto_region 5 with fail
  have HX3 := hide (HSX.out.later HBX.out)
  have KX : Hid (Blk (w2.alloc (.cells #[.string x.name, .slice ax x.args.length cx] 32)) w2.heap.size #[.string x.name, .slice ax x.args.length cx] 32) := Blk.new w2 _ _
  have KI := hide (HI.out.alloc (.cells #[.string x.name, .slice ax x.args.length cx] 32))
  have KR := hide (R2.out.alloc (.cells #[.string x.name, .slice ax x.args.length cx] 32))
  have HB3 := hide (HB2.out.trans (HBX.out.mono HB2.out.size))
  generalize (w2.alloc (.cells #[.string x.name, .slice ax x.args.length cx] 32)) = w3 at *
  clear HBX HI R2 HSX
  have BD : Hid (Below w3.heap.size w3 w3.drew) := below_drewN (Below.refl _ _) 1
  refine wp_region_held_drew (S := fun w' => Blk w' w2.heap.size #[.string x.name, .slice ax x.args.length cx] 32 ∧ w'.cell? ⟨w1.heap.size, 2, none⟩ = some (.int .i64 (d' : Int))) (by kernel_rfl) ⟨KX.out.below BD.out KX.out.lt, KI.out.cell 2⟩ (fun hHeld => ?_)
  refine tkq (v := ?_) 0 rfl ?_ ?_
  rotate_left
  ·intro w' hSw
   have b0 : w'.cell? ⟨w2.heap.size, 0, none⟩ = some (.string x.name) := hSw.1.cell 0
   have b1 : w'.cell? ⟨w2.heap.size, 1, none⟩ = some (.slice ax x.args.length cx) := hSw.1.cell 1
   go_simp <;> with_reducible rfl
  try simp only [Act.put, sq]
  refine tkq (v := ?_) 2 rfl ?_ ?_
  rotate_left
  ·intro w' hSw
   go_simp <;> with_reducible rfl
  try simp only [Act.put, sq]
  refine tkq (v := ?_) 3 rfl ?_ ?_
  rotate_left
  ·intro w' hSw
   have i2 : w'.cell? ⟨w1.heap.size, 2, none⟩ = some (.int .i64 (d' : Int)) := hSw.2
   go_simp <;> with_reducible rfl
  try simp only [Act.put, sq]
  generalize w3.drew = wd at *
  have hzd : w.heap.size + 2 ≤ wd.heap.size := by have := BD.out.size; have := KX.out.lt; omega
  refine rdq 1 rfl fun K hK => ?_
  go_simp
  go_at_call 54
  refine (copyOf_any x _ wd _ ⟨ax, cx, rfl, HX3.out.later BD.out⟩ (by omega)).mono ?_
  rintro e w4 ⟨v4, rfl, ⟨a4, c4, rfl, hs4⟩, hb4⟩
  have HS4 := hide hs4
  have B4 := hide (BD.out.trans (hb4.mono BD.out.size))
  clear hs4 hb4
  have K4 := hide (KX.out.below B4.out KX.out.lt)
  have J4 := hide (KI.out.below B4.out KI.out.lt)
  have R4 := hide (KR.out.below B4.out KR.out.lt)
  have HB4 := hide (HB3.out.trans (B4.out.mono HB3.out.size))
  have hz4 := B4.out.size
  go_simp
  refine hK.out _ _ (by exact ⟨K4.out, J4.out.cell 2⟩) (fun hHeld => ?_)
  clear hK K
  try simp only [Act.put, sq]
  have r0 := R4.out.c0
  have r1 := R4.out.c1
  have rf := R4.out.frozen
  have rl := R4.out.lt
  have KF : Hid (Blk ((w4.setCell ⟨w.heap.size + 1, 0, none⟩ (.string x.name)).setCell ⟨w.heap.size + 1, 1, none⟩ (.slice a4 x.args.length c4)) w2.heap.size #[.string x.name, .slice ax x.args.length cx] 32) := (K4.out.setOther _ _ (by omega)).setOther _ _ (by omega)
  have JF2 : Hid (Blk ((w4.setCell ⟨w.heap.size + 1, 0, none⟩ (.string x.name)).setCell ⟨w.heap.size + 1, 1, none⟩ (.slice a4 x.args.length c4)) w1.heap.size _ 95) := (J4.out.setOther _ _ (by omega)).setOther _ _ (by omega)
  have RF : Hid (Blk ((w4.setCell ⟨w.heap.size + 1, 0, none⟩ (.string x.name)).setCell ⟨w.heap.size + 1, 1, none⟩ (.slice a4 x.args.length c4)) (w.heap.size + 1) #[.string x.name, .slice a4 x.args.length c4] 32) := (R4.out.set 0 _).set 1 _
  have BF : Hid (Below w.heap.size w ((w4.setCell ⟨w.heap.size + 1, 0, none⟩ (.string x.name)).setCell ⟨w.heap.size + 1, 1, none⟩ (.slice a4 x.args.length c4))) := (HB4.out.setCell (by simp) _).setCell (by simp) _
  have SF : Hid (Sl ((w4.setCell ⟨w.heap.size + 1, 0, none⟩ (.string x.name)).setCell ⟨w.heap.size + 1, 1, none⟩ (.slice a4 x.args.length c4)) (fun b => w.heap.size ≤ b) a4 x.args) := (HS4.out.kept fun b hb => by rw [Below.heap_setCell _ _ _ _ (by simp; omega), Below.heap_setCell _ _ _ _ (by simp; omega)]).mono fun b hb _ => by omega
  refine rdq 4 rfl fun K hK => ?_
  go_simp
  refine hK.out _ _ (by exact ⟨KF.out, JF2.out.cell 2⟩) (fun hHeld => ?_)
  clear hK K
  try simp only [Act.put, sq]
  refine tkq (v := ?_) 5 rfl ?_ ?_
  rotate_left
  ·intro w' hSw
   go_simp <;> with_reducible rfl
  try simp only [Act.put, sq]
  refine tkq (v := ?_) 6 rfl ?_ ?_
  rotate_left
  ·intro w' hSw
   go_simp <;> with_reducible rfl
  try simp only [Act.put, sq]
  refine wpAnyH_done (by kernel_rfl) ?_ _
  generalize ((w4.setCell ⟨w.heap.size + 1, 0, none⟩ (.string x.name)).setCell ⟨w.heap.size + 1, 1, none⟩ (.slice a4 x.args.length c4)) = wf at *
  clear r0 r1 rf rl
  have f0 := RF.out.c0
  have f1 := RF.out.c1
  go_wp2_with fail
  refine bodyPost_ret (v := .tuple #[.agg #[.string x.name, .slice a4 x.args.length c4], .int .i64 (d' : Int), .int .i64 0]) (by simp [results, Tryz.results23, go_sem, f0, f1]) rfl ?_
  exact ⟨BF.out, x, a4, c4, d', 0, rfl, HOK.out, SF.out⟩
 ·have HE9 := hide he9
  have hne : ¬ (er = 0) := by rcases h0 with h | h <;> omega
  subst hx0
  clear hsx x2 he9 h0
  have r0 := R2.out.c0
  have r1 := R2.out.c1
  have rf := R2.out.frozen
  have rl := R2.out.lt
  go_wp2_with fail
  have KF : Blk (((w2.setCell ⟨w.heap.size + 1, 0, none⟩ (.string ⟨#[]⟩)).setCell ⟨w.heap.size + 1, 1, none⟩ (.slice none 0 0)).alloc (.cells #[.string ⟨#[]⟩, .slice ax 0 cx] 32)) (w.heap.size + 1) #[.string ⟨#[]⟩, .slice none 0 0] 32 := ((R2.out.set 0 _).set 1 _).alloc _
  have BF : Hid (Below w.heap.size w (((w2.setCell ⟨w.heap.size + 1, 0, none⟩ (.string ⟨#[]⟩)).setCell ⟨w.heap.size + 1, 1, none⟩ (.slice none 0 0)).alloc (.cells #[.string ⟨#[]⟩, .slice ax 0 cx] 32))) := ((HB2.out.setCell (by simp) _).setCell (by simp) _).alloc (by have := HB2.out.size; simp [World.setCell]; omega) _
  generalize (((w2.setCell ⟨w.heap.size + 1, 0, none⟩ (.string ⟨#[]⟩)).setCell ⟨w.heap.size + 1, 1, none⟩ (.slice none 0 0)).alloc (.cells #[.string ⟨#[]⟩, .slice ax 0 cx] 32)) = wf at *
  have f0 := KF.c0
  have f1 := KF.c1
  refine bodyPost_ret (v := .tuple #[.agg #[.string ⟨#[]⟩, .slice none 0 0], .int .i64 0, .int .i64 er]) (by simp [results, Tryz.results23, go_sem, f0, f1]) rfl ?_
  refine ⟨BF.out, ⟨⟨#[]⟩, []⟩, none, 0, 0, er, rfl, ?_, ⟨by simp, Or.inl rfl⟩⟩
  have h := HE9.out
  simpa using h
def meetP (rs : List Pr) (m : Nat) (a b : Tm) : Bool × Int := if (endP rs true m a).1 ≠ 0 then (false, (endP rs true m a).1) else if (endP rs true m b).1 ≠ 0 then (false, (endP rs true m b).1) else (sameB (endP rs true m a).2.1 (endP rs true m b).2.1, 0)
set_option maxHeartbeats 4000000 in
theorem sMeet_any (rs : List Pr) (hr : ∀ p ∈ rs, ruleE p = 0) (t t2 : Tm) (m : Nat) (u : Value) (a a2 : Option Addr) (c c2 : Nat) (w : World) (X : Nat → Prop) (hu : QV w X u rs) (hs : Sl w X a t.args) (hs2 : Sl w X a2 t2.args) (hz : sizeL [t] ≤ 2000) (hz2 : sizeL [t2] ≤ 2000) (hm : m ≤ 400) :
  Calls Tryz.prog 13 #[u, .agg #[.string t.name, .slice a t.args.length c], .agg #[.string t2.name, .slice a2 t2.args.length c2], .int .i64 (m : Int)] w fun e w' => e = .returned (.tuple #[.bool (meetP rs m t t2).1, .int .i64 (meetP rs m t t2).2]) ∧ Below w.heap.size w w' := by
 have HU := hide hu
 have HS := hide hs
 have HS2 := hide hs2
 have HR := hide hr
 obtain ⟨ua, uc, rfl, _, _⟩ := hu
 clear hs hs2 hr
 have HW : Hid (∃ W, W = (w.alloc (.cells #[.string t.name, .slice a t.args.length c] 32)).alloc (.cells #[.string t2.name, .slice a2 t2.args.length c2] 32) ∧ Below w.heap.size w W ∧ Blk W (w.heap.size + 1) #[.string t2.name, .slice a2 t2.args.length c2] 32) := by
  obtain ⟨h1, h2, h3⟩ := allocs_facts [(.cells #[.string t.name, .slice a t.args.length c] 32 : Obj), (.cells #[.string t2.name, .slice a2 t2.args.length c2] 32 : Obj)] w
  exact ⟨_, rfl, h1, h3 1 _ rfl⟩
 go_enter Tryz.func13, Tryz.ntmps13
 go_wp2_with fail
 obtain ⟨w0, hw0, hb0, ht2⟩ := HW.out
 rw [← hw0]
 have HB0 := hide hb0
 have HT2 := hide ht2
 clear hw0 HW hb0 ht2
 refine (sInner_any rs HR.out t m _ a c w0 X (HU.out.later HB0.out) (HS.out.later HB0.out) hz hm).mono ?_
 rintro e w1 ⟨hb1, x, ax, cx, n1, er, rfl, he1, hsx⟩
 have HE1 := hide he1
 have HSX := hide hsx
 have HB1 := hide (HB0.out.trans (hb1.mono HB0.out.size))
 have T1 := hide (HT2.out.below hb1 HT2.out.lt)
 clear he1 hsx hb1
 by_cases h0 : er = 0
 ·subst h0
  have HBA : Hid (Below w1.heap.size w1 (w1.alloc (.cells #[.string x.name, .slice ax x.args.length cx] 32))) := (Below.refl _ _).alloc (Nat.le_refl _) _
  have KX : Hid (Blk (w1.alloc (.cells #[.string x.name, .slice ax x.args.length cx] 32)) w1.heap.size #[.string x.name, .slice ax x.args.length cx] 32) := Blk.new w1 _ _
  have t0 : ∀ o, (w1.alloc o).cell? ⟨w.heap.size + 1, 0, none⟩ = some (.string t2.name) := fun o => (T1.out.alloc o).cell 0
  have t1 : ∀ o, (w1.alloc o).cell? ⟨w.heap.size + 1, 1, none⟩ = some (.slice a2 t2.args.length c2) := fun o => (T1.out.alloc o).cell 1
  go_wp2_with fail
  clear t0 t1
  have HBX := hide (HB1.out.trans (HBA.out.mono HB1.out.size))
  have HSX2 := hide (HSX.out.later HBA.out)
  generalize (w1.alloc (.cells #[.string x.name, .slice ax x.args.length cx] 32)) = w2 at *
  refine (sInner_any rs HR.out t2 m _ a2 c2 w2 X (HU.out.later HBX.out) (HS2.out.later HBX.out) hz2 hm).mono ?_
  rintro e w3 ⟨hb3, y, ay, cy, n2, er2, rfl, he2, hsy⟩
  have HE2 := hide he2
  have HSY := hide hsy
  have HB3 := hide (HBX.out.trans (hb3.mono HBX.out.size))
  have KX3 := hide (KX.out.below hb3 KX.out.lt)
  have HSX3 := hide (HSX2.out.later hb3)
  clear he2 hsy hb3
  by_cases h1 : er2 = 0
  ·subst h1
   have HMP : Hid (meetP rs m t t2 = (sameB x y, 0)) := by unfold Hid meetP; rw [HE1.out, HE2.out]; simp
   have HBY : Hid (Below w3.heap.size w3 (w3.alloc (.cells #[.string y.name, .slice ay y.args.length cy] 32))) := (Below.refl _ _).alloc (Nat.le_refl _) _
   have x0 : ∀ o, (w3.alloc o).cell? ⟨w1.heap.size, 0, none⟩ = some (.string x.name) := fun o => (KX3.out.alloc o).cell 0
   have x1 : ∀ o, (w3.alloc o).cell? ⟨w1.heap.size, 1, none⟩ = some (.slice ax x.args.length cx) := fun o => (KX3.out.alloc o).cell 1
   have hxl : w1.heap.size < w3.heap.size := KX3.out.lt
   go_wp2_with fail
   refine (sameK_all x y _ _ _ _ _ ⟨ax, cx, rfl, HSX3.out.later HBY.out⟩ ⟨ay, cy, rfl, HSY.out.later HBY.out⟩).mono ?_
   rintro e w5 ⟨rfl, hb5⟩
   have HB5 := hide ((HB3.out.trans (HBY.out.mono HB3.out.size)).trans (hb5.mono (by have := HB3.out.size; simp; omega)))
   clear hb5 x0 x1
   go_wp2_with fail
   refine bodyPost_ret (v := .tuple #[.bool (sameB x y), .int .i64 0]) (by simp [results, Tryz.results13, go_sem]) rfl ?_
   exact ⟨by rw [HMP.out], HB5.out⟩
  ·have HMP : Hid (meetP rs m t t2 = (false, er2)) := by unfold Hid meetP; rw [HE1.out, HE2.out]; simp [h1]
   go_wp2_with fail
   refine bodyPost_ret (v := .tuple #[.bool false, .int .i64 er2]) (by simp [results, Tryz.results13, go_sem]) rfl ?_
   exact ⟨by rw [HMP.out], HB3.out.alloc HB3.out.size _⟩
 ·have HMP : Hid (meetP rs m t t2 = (false, er)) := by unfold Hid meetP; rw [HE1.out]; simp [h0]
  go_wp2_with fail
  refine bodyPost_ret (v := .tuple #[.bool false, .int .i64 er]) (by simp [results, Tryz.results13, go_sem]) rfl ?_
  exact ⟨by rw [HMP.out], HB1.out.alloc HB1.out.size _⟩
end Go.Proofs.YtbnmlkaejdpigaaGreatDoor
