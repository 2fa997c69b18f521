/- The law TopWithin, if AutoFrom is as it is said to be. -/
import Derived.Test.YtheknfgkilckfaaAx5
import Derived.Test.YtheknfgkilckfaaAu11
import Derived.Test.YtheknfgkilckfaaAv17
namespace Go.Proofs.Ytheknfgkilckfaa
open Go.RowKit
set_option linter.unusedSimpArgs false
set_option linter.unusedVariables false
set_option maxRecDepth 8000

/-- What AutoFrom gives. -/
def AfWn (n : Nat) (w : World) (e : Ending) (w' : World) : Prop := ∃ (v : Value) (A : Au), e = .returned v ∧ AV w' (fun _ => True) v A ∧ OkAu 8 40 A ∧ A.st = (n : Int) ∧ fewM A.mv = true ∧ Below w.heap.size w w'
theorem few_two {A B : Au} (hA : OkAu 8 40 A) (sA : smB A = true) (hB : OkAu 8 40 B) (sB : smB B = true) : fewL [A, B] = 0 := by
  unfold fewL
  rw [if_pos (eachL_ok (by simp [auE_zero.2 hA, auE_zero.2 hB])), if_pos (by simp [sA, sB])]
theorem small_ok {A : Au} {S M : Nat} (hA : OkAu S M A) (sA : smB A = true) (hl : A.mv.length ≤ 40) : OkAu 8 40 A := by
  unfold smB at sA
  rw [Bool.and_eq_true, decide_eq_true_eq] at sA
  exact ⟨hA.pos, by have := sA.1; omega, hl, hA.mv, hA.la⟩
theorem within_good {A B : Au} {w w' : World} {e : Ending} (h : e = .returned (.tuple #[.bool (wiR A B), .int .i64 (fewL [A, B])]) ∧ Below w.heap.size w w') (h0 : fewL [A, B] = 0) (z : Bool) (hz : z = wiB A B) : e = .returned (.tuple #[.bool z, .int .i64 0]) ∧ Below w.heap.size w w' := by
  obtain ⟨h1, h2⟩ := h
  have e1 : wiR A B = wiB A B := if_pos h0
  rw [h0, e1, ← hz] at h1
  exact ⟨h1, h2⟩
theorem made_good {E : Int} {A : Au} {w w' : World} {e : Ending} (h : MkE E A w e w') (h0 : E = 0) : ∃ am cm al cl, e = .returned (.tuple #[.agg #[.int .i64 A.st, .slice am A.mv.length cm, .slice al A.la.length cl], .int .i64 0]) ∧ AV w' (fun _ => True) (.agg #[.int .i64 A.st, .slice am A.mv.length cm, .slice al A.la.length cl]) A ∧ Below w.heap.size w w' := by
  obtain ⟨hb, h | h⟩ := h
  · obtain ⟨_, am, cm, al, cl, he, hm, hl⟩ := h
    exact ⟨am, cm, al, cl, he, ⟨am, cm, al, cl, rfl, hm, hl⟩, hb⟩
  · exact absurd h0 h.1
/-- An automaton in a box, from now on. -/
theorem EvS.boxA {P : World → Prop} {w1 w2 : World} {Y : Nat → Prop} {A : Au} {am al : Option Addr} {cm cl T : Nat} (K : EvS P w1) (hb : Below w1.heap.size w1 w2) (ha : AV w2 Y (.agg #[.int .i64 A.st, .slice am A.mv.length cm, .slice al A.la.length cl]) A) : EvS (fun w => P w ∧ Blk w w2.heap.size #[.int .i64 A.st, .slice am A.mv.length cm, .slice al A.la.length cl] T ∧ AV w Y (.agg #[.int .i64 A.st, .slice am A.mv.length cm, .slice al A.la.length cl]) A) (w2.alloc (.cells #[.int .i64 A.st, .slice am A.mv.length cm, .slice al A.la.length cl] T)) :=
  ((K.later hb).alloc _).and ((evS_blk (Blk.new w2 _ _)).and ((evS_av ha).alloc _))

set_option maxHeartbeats 20000000 in
theorem topWithin_from (zs : List Int) (hr : ∀ z ∈ zs, Rng z) (y1 y2 y3 : Int) (hy1 : Rng y1) (hy2 : Rng y2) (hy3 : Rng y3) (u : Value) (w : World) (X : Nat → Prop) (hu : PV w X u zs)
    (AF : Hid (zs.length ≤ 256 → ∀ (a_ n m : Nat) (w' : World), a_ ≤ 100 → 1 ≤ n → n ≤ 4 → m < 12 → Below w.heap.size w w' → Calls Try.prog 4 #[u, .int .i64 (a_ : Int), .int .i64 (n : Int), .int .i64 (m : Int)] w' fun e w'' => AfWn n w' e w'')) :
    Calls Try.prog 3 #[u, .int .i64 y1, .int .i64 y2, .int .i64 y3] w fun e w' => e = .returned (.bool true) ∧ Below w.heap.size w w' := by
  have HU := hide hu
  obtain ⟨au, cu, rfl, hlc, hu2⟩ := hu
  clear hu2
  by_cases h256 : 256 < zs.length
  · go_enter Try.func3, Try.ntmps3
    go_wp2_with fail
    go_ret
    exact ⟨rfl, Below.refl _ _⟩
  go_enter Try.func3, Try.ntmps3
  go_wp2_with fail
  refine (pick_any _ 2 (by decide) (by decide) hy1 _).mono ?_
  rintro e w2 ⟨k, rfl, hk, hw2⟩
  rw [hw2]
  clear hw2 w2
  go_wp2_with fail
  refine (pick_any _ 7 (by decide) (by decide) hy2 _).mono ?_
  rintro e w2 ⟨m, rfl, hm, hw2⟩
  rw [hw2]
  clear hw2 w2
  go_wp2_with fail
  refine (AF.out (by omega) 0 (1 + k) m _ (by omega) (by omega) (by omega) (by omega) (Below.refl _ _)).mono ?_
  rintro e w2 ⟨v, A, rfl, hav, hok, hst, hfw, hb2⟩
  have OA := hide hok
  have SA : Hid (smB A = true) := by unfold Hid smB; rw [hfw, decide_eq_true (by omega)]; rfl
  have AV2 := hide hav
  obtain ⟨am, an, al, ao, rfl, -, -⟩ := hav
  have K0 : Hid (EvS (fun wr => Below w.heap.size w wr ∧ Blk wr w2.heap.size #[.int .i64 A.st, .slice am A.mv.length an, .slice al A.la.length ao] 25 ∧ AV wr (fun _ => True) (.agg #[.int .i64 A.st, .slice am A.mv.length an, .slice al A.la.length ao]) A) (w2.alloc (.cells #[.int .i64 A.st, .slice am A.mv.length an, .slice al A.la.length ao] 25))) := EvS.boxA (evS_below (Below.refl _ _)) hb2 AV2.out
  clear hok hst hfw hb2 AV2 hk hm
  go_upto_region 4 with fail
  generalize w2.heap.size = PA at *
  generalize w2.alloc (.cells #[.int .i64 A.st, .slice am A.mv.length an, .slice al A.la.length ao] 25) = w3 at *
  clear w2
  go_wp2_with fail
  refine (pick_any _ 7 (by decide) (by decide) hy3 _).mono ?_
  rintro e w4 ⟨m2, rfl, hm2, hw4⟩
  rw [hw4]
  clear hw4 w4
  go_wp2_with fail
  refine (AF.out (by omega) 60 1 m2 _ (by omega) (by omega) (by omega) (by omega) K0.out.now.1).mono ?_
  rintro e w4 ⟨v, B, rfl, hav, hok, hst, hfw, hb4⟩
  have OB := hide hok
  have SB : Hid (smB B = true) := by unfold Hid smB; rw [hfw, decide_eq_true (by omega)]; rfl
  have AV4 := hide hav
  obtain ⟨bm, bn, bl, bo, rfl, -, -⟩ := hav
  have K1 := hide (EvS.boxA (T := 25) K0.out hb4 AV4.out)
  clear hok hst hfw hb4 AV4 K0 AF hm2
  go_upto_region 5 with fail
  generalize w4.heap.size = PB at *
  generalize w4.alloc (.cells #[.int .i64 B.st, .slice bm B.mv.length bn, .slice bl B.la.length bo] 25) = w5 at *
  clear w4
  go_wp2_with fail
  refine (ground_any zs hr (by omega) 14 100 _ _ X (by exact HU.out.later K1.out.now.1.1) (by decide) (by decide)).mono ?_
  rintro e w6 ⟨tm, tn, n1, t, rfl, hs6, hz6, _, _, hb6, he6, hg6⟩
  have HZT : Hid (sizeL [t] ≤ 27) := hz6
  have HAT : Hid (accE A t = 0) := grd_acc OA.out he6 (by have := HZT.out; omega) hg6
  have HBT : Hid (accE B t = 0) := grd_acc OB.out he6 (by have := HZT.out; omega) hg6
  have K2 := hide (K1.out.box (T := 30) hb6 hs6 tn)
  clear hs6 hz6 hb6 he6 hg6 K1
  go_upto_region 6 with fail
  generalize w6.heap.size = PT at *
  generalize w6.alloc (.cells #[.string t.name, .slice tm t.args.length tn] 30) = w7 at *
  clear w6
  obtain ⟨z1, hz1⟩ : ∃ z : Bool, z = wiB A B := ⟨_, rfl⟩
  have HZ1 := hide hz1
  obtain ⟨z2, hz2⟩ : ∃ z : Bool, z = accB A t := ⟨_, rfl⟩
  have HZ2 := hide hz2
  obtain ⟨z3, hz3⟩ : ∃ z : Bool, z = accB B t := ⟨_, rfl⟩
  have HZ3 := hide hz3
  have HAA : Hid (true = wiB A A) := (wiB_iff.2 fun t h => h).symm
  have EAB : Hid (eachE A B = 0) := by unfold Hid eachE; rw [if_pos (auE_zero.2 OA.out)]; exact auE_zero.2 OB.out
  have FAB := hide (few_two OA.out SA.out OB.out SB.out)
  have FAA := hide (few_two OA.out SA.out OA.out SA.out)
  clear hz1 hz2 hz3
  have c00 : w7.cell? ⟨PA, 0, none⟩ = some (.int .i64 A.st) := K2.out.now.1.1.2.1.cell 0
  have c01 : w7.cell? ⟨PA, 1, none⟩ = some (.slice am A.mv.length an) := K2.out.now.1.1.2.1.cell 1
  have c02 : w7.cell? ⟨PA, 2, none⟩ = some (.slice al A.la.length ao) := K2.out.now.1.1.2.1.cell 2
  have c10 : w7.cell? ⟨PB, 0, none⟩ = some (.int .i64 B.st) := K2.out.now.1.2.1.cell 0
  have c11 : w7.cell? ⟨PB, 1, none⟩ = some (.slice bm B.mv.length bn) := K2.out.now.1.2.1.cell 1
  have c12 : w7.cell? ⟨PB, 2, none⟩ = some (.slice bl B.la.length bo) := K2.out.now.1.2.1.cell 2
  go_wp2_with fail
  refine (within_any A B _ _ _ (fun _ => True) (by exact K2.out.now.1.1.2.2) (by exact K2.out.now.1.2.2)).mono ?_
  rintro e w8 hq
  obtain ⟨rfl, hb⟩ := within_good hq FAB.out z1 HZ1.out
  have K3 := hide (K2.out.later hb)
  clear hq hb K2
  clear c00 c01 c02 c10 c11 c12
  go_upto_region 7 with fail
  have c00 : w8.cell? ⟨PA, 0, none⟩ = some (.int .i64 A.st) := K3.out.now.1.1.2.1.cell 0
  have c01 : w8.cell? ⟨PA, 1, none⟩ = some (.slice am A.mv.length an) := K3.out.now.1.1.2.1.cell 1
  have c02 : w8.cell? ⟨PA, 2, none⟩ = some (.slice al A.la.length ao) := K3.out.now.1.1.2.1.cell 2
  go_wp2_with fail
  refine (within_any A A _ _ _ (fun _ => True) (by exact K3.out.now.1.1.2.2) (by exact K3.out.now.1.1.2.2)).mono ?_
  rintro e w9 hq
  obtain ⟨rfl, hb⟩ := within_good hq FAA.out true HAA.out
  have K4 := hide (K3.out.later hb)
  clear hq hb K3
  clear c00 c01 c02
  go_upto_region 8 with fail
  have c00 : w9.cell? ⟨PA, 0, none⟩ = some (.int .i64 A.st) := K4.out.now.1.1.2.1.cell 0
  have c01 : w9.cell? ⟨PA, 1, none⟩ = some (.slice am A.mv.length an) := K4.out.now.1.1.2.1.cell 1
  have c02 : w9.cell? ⟨PA, 2, none⟩ = some (.slice al A.la.length ao) := K4.out.now.1.1.2.1.cell 2
  have c20 : w9.cell? ⟨PT, 0, none⟩ = some (.string t.name) := K4.out.now.2.1.cell 0
  have c21 : w9.cell? ⟨PT, 1, none⟩ = some (.slice tm t.args.length tn) := K4.out.now.2.1.cell 1
  go_wp2_with fail
  refine (accepts_any A t _ _ _ (fun _ => True) (by exact K4.out.now.1.1.2.2) ⟨_, _, rfl, K4.out.now.2.2⟩).mono ?_
  rintro e w10 hq
  obtain ⟨rfl, hb⟩ := acc_good hq HAT.out z2 HZ2.out
  have K5 := hide (K4.out.later hb)
  clear hq hb K4
  clear c00 c01 c02 c20 c21
  go_upto_region 9 with fail
  have c10 : w10.cell? ⟨PB, 0, none⟩ = some (.int .i64 B.st) := K5.out.now.1.2.1.cell 0
  have c11 : w10.cell? ⟨PB, 1, none⟩ = some (.slice bm B.mv.length bn) := K5.out.now.1.2.1.cell 1
  have c12 : w10.cell? ⟨PB, 2, none⟩ = some (.slice bl B.la.length bo) := K5.out.now.1.2.1.cell 2
  have c20 : w10.cell? ⟨PT, 0, none⟩ = some (.string t.name) := K5.out.now.2.1.cell 0
  have c21 : w10.cell? ⟨PT, 1, none⟩ = some (.slice tm t.args.length tn) := K5.out.now.2.1.cell 1
  go_wp2_with fail
  refine (accepts_any B t _ _ _ (fun _ => True) (by exact K5.out.now.1.2.2) ⟨_, _, rfl, K5.out.now.2.2⟩).mono ?_
  rintro e w11 hq
  obtain ⟨rfl, hb⟩ := acc_good hq HBT.out z3 HZ3.out
  have K6 := hide (K5.out.later hb)
  clear hq hb K5
  clear c10 c11 c12 c20 c21
  go_upto_region 10 with fail
  have HNO : Hid (z1 = true → z2 = true → z3 = true) := fun h1 h2 => by rw [HZ3.out]; exact wiB_iff.1 (HZ1.out.symm.trans h1) t (HZ2.out.symm.trans h2)
  go_cut [97] (fun v w' => v = .bool false ∧ w' = w11)
  case first =>
    cases z1 <;> cases z2 <;> cases z3 <;> first | exact (Bool.false_ne_true (HNO.out rfl rfl)).elim | (go_wp2_with fail; go_meet; exact ⟨rfl, rfl⟩)
  case rest =>
  obtain ⟨rfl, hwc⟩ := hcut
  subst hwc
  obtain ⟨w11, hww⟩ : ∃ x, x = wc := ⟨_, rfl⟩
  subst hww
  go_upto_region 12 with fail
  have c00 : w11.cell? ⟨PA, 0, none⟩ = some (.int .i64 A.st) := K6.out.now.1.1.2.1.cell 0
  have c01 : w11.cell? ⟨PA, 1, none⟩ = some (.slice am A.mv.length an) := K6.out.now.1.1.2.1.cell 1
  have c02 : w11.cell? ⟨PA, 2, none⟩ = some (.slice al A.la.length ao) := K6.out.now.1.1.2.1.cell 2
  have c10 : w11.cell? ⟨PB, 0, none⟩ = some (.int .i64 B.st) := K6.out.now.1.2.1.cell 0
  have c11 : w11.cell? ⟨PB, 1, none⟩ = some (.slice bm B.mv.length bn) := K6.out.now.1.2.1.cell 1
  have c12 : w11.cell? ⟨PB, 2, none⟩ = some (.slice bl B.la.length bo) := K6.out.now.1.2.1.cell 2
  go_wp2_with fail
  refine (both_any A B _ _ _ (fun _ => True) (by exact K6.out.now.1.1.2.2) (by exact K6.out.now.1.2.2)).mono ?_
  rintro e w12 hq
  obtain ⟨xm, xn, xl, xo, rfl, hav, hb⟩ := made_good hq EAB.out
  obtain ⟨X1, hX1⟩ : ∃ X1, X1 = prA A B := ⟨_, rfl⟩
  rw [← hX1] at hav ⊢
  have HX1 := hide hX1
  have K7 := hide (EvS.boxA (T := 25) K6.out hb hav)
  clear hq hb hav hX1 K6
  clear c00 c01 c02 c10 c11 c12
  go_upto_region 13 with fail
  generalize w12.heap.size = PX at *
  generalize w12.alloc (.cells #[.int .i64 X1.st, .slice xm X1.mv.length xn, .slice xl X1.la.length xo] 25) = w13 at *
  clear w12
  have c00 : w13.cell? ⟨PA, 0, none⟩ = some (.int .i64 A.st) := K7.out.now.1.1.1.2.1.cell 0
  have c01 : w13.cell? ⟨PA, 1, none⟩ = some (.slice am A.mv.length an) := K7.out.now.1.1.1.2.1.cell 1
  have c02 : w13.cell? ⟨PA, 2, none⟩ = some (.slice al A.la.length ao) := K7.out.now.1.1.1.2.1.cell 2
  have c10 : w13.cell? ⟨PB, 0, none⟩ = some (.int .i64 B.st) := K7.out.now.1.1.2.1.cell 0
  have c11 : w13.cell? ⟨PB, 1, none⟩ = some (.slice bm B.mv.length bn) := K7.out.now.1.1.2.1.cell 1
  have c12 : w13.cell? ⟨PB, 2, none⟩ = some (.slice bl B.la.length bo) := K7.out.now.1.1.2.1.cell 2
  go_wp2_with fail
  refine (either_any A B _ _ _ (fun _ => True) (by exact K7.out.now.1.1.1.2.2) (by exact K7.out.now.1.1.2.2)).mono ?_
  rintro e w14 hq
  obtain ⟨ym, yn, yl, yo, rfl, hav, hb⟩ := made_good hq EAB.out
  obtain ⟨Y1, hY1⟩ : ∃ Y1, Y1 = smA A B := ⟨_, rfl⟩
  rw [← hY1] at hav ⊢
  have HY1 := hide hY1
  have K8 := hide (EvS.boxA (T := 25) K7.out hb hav)
  clear hq hb hav hY1 K7
  clear c00 c01 c02 c10 c11 c12
  go_upto_region 14 with fail
  generalize w14.heap.size = PY at *
  generalize w14.alloc (.cells #[.int .i64 Y1.st, .slice ym Y1.mv.length yn, .slice yl Y1.la.length yo] 25) = w15 at *
  clear w14
  go_upto_region 16 with fail
  have c30 : w15.cell? ⟨PX, 0, none⟩ = some (.int .i64 X1.st) := K8.out.now.1.2.1.cell 0
  have c31 : w15.cell? ⟨PX, 1, none⟩ = some (.slice xm X1.mv.length xn) := K8.out.now.1.2.1.cell 1
  have c32 : w15.cell? ⟨PX, 2, none⟩ = some (.slice xl X1.la.length xo) := K8.out.now.1.2.1.cell 2
  have c40 : w15.cell? ⟨PY, 0, none⟩ = some (.int .i64 Y1.st) := K8.out.now.2.1.cell 0
  have c41 : w15.cell? ⟨PY, 1, none⟩ = some (.slice ym Y1.mv.length yn) := K8.out.now.2.1.cell 1
  have c42 : w15.cell? ⟨PY, 2, none⟩ = some (.slice yl Y1.la.length yo) := K8.out.now.2.1.cell 2
  go_wp2_with fail
  refine (smallAuto_any X1 _ _ (fun _ => True) (by exact K8.out.now.1.2.2)).mono ?_
  rintro e w16 ⟨rfl, hb⟩
  have K9 := hide (K8.out.later hb)
  clear hb K8
  clear c30 c31 c32 c40 c41 c42
  have c30 : w16.cell? ⟨PX, 0, none⟩ = some (.int .i64 X1.st) := K9.out.now.1.2.1.cell 0
  have c31 : w16.cell? ⟨PX, 1, none⟩ = some (.slice xm X1.mv.length xn) := K9.out.now.1.2.1.cell 1
  have c32 : w16.cell? ⟨PX, 2, none⟩ = some (.slice xl X1.la.length xo) := K9.out.now.1.2.1.cell 2
  have c40 : w16.cell? ⟨PY, 0, none⟩ = some (.int .i64 Y1.st) := K9.out.now.2.1.cell 0
  have c41 : w16.cell? ⟨PY, 1, none⟩ = some (.slice ym Y1.mv.length yn) := K9.out.now.2.1.cell 1
  have c42 : w16.cell? ⟨PY, 2, none⟩ = some (.slice yl Y1.la.length yo) := K9.out.now.2.1.cell 2
  by_cases sX1 : smB X1 = true
  case neg =>
    have sX12 : smB X1 = false := by simpa using sX1
    rw [sX12]
    go_wp2_with fail
    go_ret
    exact ⟨rfl, K9.out.now.1.1.1.1.1⟩
  case pos =>
  rw [sX1]
  have SX1 := hide sX1
  clear sX1
  clear c30 c31 c32 c40 c41 c42
  have c30 : w16.cell? ⟨PX, 0, none⟩ = some (.int .i64 X1.st) := K9.out.now.1.2.1.cell 0
  have c31 : w16.cell? ⟨PX, 1, none⟩ = some (.slice xm X1.mv.length xn) := K9.out.now.1.2.1.cell 1
  have c32 : w16.cell? ⟨PX, 2, none⟩ = some (.slice xl X1.la.length xo) := K9.out.now.1.2.1.cell 2
  have c40 : w16.cell? ⟨PY, 0, none⟩ = some (.int .i64 Y1.st) := K9.out.now.2.1.cell 0
  have c41 : w16.cell? ⟨PY, 1, none⟩ = some (.slice ym Y1.mv.length yn) := K9.out.now.2.1.cell 1
  have c42 : w16.cell? ⟨PY, 2, none⟩ = some (.slice yl Y1.la.length yo) := K9.out.now.2.1.cell 2
  go_wp2_with fail
  refine (smallAuto_any Y1 _ _ (fun _ => True) (by exact K9.out.now.2.2)).mono ?_
  rintro e w17 ⟨rfl, hb⟩
  have K10 := hide (K9.out.later hb)
  clear hb K9
  clear c30 c31 c32 c40 c41 c42
  have c30 : w17.cell? ⟨PX, 0, none⟩ = some (.int .i64 X1.st) := K10.out.now.1.2.1.cell 0
  have c31 : w17.cell? ⟨PX, 1, none⟩ = some (.slice xm X1.mv.length xn) := K10.out.now.1.2.1.cell 1
  have c32 : w17.cell? ⟨PX, 2, none⟩ = some (.slice xl X1.la.length xo) := K10.out.now.1.2.1.cell 2
  have c40 : w17.cell? ⟨PY, 0, none⟩ = some (.int .i64 Y1.st) := K10.out.now.2.1.cell 0
  have c41 : w17.cell? ⟨PY, 1, none⟩ = some (.slice ym Y1.mv.length yn) := K10.out.now.2.1.cell 1
  have c42 : w17.cell? ⟨PY, 2, none⟩ = some (.slice yl Y1.la.length yo) := K10.out.now.2.1.cell 2
  by_cases sY1 : smB Y1 = true
  case neg =>
    have sY12 : smB Y1 = false := by simpa using sY1
    rw [sY12]
    go_wp2_with fail
    go_ret
    exact ⟨rfl, K10.out.now.1.1.1.1.1⟩
  case pos =>
  rw [sY1]
  have SY1 := hide sY1
  clear sY1
  clear c30 c31 c32 c40 c41 c42
  have c30 : w17.cell? ⟨PX, 0, none⟩ = some (.int .i64 X1.st) := K10.out.now.1.2.1.cell 0
  have c31 : w17.cell? ⟨PX, 1, none⟩ = some (.slice xm X1.mv.length xn) := K10.out.now.1.2.1.cell 1
  have c32 : w17.cell? ⟨PX, 2, none⟩ = some (.slice xl X1.la.length xo) := K10.out.now.1.2.1.cell 2
  have c40 : w17.cell? ⟨PY, 0, none⟩ = some (.int .i64 Y1.st) := K10.out.now.2.1.cell 0
  have c41 : w17.cell? ⟨PY, 1, none⟩ = some (.slice ym Y1.mv.length yn) := K10.out.now.2.1.cell 1
  have c42 : w17.cell? ⟨PY, 2, none⟩ = some (.slice yl Y1.la.length yo) := K10.out.now.2.1.cell 2
  have hlx : X1.mv.length ≤ 2000 := by rw [HX1.out]; have := (ok_pr OA.out OB.out).1.len; omega
  have hly : Y1.mv.length ≤ 2000 := by rw [HY1.out]; have := (ok_sm OA.out OB.out).1.len; omega
  by_cases hx40 : (40 : Int) < (X1.mv.length : Int)
  case pos =>
    go_wp2_with fail
    go_ret
    exact ⟨rfl, K10.out.now.1.1.1.1.1⟩
  case neg =>
  by_cases hy40 : (40 : Int) < (Y1.mv.length : Int)
  case pos =>
    go_wp2_with fail
    go_ret
    exact ⟨rfl, K10.out.now.1.1.1.1.1⟩
  case neg =>
  go_upto_region 18 with fail
  have OX : Hid (OkAu 8 40 X1) := small_ok (S := 64) (M := 1600) (by rw [HX1.out]; exact (ok_pr OA.out OB.out).1) SX1.out (by omega)
  have OY : Hid (OkAu 8 40 Y1) := small_ok (S := 64) (M := 1600) (by rw [HY1.out]; exact (ok_sm OA.out OB.out).1) SY1.out (by omega)
  have HXA : Hid (true = wiB X1 A) := (wiB_iff.2 fun t h => by rw [HX1.out, acc_pr OA.out OB.out, Bool.and_eq_true] at h; exact h.1).symm
  have HXB : Hid (true = wiB X1 B) := (wiB_iff.2 fun t h => by rw [HX1.out, acc_pr OA.out OB.out, Bool.and_eq_true] at h; exact h.2).symm
  have HAY : Hid (true = wiB A Y1) := (wiB_iff.2 fun t h => by rw [HY1.out, acc_sm OA.out OB.out, h, Bool.true_or]).symm
  have HBY : Hid (true = wiB B Y1) := (wiB_iff.2 fun t h => by rw [HY1.out, acc_sm OA.out OB.out, h, Bool.or_true]).symm
  have FXA := hide (few_two OX.out SX1.out OA.out SA.out)
  have FXB := hide (few_two OX.out SX1.out OB.out SB.out)
  have FAY := hide (few_two OA.out SA.out OY.out SY1.out)
  have FBY := hide (few_two OB.out SB.out OY.out SY1.out)
  clear hlx hly hx40 hy40
  clear c30 c31 c32 c40 c41 c42
  have c30 : w17.cell? ⟨PX, 0, none⟩ = some (.int .i64 X1.st) := K10.out.now.1.2.1.cell 0
  have c31 : w17.cell? ⟨PX, 1, none⟩ = some (.slice xm X1.mv.length xn) := K10.out.now.1.2.1.cell 1
  have c32 : w17.cell? ⟨PX, 2, none⟩ = some (.slice xl X1.la.length xo) := K10.out.now.1.2.1.cell 2
  have c00 : w17.cell? ⟨PA, 0, none⟩ = some (.int .i64 A.st) := K10.out.now.1.1.1.1.2.1.cell 0
  have c01 : w17.cell? ⟨PA, 1, none⟩ = some (.slice am A.mv.length an) := K10.out.now.1.1.1.1.2.1.cell 1
  have c02 : w17.cell? ⟨PA, 2, none⟩ = some (.slice al A.la.length ao) := K10.out.now.1.1.1.1.2.1.cell 2
  go_wp2_with fail
  refine (within_any X1 A _ _ _ (fun _ => True) (by exact K10.out.now.1.2.2) (by exact K10.out.now.1.1.1.1.2.2)).mono ?_
  rintro e w18 hq
  obtain ⟨rfl, hb⟩ := within_good hq FXA.out true HXA.out
  have K11 := hide (K10.out.later hb)
  clear hq hb K10
  clear c30 c31 c32 c00 c01 c02
  go_upto_region 19 with fail
  have c30 : w18.cell? ⟨PX, 0, none⟩ = some (.int .i64 X1.st) := K11.out.now.1.2.1.cell 0
  have c31 : w18.cell? ⟨PX, 1, none⟩ = some (.slice xm X1.mv.length xn) := K11.out.now.1.2.1.cell 1
  have c32 : w18.cell? ⟨PX, 2, none⟩ = some (.slice xl X1.la.length xo) := K11.out.now.1.2.1.cell 2
  have c10 : w18.cell? ⟨PB, 0, none⟩ = some (.int .i64 B.st) := K11.out.now.1.1.1.2.1.cell 0
  have c11 : w18.cell? ⟨PB, 1, none⟩ = some (.slice bm B.mv.length bn) := K11.out.now.1.1.1.2.1.cell 1
  have c12 : w18.cell? ⟨PB, 2, none⟩ = some (.slice bl B.la.length bo) := K11.out.now.1.1.1.2.1.cell 2
  go_wp2_with fail
  refine (within_any X1 B _ _ _ (fun _ => True) (by exact K11.out.now.1.2.2) (by exact K11.out.now.1.1.1.2.2)).mono ?_
  rintro e w19 hq
  obtain ⟨rfl, hb⟩ := within_good hq FXB.out true HXB.out
  have K12 := hide (K11.out.later hb)
  clear hq hb K11
  clear c30 c31 c32 c10 c11 c12
  go_upto_region 20 with fail
  have c00 : w19.cell? ⟨PA, 0, none⟩ = some (.int .i64 A.st) := K12.out.now.1.1.1.1.2.1.cell 0
  have c01 : w19.cell? ⟨PA, 1, none⟩ = some (.slice am A.mv.length an) := K12.out.now.1.1.1.1.2.1.cell 1
  have c02 : w19.cell? ⟨PA, 2, none⟩ = some (.slice al A.la.length ao) := K12.out.now.1.1.1.1.2.1.cell 2
  have c40 : w19.cell? ⟨PY, 0, none⟩ = some (.int .i64 Y1.st) := K12.out.now.2.1.cell 0
  have c41 : w19.cell? ⟨PY, 1, none⟩ = some (.slice ym Y1.mv.length yn) := K12.out.now.2.1.cell 1
  have c42 : w19.cell? ⟨PY, 2, none⟩ = some (.slice yl Y1.la.length yo) := K12.out.now.2.1.cell 2
  go_wp2_with fail
  refine (within_any A Y1 _ _ _ (fun _ => True) (by exact K12.out.now.1.1.1.1.2.2) (by exact K12.out.now.2.2)).mono ?_
  rintro e w20 hq
  obtain ⟨rfl, hb⟩ := within_good hq FAY.out true HAY.out
  have K13 := hide (K12.out.later hb)
  clear hq hb K12
  clear c00 c01 c02 c40 c41 c42
  go_upto_region 21 with fail
  have c10 : w20.cell? ⟨PB, 0, none⟩ = some (.int .i64 B.st) := K13.out.now.1.1.1.2.1.cell 0
  have c11 : w20.cell? ⟨PB, 1, none⟩ = some (.slice bm B.mv.length bn) := K13.out.now.1.1.1.2.1.cell 1
  have c12 : w20.cell? ⟨PB, 2, none⟩ = some (.slice bl B.la.length bo) := K13.out.now.1.1.1.2.1.cell 2
  have c40 : w20.cell? ⟨PY, 0, none⟩ = some (.int .i64 Y1.st) := K13.out.now.2.1.cell 0
  have c41 : w20.cell? ⟨PY, 1, none⟩ = some (.slice ym Y1.mv.length yn) := K13.out.now.2.1.cell 1
  have c42 : w20.cell? ⟨PY, 2, none⟩ = some (.slice yl Y1.la.length yo) := K13.out.now.2.1.cell 2
  go_wp2_with fail
  refine (within_any B Y1 _ _ _ (fun _ => True) (by exact K13.out.now.1.1.1.2.2) (by exact K13.out.now.2.2)).mono ?_
  rintro e w21 hq
  obtain ⟨rfl, hb⟩ := within_good hq FBY.out true HBY.out
  have K14 := hide (K13.out.later hb)
  clear hq hb K13
  clear c10 c11 c12 c40 c41 c42
  go_wp2_with fail
  go_ret
  exact ⟨rfl, K14.out.now.1.1.1.1.1⟩
end Go.Proofs.Ytheknfgkilckfaa
