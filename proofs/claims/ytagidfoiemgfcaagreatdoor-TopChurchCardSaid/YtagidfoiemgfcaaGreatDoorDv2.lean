/- Walks: the code's develop. -/
import Derived.Test.YtagidfoiemgfcaaGreatDoorDv1
import Derived.Test.YtagidfoiemgfcaaGreatDoorLn9c
import Derived.Test.YtagidfoiemgfcaaGreatDoorZCTopChurchOwn
namespace Go.Proofs.YtagidfoiemgfcaaGreatDoor
open Go.RowKit Go.Shelf
set_option linter.unusedSimpArgs false
set_option linter.unusedVariables false
set_option maxRecDepth 8000

/-- What develop answers. -/
def DvPost (n : Nat) (t : Lm) (w : World) (e : Ending) (w' : World) : Prop :=
  Below w.heap.size w w' ∧ ((∃ t' a c, devT n t = some t' ∧ e = .returned (.tuple #[.agg #[.int .i64 t'.kind, .int .i64 t'.idx, .slice a t'.subs.length c], .bool true]) ∧ SlM w' (fun b => w.heap.size ≤ b) a t'.subs) ∨
    (devT n t = none ∧ ∃ k x a l c, e = .returned (.tuple #[.agg #[.int .i64 k, .int .i64 x, .slice a l c], .bool false])))
def DvAt (n : Nat) (t : Lm) : Prop := ∀ (v : Value) (w : World) (X : Nat → Prop), MV w X v t → Calls Tryz.prog 22 #[v] w fun e w' => DvPost n t w e w'
theorem devL_two {f : Lm → Option Lm} {a b a' b' : Lm} (ha : f a = some a') (hb : f b = some b') : devL f [a, b] = some [a', b'] := by simp [devL, ha, hb]
theorem devL_two0 {f : Lm → Option Lm} {a b : Lm} (ha : f a = none) : devL f [a, b] = none := by simp [devL, ha]
theorem devL_two1 {f : Lm → Option Lm} {a b : Lm} (hb : f b = none) : devL f [a, b] = none := by
  simp only [devL, hb]
  cases f a <;> rfl
theorem dv_small {u : Int} {n : Nat} {t t' : Lm} (hu : 0 ≤ u) (hu2 : u ≤ 42000) (he : errM u 0 [t] = 0) (h : devT n t = some t') : GdM u t' := by
  obtain ⟨h1, h2⟩ := err_dev 0 n t t' u hu he h
  exact ⟨hu, by omega, h1, h2⟩
theorem gd_body {u fi : Int} {b : Lm} (h : GdM u ⟨2, fi, [b]⟩) : GdM (u + 1) b := by
  have := h.subs (y := b) (by simp)
  simpa [deepK] using this

set_option maxHeartbeats 4000000 in
theorem devStep_any (n : Nat) (u xi fi : Int) (b z : Lm) (hu : 0 ≤ u) (hu2 : u ≤ 40000) (hef : errM u 0 [⟨2, fi, [b]⟩] = 0) (hez : errM u 0 [z] = 0) (IHf : DvAt n ⟨2, fi, [b]⟩) (IHz : DvAt n z) (v x : Value) (w : World) (X : Nat → Prop) (hv : MV w X v ⟨2, fi, [b]⟩) (hx : MV w X x z) :
    Calls Tryz.prog 44 #[v, x] w fun e w' => DvPost (n + 1) ⟨3, xi, [⟨2, fi, [b]⟩, z]⟩ w e w' := by
  have HRD : Hid (rdxT ⟨3, xi, [⟨2, fi, [b]⟩, z]⟩ = true) := by unfold Hid rdxT; simp
  obtain ⟨a, c, rfl, hs⟩ := hv
  obtain ⟨ax, cx, rfl, hsx⟩ := hx
  dsimp only at hs
  obtain ⟨W0, hW0⟩ : ∃ W0, W0 = (((w.alloc (.cells #[.int .i64 2, .int .i64 fi, .slice a 1 c] 26)).alloc (.cells #[.int .i64 z.kind, .int .i64 z.idx, .slice ax z.subs.length cx] 26)).alloc (.cells #[.int .i64 0, .int .i64 0, .slice none 0 0] 26)) := ⟨_, rfl⟩
  have HB0 : Hid (Below w.heap.size w W0) := by unfold Hid; rw [hW0]; exact (below2M _ _).alloc (by simp; omega) _
  have HF0 : Hid (Blk W0 w.heap.size #[.int .i64 2, .int .i64 fi, .slice a 1 c] 26) := by unfold Hid; rw [hW0]; exact ((Blk.new w _ _).alloc _).alloc _
  have HX0 : Hid (Blk W0 (w.heap.size + 1) #[.int .i64 z.kind, .int .i64 z.idx, .slice ax z.subs.length cx] 26) := by
    have h := (Blk.new (w.alloc (.cells #[.int .i64 2, .int .i64 fi, .slice a 1 c] 26)) #[.int .i64 z.kind, .int .i64 z.idx, .slice ax z.subs.length cx] 26).alloc (.cells #[.int .i64 0, .int .i64 0, .slice none 0 0] 26)
    unfold Hid
    rw [hW0]
    simpa using h
  have HR0 : Hid (Blk W0 (w.heap.size + 1 + 1) #[.int .i64 0, .int .i64 0, .slice none 0 0] 26) := by
    have h := Blk.new ((w.alloc (.cells #[.int .i64 2, .int .i64 fi, .slice a 1 c] 26)).alloc (.cells #[.int .i64 z.kind, .int .i64 z.idx, .slice ax z.subs.length cx] 26)) #[.int .i64 0, .int .i64 0, .slice none 0 0] 26
    unfold Hid
    rw [hW0]
    simpa using h
  have hz0 : W0.heap.size = w.heap.size + 3 := by rw [hW0]; simp
  have HVF : Hid (MV W0 (fun b => X b ∧ b < w.heap.size) (.agg #[.int .i64 2, .int .i64 fi, .slice a 1 c]) ⟨2, fi, [b]⟩) := ⟨a, c, rfl, (hs.mono (Y := fun b => X b ∧ b < w.heap.size) fun b h1 h2 => ⟨h1, h2⟩).later HB0.out⟩
  have HVX : Hid (MV W0 (fun b => X b ∧ b < w.heap.size) (.agg #[.int .i64 z.kind, .int .i64 z.idx, .slice ax z.subs.length cx]) z) := ⟨ax, cx, rfl, (hsx.mono (Y := fun b => X b ∧ b < w.heap.size) fun b h1 h2 => ⟨h1, h2⟩).later HB0.out⟩
  have HW0 := hide hW0
  have HIF := hide IHf
  have HIZ := hide IHz
  have HEF := hide hef
  have HEZ := hide hez
  clear hs hsx hW0 IHf IHz hef hez
  go_enter Tryz.func44, Tryz.ntmps44
  go_wp2_with fail
  rw [← HW0.out]
  clear HW0
  refine (HIF.out _ W0 _ HVF.out).mono ?_
  rintro e w1 ⟨hb1, hcase⟩
  have hz1 : w.heap.size + 3 ≤ w1.heap.size := by have := hb1.size; omega
  have HB1 := hide (HB0.out.trans (hb1.mono (by omega)))
  have HX1 := hide (HX0.out.below hb1 (by omega))
  have HR1 := hide (HR0.out.below hb1 (by omega))
  have HF1 := hide (HF0.out.below hb1 (by omega))
  have HVX1 := hide (HVX.out.later hb1)
  have f0 : w1.cell? ⟨w.heap.size, 0, none⟩ = some (.int .i64 2) := HF1.out.cell 0
  have f1 : w1.cell? ⟨w.heap.size, 1, none⟩ = some (.int .i64 fi) := HF1.out.cell 1
  have f2 : w1.cell? ⟨w.heap.size, 2, none⟩ = some (.slice a 1 c) := HF1.out.cell 2
  have ff := HF1.out.frozen
  clear HB0 HF0 HX0 HR0 HVF HVX
  rcases hcase with ⟨t1, a1, c1, hd1, rfl, hs1⟩ | ⟨hd1, k1, x1, a1, l1, c1, rfl⟩
  case inr =>
    have HN : Hid (devT (n + 1) ⟨3, xi, [⟨2, fi, [b]⟩, z]⟩ = none) := devT_none (devL_two0 hd1)
    have BF := hide (bl_set3 HB1.out w.heap.size (Nat.le_refl _) (.int .i64 k1) (.int .i64 x1) (.slice a1 l1 c1))
    have RF := hide (blk_set3o HR1.out (B := w.heap.size) (by omega) (.int .i64 k1) (.int .i64 x1) (.slice a1 l1 c1))
    have r0 := RF.out.cell 0
    have r1 := RF.out.cell 1
    have r2 := RF.out.cell 2
    have rf := RF.out.frozen
    simp only [List.getElem?_toArray, List.getElem?_cons_succ, List.getElem?_cons_zero] at r0 r1 r2
    clear hd1 hb1
    go_wp2_with fail
    refine bodyPost_ret (v := .tuple #[.agg #[.int .i64 0, .int .i64 0, .slice none 0 0], .bool false]) (by simp [results, Tryz.results44, go_sem, World.cell?_setCell_same, World.cell?_setCell_other, r0, r1, r2]) rfl ?_
    exact ⟨bl_set3 BF.out _ (by omega) _ _ _, Or.inr ⟨HN.out, _, _, _, _, _, rfl⟩⟩
  case inl =>
    obtain ⟨b', rfl⟩ := devT_lam hd1
    have HD1 := hide hd1
    have HGF := hide (gd_body (dv_small hu (by omega) HEF.out hd1))
    have HS1 : Hid (SlM w1 (fun b => w.heap.size + 3 ≤ b) a1 [b']) := hs1.mono fun b h _ => by omega
    have HB2 := hide (bl_set3 HB1.out w.heap.size (Nat.le_refl _) (.int .i64 2) (.int .i64 fi) (.slice a1 1 c1))
    have HX2 := hide (blk_set3o HX1.out (B := w.heap.size) (by omega) (.int .i64 2) (.int .i64 fi) (.slice a1 1 c1))
    have HR2 := hide (blk_set3o HR1.out (B := w.heap.size) (by omega) (.int .i64 2) (.int .i64 fi) (.slice a1 1 c1))
    have HF2 := hide (blk_set3 HF1.out (.int .i64 2) (.int .i64 fi) (.slice a1 1 c1))
    have hz2 : (((w1.setCell ⟨w.heap.size, 0, none⟩ (.int .i64 2)).setCell ⟨w.heap.size, 1, none⟩ (.int .i64 fi)).setCell ⟨w.heap.size, 2, none⟩ (.slice a1 1 c1)).heap.size = w1.heap.size := by simp [World.setCell]
    have HS2 : Hid (SlM (((w1.setCell ⟨w.heap.size, 0, none⟩ (.int .i64 2)).setCell ⟨w.heap.size, 1, none⟩ (.int .i64 fi)).setCell ⟨w.heap.size, 2, none⟩ (.slice a1 1 c1)) (fun b => w.heap.size + 3 ≤ b) a1 [b']) := HS1.out.kept fun q hq => by
      rw [Below.heap_setCell _ _ _ _ (by simp; omega), Below.heap_setCell _ _ _ _ (by simp; omega), Below.heap_setCell _ _ _ _ (by simp; omega)]
    have HVX2 : Hid (MV (((w1.setCell ⟨w.heap.size, 0, none⟩ (.int .i64 2)).setCell ⟨w.heap.size, 1, none⟩ (.int .i64 fi)).setCell ⟨w.heap.size, 2, none⟩ (.slice a1 1 c1)) (fun b => X b ∧ b < w.heap.size) (.agg #[.int .i64 z.kind, .int .i64 z.idx, .slice ax z.subs.length cx]) z) := by
      obtain ⟨p, q, e, h⟩ := HVX1.out
      refine ⟨p, q, e, h.kept fun q hq => ?_⟩
      rw [Below.heap_setCell _ _ _ _ (by simp; omega), Below.heap_setCell _ _ _ _ (by simp; omega), Below.heap_setCell _ _ _ _ (by simp; omega)]
    have x0 := HX2.out.cell 0
    have x1' := HX2.out.cell 1
    have x2 := HX2.out.cell 2
    simp only [List.getElem?_toArray, List.getElem?_cons_succ, List.getElem?_cons_zero] at x0 x1' x2
    clear hd1 hs1 hb1
    go_wp2_with fail
    generalize (((w1.setCell ⟨w.heap.size, 0, none⟩ (.int .i64 2)).setCell ⟨w.heap.size, 1, none⟩ (.int .i64 fi)).setCell ⟨w.heap.size, 2, none⟩ (.slice a1 1 c1)) = w2 at *
    refine (HIZ.out _ w2 _ HVX2.out).mono ?_
    rintro e w3 ⟨hb3, hcase⟩
    have hz3 : w.heap.size + 3 ≤ w3.heap.size := by have := hb3.size; omega
    have HB3 := hide (HB2.out.trans (hb3.mono (by omega)))
    have HX3 := hide (HX2.out.below hb3 (by omega))
    have HR3 := hide (HR2.out.below hb3 (by omega))
    have HF3 := hide (HF2.out.below hb3 (by omega))
    have HS3 := hide (HS2.out.later hb3)
    have g0 : w3.cell? ⟨w.heap.size + 1, 0, none⟩ = some (.int .i64 z.kind) := HX3.out.cell 0
    have g1 : w3.cell? ⟨w.heap.size + 1, 1, none⟩ = some (.int .i64 z.idx) := HX3.out.cell 1
    have g2 : w3.cell? ⟨w.heap.size + 1, 2, none⟩ = some (.slice ax z.subs.length cx) := HX3.out.cell 2
    have gf := HX3.out.frozen
    clear f0 f1 f2 ff x0 x1' x2 HB1 HX1 HR1 HF1 HVX1 HS1 HX2 HR2 HF2 HVX2 HS2
    rcases hcase with ⟨t3, a3, c3, hd3, rfl, hs3⟩ | ⟨hd3, k3, x3, a3, l3, c3, rfl⟩
    case inr =>
      have HN : Hid (devT (n + 1) ⟨3, xi, [⟨2, fi, [b]⟩, z]⟩ = none) := devT_none (devL_two1 hd3)
      have BF := hide (bl_set3 HB3.out (w.heap.size + 1) (by omega) (.int .i64 k3) (.int .i64 x3) (.slice a3 l3 c3))
      have RF := hide (blk_set3o HR3.out (B := w.heap.size + 1) (by omega) (.int .i64 k3) (.int .i64 x3) (.slice a3 l3 c3))
      have r0 := RF.out.cell 0
      have r1 := RF.out.cell 1
      have r2 := RF.out.cell 2
      have rf := RF.out.frozen
      simp only [List.getElem?_toArray, List.getElem?_cons_succ, List.getElem?_cons_zero] at r0 r1 r2
      clear hd3 hb3
      go_wp2_with fail
      refine bodyPost_ret (v := .tuple #[.agg #[.int .i64 0, .int .i64 0, .slice none 0 0], .bool false]) (by simp [results, Tryz.results44, go_sem, World.cell?_setCell_same, World.cell?_setCell_other, r0, r1, r2]) rfl ?_
      exact ⟨bl_set3 BF.out _ (by omega) _ _ _, Or.inr ⟨HN.out, _, _, _, _, _, rfl⟩⟩
    case inl =>
      have HGZ := hide (dv_small hu (by omega) HEZ.out hd3)
      have HDL : Hid (devT (n + 1) ⟨3, xi, [⟨2, fi, [b]⟩, z]⟩ = if 2000 < sizeM [insT t3 0 b'] then none else some (insT t3 0 b')) := by
        unfold Hid
        rw [devT_succ (devL_two HD1.out hd3)]
        have e : devK 3 xi [⟨2, fi, [b]⟩, z] [⟨2, fi, [b']⟩, t3] = insT t3 0 b' := by unfold devK; rw [if_pos HRD.out]; rfl
        rw [e]
      have BF := hide (bl_set3 HB3.out (w.heap.size + 1) (by omega) (.int .i64 t3.kind) (.int .i64 t3.idx) (.slice a3 t3.subs.length c3))
      have RF := hide (blk_set3o HR3.out (B := w.heap.size + 1) (by omega) (.int .i64 t3.kind) (.int .i64 t3.idx) (.slice a3 t3.subs.length c3))
      have FF := hide (blk_set3o HF3.out (B := w.heap.size + 1) (by omega) (.int .i64 t3.kind) (.int .i64 t3.idx) (.slice a3 t3.subs.length c3))
      have XF := hide (blk_set3 HX3.out (.int .i64 t3.kind) (.int .i64 t3.idx) (.slice a3 t3.subs.length c3))
      have hz4 : (((w3.setCell ⟨w.heap.size + 1, 0, none⟩ (.int .i64 t3.kind)).setCell ⟨w.heap.size + 1, 1, none⟩ (.int .i64 t3.idx)).setCell ⟨w.heap.size + 1, 2, none⟩ (.slice a3 t3.subs.length c3)).heap.size = w3.heap.size := by simp [World.setCell]
      have keep : ∀ q, w.heap.size + 3 ≤ q → (((w3.setCell ⟨w.heap.size + 1, 0, none⟩ (.int .i64 t3.kind)).setCell ⟨w.heap.size + 1, 1, none⟩ (.int .i64 t3.idx)).setCell ⟨w.heap.size + 1, 2, none⟩ (.slice a3 t3.subs.length c3)).heap[q]? = w3.heap[q]? := fun q hq => by
        rw [Below.heap_setCell _ _ _ _ (by simp; omega), Below.heap_setCell _ _ _ _ (by simp; omega), Below.heap_setCell _ _ _ _ (by simp; omega)]
      have SB := hide (HS3.out.kept fun q hq => keep q hq)
      have SZ : Hid (SlM (((w3.setCell ⟨w.heap.size + 1, 0, none⟩ (.int .i64 t3.kind)).setCell ⟨w.heap.size + 1, 1, none⟩ (.int .i64 t3.idx)).setCell ⟨w.heap.size + 1, 2, none⟩ (.slice a3 t3.subs.length c3)) (fun b => w.heap.size + 3 ≤ b) a3 t3.subs) := (hs3.mono fun b h _ => by omega).kept fun q hq => keep q hq
      clear hd3 hs3 hb3 keep
      go_upto_region 7 with fail
      generalize (((w3.setCell ⟨w.heap.size + 1, 0, none⟩ (.int .i64 t3.kind)).setCell ⟨w.heap.size + 1, 1, none⟩ (.int .i64 t3.idx)).setCell ⟨w.heap.size + 1, 2, none⟩ (.slice a3 t3.subs.length c3)) = w4 at *
      obtain ⟨B, o, a5, c5, rfl, hXB, d0, d1, d2, hs5⟩ := slM_one SB.out
      have hBl := cell_ltM d0
      have HS0 : Hid (w4.cell? ⟨w.heap.size, 2, none⟩ = some (.slice (some ⟨B, o, none⟩) 1 c1) ∧ w4.cell? ⟨B, o, none⟩ = some (.int .i64 b'.kind) ∧ w4.cell? ⟨B, o + 1, none⟩ = some (.int .i64 b'.idx) ∧ w4.cell? ⟨B, o + 2, none⟩ = some (.slice a5 b'.subs.length c5) ∧ w4.cell? ⟨w.heap.size + 1, 0, none⟩ = some (.int .i64 t3.kind) ∧ w4.cell? ⟨w.heap.size + 1, 1, none⟩ = some (.int .i64 t3.idx) ∧ w4.cell? ⟨w.heap.size + 1, 2, none⟩ = some (.slice a3 t3.subs.length c3)) := ⟨FF.out.cell 2, d0, d1, d2, XF.out.cell 0, XF.out.cell 1, XF.out.cell 2⟩
      have KP : Hid (∀ w', Below w4.heap.size w4 w' → w'.cell? ⟨w.heap.size, 2, none⟩ = some (.slice (some ⟨B, o, none⟩) 1 c1) ∧ w'.cell? ⟨B, o, none⟩ = some (.int .i64 b'.kind) ∧ w'.cell? ⟨B, o + 1, none⟩ = some (.int .i64 b'.idx) ∧ w'.cell? ⟨B, o + 2, none⟩ = some (.slice a5 b'.subs.length c5) ∧ w'.cell? ⟨w.heap.size + 1, 0, none⟩ = some (.int .i64 t3.kind) ∧ w'.cell? ⟨w.heap.size + 1, 1, none⟩ = some (.int .i64 t3.idx) ∧ w'.cell? ⟨w.heap.size + 1, 2, none⟩ = some (.slice a3 t3.subs.length c3)) := fun w' hb => by
        have hh := HS0.out
        exact ⟨(hb.cell (p := ⟨w.heap.size, 2, none⟩) (by simp; omega)).trans hh.1, (hb.cell (p := ⟨B, o, none⟩) hBl).trans hh.2.1, (hb.cell (p := ⟨B, o + 1, none⟩) hBl).trans hh.2.2.1, (hb.cell (p := ⟨B, o + 2, none⟩) hBl).trans hh.2.2.2.1, (hb.cell (p := ⟨w.heap.size + 1, 0, none⟩) (by simp; omega)).trans hh.2.2.2.2.1, (hb.cell (p := ⟨w.heap.size + 1, 1, none⟩) (by simp; omega)).trans hh.2.2.2.2.2.1, (hb.cell (p := ⟨w.heap.size + 1, 2, none⟩) (by simp; omega)).trans hh.2.2.2.2.2.2⟩
      have HD : Hid (Below w4.heap.size w4 w4.drew) := (Below.refl _ _).drew
      have PUT : Hid (∀ w', Below w4.heap.size w4 w' → Calls Tryz.prog 60 #[.agg #[.int .i64 b'.kind, .int .i64 b'.idx, .slice a5 b'.subs.length c5], .agg #[.int .i64 t3.kind, .int .i64 t3.idx, .slice a3 t3.subs.length c3], .int .i64 2000] w' fun e w'' => ∃ y ok a c, e = .returned (.tuple #[.agg #[.int .i64 y.kind, .int .i64 y.idx, .slice a y.subs.length c], .bool ok]) ∧ SlM w'' (fun b => w4.heap.size ≤ b) a y.subs ∧ Below w4.heap.size w4 w'' ∧ (ok = true → y = insT t3 0 b' ∧ sizeM [insT t3 0 b'] ≤ 2000) ∧ (ok = false → 2000 < sizeM [insT t3 0 b'])) := fun w' hb => by
        obtain ⟨p1, p2, p3, p4⟩ := HGF.out
        obtain ⟨k1, k2, k3, k4⟩ := HGZ.out
        refine (bPut_any b' t3 _ _ w' (fun _ => True) ⟨a5, c5, rfl, (hs5.later hb).mono fun _ _ _ => trivial⟩ ⟨a3, c3, rfl, (SZ.out.later hb).mono fun _ _ _ => trivial⟩ (by omega) (bnd_of_err _ _ _ p1 (by omega) (by omega) p3) (lf_of_err _ _ _ p3) (by omega) (bnd_of_err _ _ _ k1 (by omega) (by omega) k3) (lf_of_err _ _ _ k3)).mono ?_
        rintro e w'' ⟨h1, ⟨h2, p, q, rfl, h3⟩ | ⟨h2, rfl⟩⟩
        · exact ⟨_, true, p, q, rfl, h3.mono fun b h _ => Nat.le_trans hb.size h, hb.trans (h1.mono hb.size), fun _ => ⟨rfl, h2⟩, by simp⟩
        · exact ⟨⟨0, 0, []⟩, false, none, 0, rfl, ⟨by simp, Or.inl rfl⟩, hb.trans (h1.mono hb.size), by simp, fun _ => h2⟩
      have HR4 : Hid (∀ w', Below w4.heap.size w4 w' → Blk w' (w.heap.size + 1 + 1) #[.int .i64 0, .int .i64 0, .slice none 0 0] 26) := fun w' hb => RF.out.below hb (by omega)
      have nW : w.heap.size ≠ w.heap.size + 1 + 1 := by omega
      have nX : w.heap.size + 1 ≠ w.heap.size + 1 + 1 := by omega
      have nB : B ≠ w.heap.size + 1 + 1 := by omega
      clear g0 g1 g2 gf d0 d1 d2 hs5 HX3 HR3 HF3 HS3
      go_region_held3 (fun w' => w'.cell? ⟨w.heap.size, 2, none⟩ = some (.slice (some ⟨B, o, none⟩) 1 c1) ∧ w'.cell? ⟨B, o, none⟩ = some (.int .i64 b'.kind) ∧ w'.cell? ⟨B, o + 1, none⟩ = some (.int .i64 b'.idx) ∧ w'.cell? ⟨B, o + 2, none⟩ = some (.slice a5 b'.subs.length c5) ∧ w'.cell? ⟨w.heap.size + 1, 0, none⟩ = some (.int .i64 t3.kind) ∧ w'.cell? ⟨w.heap.size + 1, 1, none⟩ = some (.int .i64 t3.idx) ∧ w'.cell? ⟨w.heap.size + 1, 2, none⟩ = some (.slice a3 t3.subs.length c3)) (first | exact hS | exact HS0.out | exact ⟨set3_keep hS.1 nW, set3_keep hS.2.1 nB, set3_keep hS.2.2.1 nB, set3_keep hS.2.2.2.1 nB, set3_keep hS.2.2.2.2.1 nX, set3_keep hS.2.2.2.2.2.1 nX, set3_keep hS.2.2.2.2.2.2 nX⟩ | go_keep)
        (first | (go_at_call 60; refine (PUT.out _ (by first | exact Below.refl _ _ | exact HD.out)).mono ?_; rintro e w5 ⟨y, ok, a6, c6, rfl, hs6, hb5, hok, hno⟩; have hS := KP.out _ hb5; have RB := HR4.out _ hb5; have r0 : w5.cell? ⟨w.heap.size + 1 + 1, 0, none⟩ = some (.int .i64 0) := RB.cell 0; have r1 : w5.cell? ⟨w.heap.size + 1 + 1, 1, none⟩ = some (.int .i64 0) := RB.cell 1; have r2 : w5.cell? ⟨w.heap.size + 1 + 1, 2, none⟩ = some (.slice none 0 0) := RB.cell 2; have rf := RB.frozen))
      all_goals
        have HOK := hide (And.intro hok hno)
        have H6 := hide hs6
        have HB6 := hide (BF.out.trans (hb5.mono (by omega)))
        clear hok hno hs6 hS
      all_goals go_wp2_with fail
      all_goals refine bodyPost_ret (v := .tuple #[.agg #[.int .i64 y.kind, .int .i64 y.idx, .slice a6 y.subs.length c6], .bool ok]) (by simp [results, Tryz.results44, go_sem, World.cell?_setCell_same, World.cell?_setCell_other, r0, r1, r2]) rfl ?_
      all_goals
        refine ⟨bl_set3 HB6.out _ (by omega) _ _ _, ?_⟩
        cases ok with
        | true =>
          obtain ⟨e1, e2⟩ := HOK.out.1 rfl
          subst e1
          refine Or.inl ⟨_, a6, c6, by rw [HDL.out, if_neg (by omega)], rfl, (H6.out.kept fun q hq => ?_).mono fun b h _ => by omega⟩
          rw [Below.heap_setCell _ _ _ _ (by simp; omega), Below.heap_setCell _ _ _ _ (by simp; omega), Below.heap_setCell _ _ _ _ (by simp; omega)]
        | false => exact Or.inr ⟨by rw [HDL.out, if_pos (HOK.out.2 rfl)], _, _, _, _, _, rfl⟩
end Go.Proofs.YtagidfoiemgfcaaGreatDoor
