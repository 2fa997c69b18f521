/- Several texts in one. -/
import Derived.Test.YtnllgbcakmddkaaGreatDoorZJTopTakahashiOwn
import Derived.Test.YtnllgbcakmddkaaGreatDoorZPTopTakahashiOwn
import Derived.Test.YtnllgbcakmddkaaGreatDoorLn4
import Derived.Test.YtnllgbcakmddkaaGreatDoorZTopTakahashiOwn
import Derived.Test.YtnllgbcakmddkaaGreatDoorZITopTakahashiOwn
/- Walks: the code's develop. -/
namespace Go.Proofs.YtnllgbcakmddkaaGreatDoor
open Go.RowKit Go.Shelf
set_option linter.unusedSimpArgs false
set_option linter.unusedVariables false
set_option maxRecDepth 8000

/-- What develop answers. -/
def DvPost (n : Nat) (t : Lm) (w : World) (e : Ending) (w' : World) : Prop :=
  Below w.heap.size w w' ∧ ((∃ t' a c, devT n t = some t' ∧ e = .returned (.tuple #[.agg #[.int .i64 t'.kind, .int .i64 t'.idx, .slice a t'.subs.length c], .bool true]) ∧ SlM w' (fun b => w.heap.size ≤ b) a t'.subs) ∨
    (devT n t = none ∧ ∃ k x a l c, e = .returned (.tuple #[.agg #[.int .i64 k, .int .i64 x, .slice a l c], .bool false])))
def DvAt (n : Nat) (t : Lm) : Prop := ∀ (v : Value) (w : World) (X : Nat → Prop), MV w X v t → Calls Tryz.prog 16 #[v] w fun e w' => DvPost n t w e w'
theorem devL_two {f : Lm → Option Lm} {a b a' b' : Lm} (ha : f a = some a') (hb : f b = some b') : devL f [a, b] = some [a', b'] := by simp [devL, ha, hb]
theorem devL_two0 {f : Lm → Option Lm} {a b : Lm} (ha : f a = none) : devL f [a, b] = none := by simp [devL, ha]
theorem devL_two1 {f : Lm → Option Lm} {a b : Lm} (hb : f b = none) : devL f [a, b] = none := by
  simp only [devL, hb]
  cases f a <;> rfl
theorem dv_small {u : Int} {n : Nat} {t t' : Lm} (hu : 0 ≤ u) (hu2 : u ≤ 42000) (he : errM u 0 [t] = 0) (h : devT n t = some t') : GdM u t' := by
  obtain ⟨h1, h2⟩ := err_dev 0 n t t' u hu he h
  exact ⟨hu, by omega, h1, h2⟩
theorem gd_body {u fi : Int} {b : Lm} (h : GdM u ⟨2, fi, [b]⟩) : GdM (u + 1) b := by
  have := h.subs (y := b) (by simp)
  simpa [deepK] using this

set_option maxHeartbeats 4000000 in
theorem devStep_any (n : Nat) (u xi fi : Int) (b z : Lm) (hu : 0 ≤ u) (hu2 : u ≤ 40000) (hef : errM u 0 [⟨2, fi, [b]⟩] = 0) (hez : errM u 0 [z] = 0) (IHf : DvAt n ⟨2, fi, [b]⟩) (IHz : DvAt n z) (v x : Value) (w : World) (X : Nat → Prop) (hv : MV w X v ⟨2, fi, [b]⟩) (hx : MV w X x z) :
    Calls Tryz.prog 33 #[v, x] w fun e w' => DvPost (n + 1) ⟨3, xi, [⟨2, fi, [b]⟩, z]⟩ w e w' := by
  have HRD : Hid (rdxT ⟨3, xi, [⟨2, fi, [b]⟩, z]⟩ = true) := by unfold Hid rdxT; simp
  obtain ⟨a, c, rfl, hs⟩ := hv
  obtain ⟨ax, cx, rfl, hsx⟩ := hx
  dsimp only at hs
  obtain ⟨W0, hW0⟩ : ∃ W0, W0 = (((w.alloc (.cells #[.int .i64 2, .int .i64 fi, .slice a 1 c] 26)).alloc (.cells #[.int .i64 z.kind, .int .i64 z.idx, .slice ax z.subs.length cx] 26)).alloc (.cells #[.int .i64 0, .int .i64 0, .slice none 0 0] 26)) := ⟨_, rfl⟩
  have HB0 : Hid (Below w.heap.size w W0) := by unfold Hid; rw [hW0]; exact (below2M _ _).alloc (by simp; omega) _
  have HF0 : Hid (Blk W0 w.heap.size #[.int .i64 2, .int .i64 fi, .slice a 1 c] 26) := by unfold Hid; rw [hW0]; exact ((Blk.new w _ _).alloc _).alloc _
  have HX0 : Hid (Blk W0 (w.heap.size + 1) #[.int .i64 z.kind, .int .i64 z.idx, .slice ax z.subs.length cx] 26) := by
    have h := (Blk.new (w.alloc (.cells #[.int .i64 2, .int .i64 fi, .slice a 1 c] 26)) #[.int .i64 z.kind, .int .i64 z.idx, .slice ax z.subs.length cx] 26).alloc (.cells #[.int .i64 0, .int .i64 0, .slice none 0 0] 26)
    unfold Hid
    rw [hW0]
    simpa using h
  have HR0 : Hid (Blk W0 (w.heap.size + 1 + 1) #[.int .i64 0, .int .i64 0, .slice none 0 0] 26) := by
    have h := Blk.new ((w.alloc (.cells #[.int .i64 2, .int .i64 fi, .slice a 1 c] 26)).alloc (.cells #[.int .i64 z.kind, .int .i64 z.idx, .slice ax z.subs.length cx] 26)) #[.int .i64 0, .int .i64 0, .slice none 0 0] 26
    unfold Hid
    rw [hW0]
    simpa using h
  have hz0 : W0.heap.size = w.heap.size + 3 := by rw [hW0]; simp
  have HVF : Hid (MV W0 (fun b => X b ∧ b < w.heap.size) (.agg #[.int .i64 2, .int .i64 fi, .slice a 1 c]) ⟨2, fi, [b]⟩) := ⟨a, c, rfl, (hs.mono (Y := fun b => X b ∧ b < w.heap.size) fun b h1 h2 => ⟨h1, h2⟩).later HB0.out⟩
  have HVX : Hid (MV W0 (fun b => X b ∧ b < w.heap.size) (.agg #[.int .i64 z.kind, .int .i64 z.idx, .slice ax z.subs.length cx]) z) := ⟨ax, cx, rfl, (hsx.mono (Y := fun b => X b ∧ b < w.heap.size) fun b h1 h2 => ⟨h1, h2⟩).later HB0.out⟩
  have HW0 := hide hW0
  have HIF := hide IHf
  have HIZ := hide IHz
  have HEF := hide hef
  have HEZ := hide hez
  clear hs hsx hW0 IHf IHz hef hez
  go_enter Tryz.func33, Tryz.ntmps33
  go_wp2_with fail
  rw [← HW0.out]
  clear HW0
  refine (HIF.out _ W0 _ HVF.out).mono ?_
  rintro e w1 ⟨hb1, hcase⟩
  have hz1 : w.heap.size + 3 ≤ w1.heap.size := by have := hb1.size; omega
  have HB1 := hide (HB0.out.trans (hb1.mono (by omega)))
  have HX1 := hide (HX0.out.below hb1 (by omega))
  have HR1 := hide (HR0.out.below hb1 (by omega))
  have HF1 := hide (HF0.out.below hb1 (by omega))
  have HVX1 := hide (HVX.out.later hb1)
  have f0 : w1.cell? ⟨w.heap.size, 0, none⟩ = some (.int .i64 2) := HF1.out.cell 0
  have f1 : w1.cell? ⟨w.heap.size, 1, none⟩ = some (.int .i64 fi) := HF1.out.cell 1
  have f2 : w1.cell? ⟨w.heap.size, 2, none⟩ = some (.slice a 1 c) := HF1.out.cell 2
  have ff := HF1.out.frozen
  clear HB0 HF0 HX0 HR0 HVF HVX
  rcases hcase with ⟨t1, a1, c1, hd1, rfl, hs1⟩ | ⟨hd1, k1, x1, a1, l1, c1, rfl⟩
  case inr =>
    have HN : Hid (devT (n + 1) ⟨3, xi, [⟨2, fi, [b]⟩, z]⟩ = none) := devT_none (devL_two0 hd1)
    have BF := hide (bl_set3 HB1.out w.heap.size (Nat.le_refl _) (.int .i64 k1) (.int .i64 x1) (.slice a1 l1 c1))
    have RF := hide (blk_set3o HR1.out (B := w.heap.size) (by omega) (.int .i64 k1) (.int .i64 x1) (.slice a1 l1 c1))
    have r0 := RF.out.cell 0
    have r1 := RF.out.cell 1
    have r2 := RF.out.cell 2
    have rf := RF.out.frozen
    simp only [List.getElem?_toArray, List.getElem?_cons_succ, List.getElem?_cons_zero] at r0 r1 r2
    clear hd1 hb1
    go_wp2_with fail
    refine bodyPost_ret (v := .tuple #[.agg #[.int .i64 0, .int .i64 0, .slice none 0 0], .bool false]) (by simp [results, Tryz.results33, go_sem, World.cell?_setCell_same, World.cell?_setCell_other, r0, r1, r2]) rfl ?_
    exact ⟨bl_set3 BF.out _ (by omega) _ _ _, Or.inr ⟨HN.out, _, _, _, _, _, rfl⟩⟩
  case inl =>
    obtain ⟨b', rfl⟩ := devT_lam hd1
    have HD1 := hide hd1
    have HGF := hide (gd_body (dv_small hu (by omega) HEF.out hd1))
    have HS1 : Hid (SlM w1 (fun b => w.heap.size + 3 ≤ b) a1 [b']) := hs1.mono fun b h _ => by omega
    have HB2 := hide (bl_set3 HB1.out w.heap.size (Nat.le_refl _) (.int .i64 2) (.int .i64 fi) (.slice a1 1 c1))
    have HX2 := hide (blk_set3o HX1.out (B := w.heap.size) (by omega) (.int .i64 2) (.int .i64 fi) (.slice a1 1 c1))
    have HR2 := hide (blk_set3o HR1.out (B := w.heap.size) (by omega) (.int .i64 2) (.int .i64 fi) (.slice a1 1 c1))
    have HF2 := hide (blk_set3 HF1.out (.int .i64 2) (.int .i64 fi) (.slice a1 1 c1))
    have hz2 : (((w1.setCell ⟨w.heap.size, 0, none⟩ (.int .i64 2)).setCell ⟨w.heap.size, 1, none⟩ (.int .i64 fi)).setCell ⟨w.heap.size, 2, none⟩ (.slice a1 1 c1)).heap.size = w1.heap.size := by simp [World.setCell]
    have HS2 : Hid (SlM (((w1.setCell ⟨w.heap.size, 0, none⟩ (.int .i64 2)).setCell ⟨w.heap.size, 1, none⟩ (.int .i64 fi)).setCell ⟨w.heap.size, 2, none⟩ (.slice a1 1 c1)) (fun b => w.heap.size + 3 ≤ b) a1 [b']) := HS1.out.kept fun q hq => by
      rw [Below.heap_setCell _ _ _ _ (by simp; omega), Below.heap_setCell _ _ _ _ (by simp; omega), Below.heap_setCell _ _ _ _ (by simp; omega)]
    have HVX2 : Hid (MV (((w1.setCell ⟨w.heap.size, 0, none⟩ (.int .i64 2)).setCell ⟨w.heap.size, 1, none⟩ (.int .i64 fi)).setCell ⟨w.heap.size, 2, none⟩ (.slice a1 1 c1)) (fun b => X b ∧ b < w.heap.size) (.agg #[.int .i64 z.kind, .int .i64 z.idx, .slice ax z.subs.length cx]) z) := by
      obtain ⟨p, q, e, h⟩ := HVX1.out
      refine ⟨p, q, e, h.kept fun q hq => ?_⟩
      rw [Below.heap_setCell _ _ _ _ (by simp; omega), Below.heap_setCell _ _ _ _ (by simp; omega), Below.heap_setCell _ _ _ _ (by simp; omega)]
    have x0 := HX2.out.cell 0
    have x1' := HX2.out.cell 1
    have x2 := HX2.out.cell 2
    simp only [List.getElem?_toArray, List.getElem?_cons_succ, List.getElem?_cons_zero] at x0 x1' x2
    clear hd1 hs1 hb1
    go_wp2_with fail
    generalize (((w1.setCell ⟨w.heap.size, 0, none⟩ (.int .i64 2)).setCell ⟨w.heap.size, 1, none⟩ (.int .i64 fi)).setCell ⟨w.heap.size, 2, none⟩ (.slice a1 1 c1)) = w2 at *
    refine (HIZ.out _ w2 _ HVX2.out).mono ?_
    rintro e w3 ⟨hb3, hcase⟩
    have hz3 : w.heap.size + 3 ≤ w3.heap.size := by have := hb3.size; omega
    have HB3 := hide (HB2.out.trans (hb3.mono (by omega)))
    have HX3 := hide (HX2.out.below hb3 (by omega))
    have HR3 := hide (HR2.out.below hb3 (by omega))
    have HF3 := hide (HF2.out.below hb3 (by omega))
    have HS3 := hide (HS2.out.later hb3)
    have g0 : w3.cell? ⟨w.heap.size + 1, 0, none⟩ = some (.int .i64 z.kind) := HX3.out.cell 0
    have g1 : w3.cell? ⟨w.heap.size + 1, 1, none⟩ = some (.int .i64 z.idx) := HX3.out.cell 1
    have g2 : w3.cell? ⟨w.heap.size + 1, 2, none⟩ = some (.slice ax z.subs.length cx) := HX3.out.cell 2
    have gf := HX3.out.frozen
    clear f0 f1 f2 ff x0 x1' x2 HB1 HX1 HR1 HF1 HVX1 HS1 HX2 HR2 HF2 HVX2 HS2
    rcases hcase with ⟨t3, a3, c3, hd3, rfl, hs3⟩ | ⟨hd3, k3, x3, a3, l3, c3, rfl⟩
    case inr =>
      have HN : Hid (devT (n + 1) ⟨3, xi, [⟨2, fi, [b]⟩, z]⟩ = none) := devT_none (devL_two1 hd3)
      have BF := hide (bl_set3 HB3.out (w.heap.size + 1) (by omega) (.int .i64 k3) (.int .i64 x3) (.slice a3 l3 c3))
      have RF := hide (blk_set3o HR3.out (B := w.heap.size + 1) (by omega) (.int .i64 k3) (.int .i64 x3) (.slice a3 l3 c3))
      have r0 := RF.out.cell 0
      have r1 := RF.out.cell 1
      have r2 := RF.out.cell 2
      have rf := RF.out.frozen
      simp only [List.getElem?_toArray, List.getElem?_cons_succ, List.getElem?_cons_zero] at r0 r1 r2
      clear hd3 hb3
      go_wp2_with fail
      refine bodyPost_ret (v := .tuple #[.agg #[.int .i64 0, .int .i64 0, .slice none 0 0], .bool false]) (by simp [results, Tryz.results33, go_sem, World.cell?_setCell_same, World.cell?_setCell_other, r0, r1, r2]) rfl ?_
      exact ⟨bl_set3 BF.out _ (by omega) _ _ _, Or.inr ⟨HN.out, _, _, _, _, _, rfl⟩⟩
    case inl =>
      have HGZ := hide (dv_small hu (by omega) HEZ.out hd3)
      have HDL : Hid (devT (n + 1) ⟨3, xi, [⟨2, fi, [b]⟩, z]⟩ = if 2000 < sizeM [insT t3 0 b'] then none else some (insT t3 0 b')) := by
        unfold Hid
        rw [devT_succ (devL_two HD1.out hd3)]
        have e : devK 3 xi [⟨2, fi, [b]⟩, z] [⟨2, fi, [b']⟩, t3] = insT t3 0 b' := by unfold devK; rw [if_pos HRD.out]; rfl
        rw [e]
      have BF := hide (bl_set3 HB3.out (w.heap.size + 1) (by omega) (.int .i64 t3.kind) (.int .i64 t3.idx) (.slice a3 t3.subs.length c3))
      have RF := hide (blk_set3o HR3.out (B := w.heap.size + 1) (by omega) (.int .i64 t3.kind) (.int .i64 t3.idx) (.slice a3 t3.subs.length c3))
      have FF := hide (blk_set3o HF3.out (B := w.heap.size + 1) (by omega) (.int .i64 t3.kind) (.int .i64 t3.idx) (.slice a3 t3.subs.length c3))
      have XF := hide (blk_set3 HX3.out (.int .i64 t3.kind) (.int .i64 t3.idx) (.slice a3 t3.subs.length c3))
      have hz4 : (((w3.setCell ⟨w.heap.size + 1, 0, none⟩ (.int .i64 t3.kind)).setCell ⟨w.heap.size + 1, 1, none⟩ (.int .i64 t3.idx)).setCell ⟨w.heap.size + 1, 2, none⟩ (.slice a3 t3.subs.length c3)).heap.size = w3.heap.size := by simp [World.setCell]
      have keep : ∀ q, w.heap.size + 3 ≤ q → (((w3.setCell ⟨w.heap.size + 1, 0, none⟩ (.int .i64 t3.kind)).setCell ⟨w.heap.size + 1, 1, none⟩ (.int .i64 t3.idx)).setCell ⟨w.heap.size + 1, 2, none⟩ (.slice a3 t3.subs.length c3)).heap[q]? = w3.heap[q]? := fun q hq => by
        rw [Below.heap_setCell _ _ _ _ (by simp; omega), Below.heap_setCell _ _ _ _ (by simp; omega), Below.heap_setCell _ _ _ _ (by simp; omega)]
      have SB := hide (HS3.out.kept fun q hq => keep q hq)
      have SZ : Hid (SlM (((w3.setCell ⟨w.heap.size + 1, 0, none⟩ (.int .i64 t3.kind)).setCell ⟨w.heap.size + 1, 1, none⟩ (.int .i64 t3.idx)).setCell ⟨w.heap.size + 1, 2, none⟩ (.slice a3 t3.subs.length c3)) (fun b => w.heap.size + 3 ≤ b) a3 t3.subs) := (hs3.mono fun b h _ => by omega).kept fun q hq => keep q hq
      clear hd3 hs3 hb3 keep
      go_upto_region 7 with fail
      generalize (((w3.setCell ⟨w.heap.size + 1, 0, none⟩ (.int .i64 t3.kind)).setCell ⟨w.heap.size + 1, 1, none⟩ (.int .i64 t3.idx)).setCell ⟨w.heap.size + 1, 2, none⟩ (.slice a3 t3.subs.length c3)) = w4 at *
      obtain ⟨B, o, a5, c5, rfl, hXB, d0, d1, d2, hs5⟩ := slM_one SB.out
      have hBl := cell_ltM d0
      have HS0 : Hid (w4.cell? ⟨w.heap.size, 2, none⟩ = some (.slice (some ⟨B, o, none⟩) 1 c1) ∧ w4.cell? ⟨B, o, none⟩ = some (.int .i64 b'.kind) ∧ w4.cell? ⟨B, o + 1, none⟩ = some (.int .i64 b'.idx) ∧ w4.cell? ⟨B, o + 2, none⟩ = some (.slice a5 b'.subs.length c5) ∧ w4.cell? ⟨w.heap.size + 1, 0, none⟩ = some (.int .i64 t3.kind) ∧ w4.cell? ⟨w.heap.size + 1, 1, none⟩ = some (.int .i64 t3.idx) ∧ w4.cell? ⟨w.heap.size + 1, 2, none⟩ = some (.slice a3 t3.subs.length c3)) := ⟨FF.out.cell 2, d0, d1, d2, XF.out.cell 0, XF.out.cell 1, XF.out.cell 2⟩
      have KP : Hid (∀ w', Below w4.heap.size w4 w' → w'.cell? ⟨w.heap.size, 2, none⟩ = some (.slice (some ⟨B, o, none⟩) 1 c1) ∧ w'.cell? ⟨B, o, none⟩ = some (.int .i64 b'.kind) ∧ w'.cell? ⟨B, o + 1, none⟩ = some (.int .i64 b'.idx) ∧ w'.cell? ⟨B, o + 2, none⟩ = some (.slice a5 b'.subs.length c5) ∧ w'.cell? ⟨w.heap.size + 1, 0, none⟩ = some (.int .i64 t3.kind) ∧ w'.cell? ⟨w.heap.size + 1, 1, none⟩ = some (.int .i64 t3.idx) ∧ w'.cell? ⟨w.heap.size + 1, 2, none⟩ = some (.slice a3 t3.subs.length c3)) := fun w' hb => by
        have hh := HS0.out
        exact ⟨(hb.cell (p := ⟨w.heap.size, 2, none⟩) (by simp; omega)).trans hh.1, (hb.cell (p := ⟨B, o, none⟩) hBl).trans hh.2.1, (hb.cell (p := ⟨B, o + 1, none⟩) hBl).trans hh.2.2.1, (hb.cell (p := ⟨B, o + 2, none⟩) hBl).trans hh.2.2.2.1, (hb.cell (p := ⟨w.heap.size + 1, 0, none⟩) (by simp; omega)).trans hh.2.2.2.2.1, (hb.cell (p := ⟨w.heap.size + 1, 1, none⟩) (by simp; omega)).trans hh.2.2.2.2.2.1, (hb.cell (p := ⟨w.heap.size + 1, 2, none⟩) (by simp; omega)).trans hh.2.2.2.2.2.2⟩
      have HD : Hid (Below w4.heap.size w4 w4.drew) := (Below.refl _ _).drew
      have PUT : Hid (∀ w', Below w4.heap.size w4 w' → Calls Tryz.prog 48 #[.agg #[.int .i64 b'.kind, .int .i64 b'.idx, .slice a5 b'.subs.length c5], .agg #[.int .i64 t3.kind, .int .i64 t3.idx, .slice a3 t3.subs.length c3], .int .i64 2000] w' fun e w'' => ∃ y ok a c, e = .returned (.tuple #[.agg #[.int .i64 y.kind, .int .i64 y.idx, .slice a y.subs.length c], .bool ok]) ∧ SlM w'' (fun b => w4.heap.size ≤ b) a y.subs ∧ Below w4.heap.size w4 w'' ∧ (ok = true → y = insT t3 0 b' ∧ sizeM [insT t3 0 b'] ≤ 2000) ∧ (ok = false → 2000 < sizeM [insT t3 0 b'])) := fun w' hb => by
        obtain ⟨p1, p2, p3, p4⟩ := HGF.out
        obtain ⟨k1, k2, k3, k4⟩ := HGZ.out
        refine (bPut_any b' t3 _ _ w' (fun _ => True) ⟨a5, c5, rfl, (hs5.later hb).mono fun _ _ _ => trivial⟩ ⟨a3, c3, rfl, (SZ.out.later hb).mono fun _ _ _ => trivial⟩ (by omega) (bnd_of_err _ _ _ p1 (by omega) (by omega) p3) (lf_of_err _ _ _ p3) (by omega) (bnd_of_err _ _ _ k1 (by omega) (by omega) k3) (lf_of_err _ _ _ k3)).mono ?_
        rintro e w'' ⟨h1, ⟨h2, p, q, rfl, h3⟩ | ⟨h2, rfl⟩⟩
        · exact ⟨_, true, p, q, rfl, h3.mono fun b h _ => Nat.le_trans hb.size h, hb.trans (h1.mono hb.size), fun _ => ⟨rfl, h2⟩, by simp⟩
        · exact ⟨⟨0, 0, []⟩, false, none, 0, rfl, ⟨by simp, Or.inl rfl⟩, hb.trans (h1.mono hb.size), by simp, fun _ => h2⟩
      have HR4 : Hid (∀ w', Below w4.heap.size w4 w' → Blk w' (w.heap.size + 1 + 1) #[.int .i64 0, .int .i64 0, .slice none 0 0] 26) := fun w' hb => RF.out.below hb (by omega)
      have nW : w.heap.size ≠ w.heap.size + 1 + 1 := by omega
      have nX : w.heap.size + 1 ≠ w.heap.size + 1 + 1 := by omega
      have nB : B ≠ w.heap.size + 1 + 1 := by omega
      clear g0 g1 g2 gf d0 d1 d2 hs5 HX3 HR3 HF3 HS3
      go_region_held3 (fun w' => w'.cell? ⟨w.heap.size, 2, none⟩ = some (.slice (some ⟨B, o, none⟩) 1 c1) ∧ w'.cell? ⟨B, o, none⟩ = some (.int .i64 b'.kind) ∧ w'.cell? ⟨B, o + 1, none⟩ = some (.int .i64 b'.idx) ∧ w'.cell? ⟨B, o + 2, none⟩ = some (.slice a5 b'.subs.length c5) ∧ w'.cell? ⟨w.heap.size + 1, 0, none⟩ = some (.int .i64 t3.kind) ∧ w'.cell? ⟨w.heap.size + 1, 1, none⟩ = some (.int .i64 t3.idx) ∧ w'.cell? ⟨w.heap.size + 1, 2, none⟩ = some (.slice a3 t3.subs.length c3)) (first | exact hS | exact HS0.out | exact ⟨set3_keep hS.1 nW, set3_keep hS.2.1 nB, set3_keep hS.2.2.1 nB, set3_keep hS.2.2.2.1 nB, set3_keep hS.2.2.2.2.1 nX, set3_keep hS.2.2.2.2.2.1 nX, set3_keep hS.2.2.2.2.2.2 nX⟩ | go_keep)
        (first | (go_at_call 48; refine (PUT.out _ (by first | exact Below.refl _ _ | exact HD.out)).mono ?_; rintro e w5 ⟨y, ok, a6, c6, rfl, hs6, hb5, hok, hno⟩; have hS := KP.out _ hb5; have RB := HR4.out _ hb5; have r0 : w5.cell? ⟨w.heap.size + 1 + 1, 0, none⟩ = some (.int .i64 0) := RB.cell 0; have r1 : w5.cell? ⟨w.heap.size + 1 + 1, 1, none⟩ = some (.int .i64 0) := RB.cell 1; have r2 : w5.cell? ⟨w.heap.size + 1 + 1, 2, none⟩ = some (.slice none 0 0) := RB.cell 2; have rf := RB.frozen))
      all_goals
        have HOK := hide (And.intro hok hno)
        have H6 := hide hs6
        have HB6 := hide (BF.out.trans (hb5.mono (by omega)))
        clear hok hno hs6 hS
      all_goals go_wp2_with fail
      all_goals refine bodyPost_ret (v := .tuple #[.agg #[.int .i64 y.kind, .int .i64 y.idx, .slice a6 y.subs.length c6], .bool ok]) (by simp [results, Tryz.results33, go_sem, World.cell?_setCell_same, World.cell?_setCell_other, r0, r1, r2]) rfl ?_
      all_goals
        refine ⟨bl_set3 HB6.out _ (by omega) _ _ _, ?_⟩
        cases ok with
        | true =>
          obtain ⟨e1, e2⟩ := HOK.out.1 rfl
          subst e1
          refine Or.inl ⟨_, a6, c6, by rw [HDL.out, if_neg (by omega)], rfl, (H6.out.kept fun q hq => ?_).mono fun b h _ => by omega⟩
          rw [Below.heap_setCell _ _ _ _ (by simp; omega), Below.heap_setCell _ _ _ _ (by simp; omega), Below.heap_setCell _ _ _ _ (by simp; omega)]
        | false => exact Or.inr ⟨by rw [HDL.out, if_pos (HOK.out.2 rfl)], _, _, _, _, _, rfl⟩
end Go.Proofs.YtnllgbcakmddkaaGreatDoor

/- Walks: the code's develop, to its end. -/
namespace Go.Proofs.YtnllgbcakmddkaaGreatDoor
open Go.RowKit Go.Shelf
set_option linter.unusedSimpArgs false
set_option linter.unusedVariables false
set_option maxRecDepth 8000

theorem dv_end {w wz : World} {n R : Nat} {t t' : Lm} {a : Option Addr} {c : Nat} (hR : w.heap.size ≤ R) (hb : Below w.heap.size w wz) (hs : SlM wz (fun b => w.heap.size ≤ b ∧ b ≠ R) a t'.subs) (hd : devT n t = if 2000 < sizeM [t'] then none else some t') (v0 v1 v2 : Value) :
    DvPost n t w (.returned (.tuple #[.agg #[.int .i64 t'.kind, .int .i64 t'.idx, .slice a t'.subs.length c], .bool (decide (min (sizeM [t'] : Int) 2001 ≤ 2000))])) (((wz.setCell ⟨R, 0, none⟩ v0).setCell ⟨R, 1, none⟩ v1).setCell ⟨R, 2, none⟩ v2) := by
  refine ⟨bl_set3 hb R hR _ _ _, ?_⟩
  by_cases h : 2000 < sizeM [t']
  · rw [if_pos h] at hd
    have e : decide (min (sizeM [t'] : Int) 2001 ≤ 2000) = false := decide_eq_false (by omega)
    rw [e]
    exact Or.inr ⟨hd, _, _, _, _, _, rfl⟩
  · rw [if_neg h] at hd
    have e : decide (min (sizeM [t'] : Int) 2001 ≤ 2000) = true := decide_eq_true (by omega)
    rw [e]
    refine Or.inl ⟨t', a, c, hd, rfl, (hs.kept fun q hq => ?_).mono fun b h _ => h.1⟩
    rw [Below.heap_setCell _ _ _ _ (by simpa using hq.2), Below.heap_setCell _ _ _ _ (by simpa using hq.2), Below.heap_setCell _ _ _ _ (by simpa using hq.2)]

set_option maxHeartbeats 4000000 in
theorem develop_at (n : Nat) : ∀ (t : Lm) (u : Int), sizeM [t] ≤ n → 0 ≤ u → u + sizeM [t] ≤ 40000 → errM u 0 [t] = 0 → DvAt n t := by
  induction n with
  | zero => intro t u h; have := sizeM_posL t; omega
  | succ n ih =>
    intro t u hn hu hu2 he v w X hv
    obtain ⟨kd, ix, l⟩ := t
    obtain ⟨a, c, rfl, hs⟩ := hv
    dsimp only at hs ⊢
    have hsz : sizeM [⟨kd, ix, l⟩] = 1 + sizeM l := sizeM_one kd ix l
    have hlen := sizeM_len l
    have hkn := knE_zero.1 (err_one0.1 he).1
    have HIH : Hid (∀ s ∈ l, DvAt n s) := fun s hsl => by
      obtain ⟨i, hi', rfl⟩ := List.mem_iff_getElem.1 hsl
      have := sizeM_get l i hi'
      have hd : u ≤ deepK u kd ∧ deepK u kd ≤ u + 1 := by unfold deepK; split <;> omega
      exact ih _ (deepK u kd) (by omega) (by omega) (by omega) (err_all0.1 (err_one0.1 he).2 _ hsl)
    have B2 : Hid (Below w.heap.size w ((w.alloc (.cells #[.int .i64 kd, .int .i64 ix, .slice a l.length c] 26)).alloc (.cells #[.int .i64 0, .int .i64 0, .slice none 0 0] 26))) := below2M _ _
    have T2 : Hid (Blk ((w.alloc (.cells #[.int .i64 kd, .int .i64 ix, .slice a l.length c] 26)).alloc (.cells #[.int .i64 0, .int .i64 0, .slice none 0 0] 26)) w.heap.size #[.int .i64 kd, .int .i64 ix, .slice a l.length c] 26) := (Blk.new w _ _).alloc _
    have R2 : Hid (Blk ((w.alloc (.cells #[.int .i64 kd, .int .i64 ix, .slice a l.length c] 26)).alloc (.cells #[.int .i64 0, .int .i64 0, .slice none 0 0] 26)) (w.heap.size + 1) #[.int .i64 0, .int .i64 0, .slice none 0 0] 26) := by
      have h := Blk.new (w.alloc (.cells #[.int .i64 kd, .int .i64 ix, .slice a l.length c] 26)) #[.int .i64 0, .int .i64 0, .slice none 0 0] 26
      unfold Hid
      simpa using h
    have HS := hide hs
    cases hrd : rdxT ⟨kd, ix, l⟩ with
    | true =>
      obtain ⟨x', fi, b, z, e, h1, h2⟩ := subs_two he hrd
      cases e
      have hef : errM u 0 [⟨2, fi, [b]⟩] = 0 := by
        have h4 := (err_one0.1 he).2
        have e3 : deepK u 3 = u := by simp [deepK]
        rw [e3] at h4
        exact (err_two0.1 h4).1
      have STEP := hide (fun v x (w' : World) X => devStep_any n u ix fi b z hu (by omega) hef h2 (HIH.out _ (by simp)) (HIH.out _ (by simp)) v x w' X)
      obtain ⟨B, o, a1, c1, a2, c2, rfl, hXB, d0, d1, d2, d3, d4, d5, hs1, hs2⟩ := slM_cells (hs.mono (Y := fun b => X b ∧ b < w.heap.size) fun b p1 p2 => ⟨p1, p2⟩)
      dsimp only [List.length_cons, List.length_nil] at *
      have hz2 : ((w.alloc (.cells #[.int .i64 3, .int .i64 ix, .slice (some ⟨B, o, none⟩) (0 + 1 + 1) c] 26)).alloc (.cells #[.int .i64 0, .int .i64 0, .slice none 0 0] 26)).heap.size = w.heap.size + 2 := by simp
      have hBw : B < w.heap.size := hXB.2
      have nB0 : B ≠ w.heap.size := by omega
      have nB1 : B ≠ w.heap.size + 1 := by omega
      clear hs he hkn hrd ih HIH hef h1 h2 hsz hn hlen
      go_enter Tryz.func16, Tryz.ntmps16
      go_upto_region 2 with fail
      generalize ((w.alloc (.cells #[.int .i64 3, .int .i64 ix, .slice (some ⟨B, o, none⟩) (0 + 1 + 1) c] 26)).alloc (.cells #[.int .i64 0, .int .i64 0, .slice none 0 0] 26)) = w4 at *
      have HS0 : Hid (w4.cell? ⟨w.heap.size, 2, none⟩ = some (.slice (some ⟨B, o, none⟩) 2 c) ∧ w4.cell? ⟨B, o, none⟩ = some (.int .i64 2) ∧ w4.cell? ⟨B, o + 1, none⟩ = some (.int .i64 fi) ∧ w4.cell? ⟨B, o + 2, none⟩ = some (.slice a1 1 c1) ∧ w4.cell? ⟨B, o + 3, none⟩ = some (.int .i64 z.kind) ∧ w4.cell? ⟨B, o + 4, none⟩ = some (.int .i64 z.idx) ∧ w4.cell? ⟨B, o + 5, none⟩ = some (.slice a2 z.subs.length c2)) := ⟨T2.out.cell 2, (B2.out.cell (p := ⟨B, o, none⟩) hBw).trans d0, (B2.out.cell (p := ⟨B, o + 1, none⟩) hBw).trans d1, (B2.out.cell (p := ⟨B, o + 2, none⟩) hBw).trans d2, (B2.out.cell (p := ⟨B, o + 3, none⟩) hBw).trans d3, (B2.out.cell (p := ⟨B, o + 4, none⟩) hBw).trans d4, (B2.out.cell (p := ⟨B, o + 5, none⟩) hBw).trans d5⟩
      have KP : Hid (∀ w', Below w4.heap.size w4 w' → w'.cell? ⟨w.heap.size, 2, none⟩ = some (.slice (some ⟨B, o, none⟩) 2 c) ∧ w'.cell? ⟨B, o, none⟩ = some (.int .i64 2) ∧ w'.cell? ⟨B, o + 1, none⟩ = some (.int .i64 fi) ∧ w'.cell? ⟨B, o + 2, none⟩ = some (.slice a1 1 c1) ∧ w'.cell? ⟨B, o + 3, none⟩ = some (.int .i64 z.kind) ∧ w'.cell? ⟨B, o + 4, none⟩ = some (.int .i64 z.idx) ∧ w'.cell? ⟨B, o + 5, none⟩ = some (.slice a2 z.subs.length c2)) := fun w' hb => by
        have hh := HS0.out
        have hB4 : B < w4.heap.size := by omega
        exact ⟨(hb.cell (p := ⟨w.heap.size, 2, none⟩) (by simp; omega)).trans hh.1, (hb.cell (p := ⟨B, o, none⟩) hB4).trans hh.2.1, (hb.cell (p := ⟨B, o + 1, none⟩) hB4).trans hh.2.2.1, (hb.cell (p := ⟨B, o + 2, none⟩) hB4).trans hh.2.2.2.1, (hb.cell (p := ⟨B, o + 3, none⟩) hB4).trans hh.2.2.2.2.1, (hb.cell (p := ⟨B, o + 4, none⟩) hB4).trans hh.2.2.2.2.2.1, (hb.cell (p := ⟨B, o + 5, none⟩) hB4).trans hh.2.2.2.2.2.2⟩
      have HD : Hid (Below w4.heap.size w4 w4.drew) := (Below.refl _ _).drew
      have HR4 : Hid (∀ w', Below w4.heap.size w4 w' → Blk w' (w.heap.size + 1) #[.int .i64 0, .int .i64 0, .slice none 0 0] 26) := fun w' hb => R2.out.below hb (by omega)
      have CALL : Hid (∀ w', Below w4.heap.size w4 w' → Calls Tryz.prog 33 #[.agg #[.int .i64 2, .int .i64 fi, .slice a1 1 c1], .agg #[.int .i64 z.kind, .int .i64 z.idx, .slice a2 z.subs.length c2]] w' fun e w'' => ∃ kk xx aa ll cc ok, e = .returned (.tuple #[.agg #[.int .i64 kk, .int .i64 xx, .slice aa ll cc], .bool ok]) ∧ Below w4.heap.size w4 w'' ∧ ((∃ t', devT (n + 1) ⟨3, ix, [⟨2, fi, [b]⟩, z]⟩ = some t' ∧ ok = true ∧ kk = t'.kind ∧ xx = t'.idx ∧ ll = t'.subs.length ∧ SlM w'' (fun b => w4.heap.size ≤ b) aa t'.subs) ∨ (devT (n + 1) ⟨3, ix, [⟨2, fi, [b]⟩, z]⟩ = none ∧ ok = false))) := fun w' hb => by
        have hbw := B2.out.trans (hb.mono (by omega))
        refine (STEP.out _ _ w' (fun b => X b ∧ b < w.heap.size) ⟨a1, c1, rfl, hs1.later hbw⟩ ⟨a2, c2, rfl, hs2.later hbw⟩).mono ?_
        rintro e w'' ⟨hb1, ⟨t', p, q, h1, rfl, h2⟩ | ⟨h1, k1, x1, p, l1, q, rfl⟩⟩
        · exact ⟨_, _, p, _, q, true, rfl, hb.trans (hb1.mono hb.size), Or.inl ⟨t', h1, rfl, rfl, rfl, rfl, h2.mono fun b h _ => Nat.le_trans hb.size h⟩⟩
        · exact ⟨_, _, p, _, q, false, rfl, hb.trans (hb1.mono hb.size), Or.inr ⟨h1, rfl⟩⟩
      have nW : w.heap.size ≠ w.heap.size + 1 := by omega
      clear d0 d1 d2 d3 d4 d5 hs1 hs2 T2 HS
      go_region_held3 (fun w' => w'.cell? ⟨w.heap.size, 2, none⟩ = some (.slice (some ⟨B, o, none⟩) 2 c) ∧ w'.cell? ⟨B, o, none⟩ = some (.int .i64 2) ∧ w'.cell? ⟨B, o + 1, none⟩ = some (.int .i64 fi) ∧ w'.cell? ⟨B, o + 2, none⟩ = some (.slice a1 1 c1) ∧ w'.cell? ⟨B, o + 3, none⟩ = some (.int .i64 z.kind) ∧ w'.cell? ⟨B, o + 4, none⟩ = some (.int .i64 z.idx) ∧ w'.cell? ⟨B, o + 5, none⟩ = some (.slice a2 z.subs.length c2)) (first | exact hS | exact HS0.out | exact ⟨set3_keep hS.1 nW, set3_keep hS.2.1 nB1, set3_keep hS.2.2.1 nB1, set3_keep hS.2.2.2.1 nB1, set3_keep hS.2.2.2.2.1 nB1, set3_keep hS.2.2.2.2.2.1 nB1, set3_keep hS.2.2.2.2.2.2 nB1⟩ | go_keep)
        (first | (go_at_call 33; refine (CALL.out _ (by first | exact Below.refl _ _ | exact HD.out)).mono ?_; rintro e w5 ⟨kk, xx, aa, ll, cc, ok, rfl, hb5, hcase⟩; have hS := KP.out _ hb5; have RB := HR4.out _ hb5; have r0 : w5.cell? ⟨w.heap.size + 1, 0, none⟩ = some (.int .i64 0) := RB.cell 0; have r1 : w5.cell? ⟨w.heap.size + 1, 1, none⟩ = some (.int .i64 0) := RB.cell 1; have r2 : w5.cell? ⟨w.heap.size + 1, 2, none⟩ = some (.slice none 0 0) := RB.cell 2; have rf := RB.frozen))
      all_goals
        have HCS := hide hcase
        have HB6 := hide (B2.out.trans (hb5.mono (by omega)))
        clear hcase hS
      all_goals go_wp2_with fail
      all_goals refine bodyPost_ret (v := .tuple #[.agg #[.int .i64 kk, .int .i64 xx, .slice aa ll cc], .bool ok]) (by simp [results, Tryz.results16, go_sem, World.cell?_setCell_same, World.cell?_setCell_other, r0, r1, r2]) rfl ?_
      all_goals
        refine ⟨bl_set3 HB6.out _ (by omega) _ _ _, ?_⟩
        rcases HCS.out with ⟨t', h1, rfl, rfl, rfl, rfl, h2⟩ | ⟨h1, rfl⟩
        · refine Or.inl ⟨t', aa, cc, h1, rfl, (h2.kept fun q hq => ?_).mono fun b h _ => by omega⟩
          rw [Below.heap_setCell _ _ _ _ (by simp; omega), Below.heap_setCell _ _ _ _ (by simp; omega), Below.heap_setCell _ _ _ _ (by simp; omega)]
        · exact Or.inr ⟨h1, _, _, _, _, _, rfl⟩
    | false =>
      have HDK : Hid (∀ l', devK kd ix l l' = ⟨kd, ix, l'⟩) := fun l' => by unfold devK; rw [hrd]; simp
      by_cases h3 : kd = 3
      · subst h3
        have hl0 : 0 < l.length := by rw [hkn.2.1]; decide
        obtain ⟨B0, o0', q1, q2, hae0, d0, d1, d2, hm⟩ := (hs.mono (Y := fun b => X b ∧ b < w.heap.size) fun b h1 h2 => ⟨h1, h2⟩).get (Below.refl w.heap.size w) (fun b h _ => h.2) 0 hl0
        have hB0w : B0 < w.heap.size := cell_ltM d0
        subst hae0
        have hl0i : (0 : Int) < (l.length : Int) := by omega
        have e3 : (l[0].kind == 2) = false := by
          cases l with
          | nil => simp at hl0
          | cons y r => simpa [rdxT] using hrd
        simp only [Nat.zero_mul, Nat.add_zero] at d0
        clear hrd ih he hkn d1 d2 hm hs
        go_enter Tryz.func16, Tryz.ntmps16
        go_upto_region 4 with fail
        clear d0
        have T3 := hide (T2.out.alloc (.cells #[.int .i64 3, .int .i64 ix, .slice none 0 0] 26))
        have R3 := hide (R2.out.alloc (.cells #[.int .i64 3, .int .i64 ix, .slice none 0 0] 26))
        have O3 := hide (Blk.new ((w.alloc (.cells #[.int .i64 3, .int .i64 ix, .slice (some ⟨B0, o0', none⟩) l.length c] 26)).alloc (.cells #[.int .i64 0, .int .i64 0, .slice none 0 0] 26)) #[.int .i64 3, .int .i64 ix, .slice none 0 0] 26)
        have B3 := hide (B2.out.alloc B2.out.size (.cells #[.int .i64 3, .int .i64 ix, .slice none 0 0] 26))
        have eO : ((w.alloc (.cells #[.int .i64 3, .int .i64 ix, .slice (some ⟨B0, o0', none⟩) l.length c] 26)).alloc (.cells #[.int .i64 0, .int .i64 0, .slice none 0 0] 26)).heap.size = w.heap.size + 2 := by simp
        rw [eO] at O3
        clear eO B2 T2 R2
        generalize ((w.alloc (.cells #[.int .i64 3, .int .i64 ix, .slice (some ⟨B0, o0', none⟩) l.length c] 26)).alloc (.cells #[.int .i64 0, .int .i64 0, .slice none 0 0] 26)).alloc (.cells #[.int .i64 3, .int .i64 ix, .slice none 0 0] 26) = w3 at *
        obtain ⟨O, eO⟩ : ∃ O, O = w.heap.size + 2 := ⟨_, rfl⟩
        rw [← eO] at O3
        simp only [← eO, show w.heap.size + 1 + 1 = O from eO.symm]
        have hO : w.heap.size + 2 ≤ O := by omega
        clear eO
        have q0 : w3.cell? ⟨w.heap.size, 0, none⟩ = some (.int .i64 3) := T3.out.cell 0
        have q1 : w3.cell? ⟨w.heap.size, 1, none⟩ = some (.int .i64 ix) := T3.out.cell 1
        have q2 : w3.cell? ⟨w.heap.size, 2, none⟩ = some (.slice (some ⟨B0, o0', none⟩) l.length c) := T3.out.cell 2
        go_wp2_with fail
        clear q0 q1 q2
        go_loopw [39] (fun i wr => ∃ (k : Nat) (u : Value) (out : List Lm), k ≤ l.length ∧ i = .int .i64 (k : Int) ∧ devL (devT n) (l.take k) = some out ∧ out.length = k ∧ LmSet w (fun _ => False) O 3 ix (some ⟨B0, o0', none⟩) l.length c u out wr) (fun i wr => l.length - (intOf i).toNat)
        case atStart => exact ⟨0, .slice none 0 0, [], Nat.zero_le _, rfl, by simp [devL], rfl, [], by have h := RowM.start w3 (O + 1) 26 (fun _ => False); simpa using h, B3.out, T3.out, R3.out, O3.out, O3.out.lt⟩
        case round =>
          obtain ⟨k, u9, out, hk, rfl, hdv, hol', hset⟩ := hrel
          have hol := hide hol'
          clear hol'
          have SET := hide hset
          have HDV := hide hdv
          obtain ⟨xs, hrow, hbb, hT, hR, hOb, hOl⟩ := hset
          have XE := hide hbb
          have XR := hide hR
          have XO := hide hOb
          have XW := hide hrow
          have XT := hide hT
          clear hrow hbb hR hOb hT hdv
          by_cases hlt : k < l.length
          · obtain ⟨b, o, a', c', hae, d0, d0', d1, hx⟩ := (HS.out.mono (Y := fun b => X b ∧ b < w.heap.size) fun b h1 h2 => ⟨h1, h2⟩).get XE.out (fun b h _ => h.2) k hlt
            have hbw : b < w.heap.size := by
              obtain ⟨_, h1⟩ := HS.out.mono (Y := fun b => X b ∧ b < w.heap.size) fun b h1 h2 => ⟨h1, h2⟩
              rcases h1 with h1 | ⟨b', o', e', h1⟩
              · rw [h1] at hlt; simp at hlt
              · rw [hae] at e'; cases e'; exact (liesM_get _ _ _ h1 k hlt).1.2
            obtain ⟨rfl, rfl⟩ : B0 = b ∧ o0' = o := by simpa using hae
            have hlt2 : (k : Int) < (l.length : Int) := by omega
            have HLN : Hid (out.length ≤ 1000000) := by have := hol.out; unfold Hid; omega
            have HS8 : Hid (LmS w.heap.size B0 (o0' + k * 3) 3 ix (some ⟨B0, o0', none⟩) l.length c l[k].kind l[k].idx (.slice a' l[k].subs.length c') wr) := ⟨XT.out, d0, d0', d1⟩
            have BQ : Below wr.heap.size wr (wr.alloc (.cells #[.int .i64 l[k].kind, .int .i64 l[k].idx, .slice a' l[k].subs.length c'] 26)) := (Below.refl _ _).alloc (Nat.le_refl _) _
            have HBQ := hide BQ
            have HX := hide (hx.later BQ)
            have hIH := hide (HIH.out l[k] (List.getElem_mem hlt))
            clear hx BQ
            go_wp2_with fail
            refine (hIH.out _ _ _ HX.out).mono ?_
            rintro e w5 ⟨hb5, hcase⟩
            have HB5 := hide (HBQ.out.trans (hb5.mono (by simp)))
            have hz5 : wr.heap.size ≤ w5.heap.size := HB5.out.size
            clear hb5 d0 d0' d1
            rcases hcase with ⟨t5, a5, c5, hd5, rfl, hs5⟩ | ⟨hd5, k5, x5, a5, l5, c5, rfl⟩
            · have HDN := hide (devL_step hlt HDV.out hd5)
              have HB7 := hide (HB5.out.alloc hz5 (.cells #[.int .i64 t5.kind, .int .i64 t5.idx, .slice a5 t5.subs.length c5] 26))
              have HS7 : Hid (SlM (w5.alloc (.cells #[.int .i64 t5.kind, .int .i64 t5.idx, .slice a5 t5.subs.length c5] 26)) (fun b => False ∨ wr.heap.size ≤ b) a5 t5.subs) := (hs5.mono fun b h _ => Or.inr (by simp at h; omega)).later ((Below.refl _ _).alloc (Nat.le_refl _) _)
              obtain ⟨g, cap, w9, hrun, S1, S2, S3, o3, of, S4, hset⟩ := lm_round (c1 := c5) (t := t5) hO (fun b h => h.elim) hbw SET.out HS8.out HLN.out HB7.out HS7.out
              have XO7 := hide (XO.out.below HB7.out XO.out.lt)
              have XX7 : Hid (Blk (w5.alloc (.cells #[.int .i64 t5.kind, .int .i64 t5.idx, .slice a5 t5.subs.length c5] 26)) w5.heap.size #[.int .i64 t5.kind, .int .i64 t5.idx, .slice a5 t5.subs.length c5] 26) := Blk.new _ _ _
              have hz7 : (w5.alloc (.cells #[.int .i64 t5.kind, .int .i64 t5.idx, .slice a5 t5.subs.length c5] 26)).heap.size = w5.heap.size + 1 := by simp
              rw [hz7] at hrun
              have y0 := XX7.out.cell 0
              have y1 := XX7.out.cell 1
              have y2 := XX7.out.cell 2
              have o2 := XO7.out.cell 2
              simp only [List.getElem?_toArray, List.getElem?_cons_succ, List.getElem?_cons_zero] at y0 y1 y2 o2
              have HRUN := hide hrun
              have HSET := hide hset
              clear hrun hset S1 S2 S3 S4 hd5 hs5
              go_wp2_with (at_builtin; refine wpList_append_eq rfl _ _ _ _ rfl rfl rfl HRUN.out ?_)
              go_roundw
              case rel => exact ⟨k + 1, _, out ++ [t5], by omega, by go_num, HDN.out, by have := hol.out; simp; omega, HSET.out⟩
              case measure => simp [intOf]; omega
            · have HN : Hid (devT (n + 1) ⟨3, ix, l⟩ = none) := devT_none (devL_stop hlt HDV.out hd5)
              have R5 := hide (XR.out.below HB5.out XR.out.lt)
              have BW := hide ((XE.out.trans (HB5.out.mono XE.out.size)).alloc (by have := XE.out.size; omega) (.cells #[.int .i64 k5, .int .i64 x5, .slice a5 l5 c5] 26))
              have R6 := hide (R5.out.alloc (.cells #[.int .i64 k5, .int .i64 x5, .slice a5 l5 c5] 26))
              have r0 := R6.out.cell 0
              have r1 := R6.out.cell 1
              have r2 := R6.out.cell 2
              have rf := R6.out.frozen
              simp only [List.getElem?_toArray, List.getElem?_cons_succ, List.getElem?_cons_zero] at r0 r1 r2
              have r0' : w5.cell? ⟨w.heap.size + 1, 0, none⟩ = some (.int .i64 0) := R5.out.cell 0
              have r1' : w5.cell? ⟨w.heap.size + 1, 1, none⟩ = some (.int .i64 0) := R5.out.cell 1
              have r2' : w5.cell? ⟨w.heap.size + 1, 2, none⟩ = some (.slice none 0 0) := R5.out.cell 2
              have rf' := R5.out.frozen
              have hl5 : w.heap.size + 1 < w5.heap.size := R5.out.lt
              clear hd5
              go_wp2_with fail
              refine bodyPost_ret (v := .tuple #[.agg #[.int .i64 0, .int .i64 0, .slice none 0 0], .bool false]) (by simp [results, Tryz.results16, go_sem, World.cell?_setCell_same, World.cell?_setCell_other, r0, r1, r2, r0', r1', r2', hl5, World.cell?_alloc_old]) rfl ?_
              have HBF : ∀ o x0 x1 x2, Below w.heap.size w ((((w5.setCell ⟨w.heap.size + 1, 0, none⟩ x0).setCell ⟨w.heap.size + 1, 1, none⟩ x1).setCell ⟨w.heap.size + 1, 2, none⟩ x2).alloc o) ∧ Below w.heap.size w ((((w5.alloc o).setCell ⟨w.heap.size + 1, 0, none⟩ x0).setCell ⟨w.heap.size + 1, 1, none⟩ x1).setCell ⟨w.heap.size + 1, 2, none⟩ x2) := fun o x0 x1 x2 => ⟨(bl_set3 (XE.out.trans (HB5.out.mono XE.out.size)) _ (by omega) x0 x1 x2).alloc (by have := (bl_set3 (XE.out.trans (HB5.out.mono XE.out.size)) (w.heap.size + 1) (by omega) x0 x1 x2).size; omega) o, bl_set3 ((XE.out.trans (HB5.out.mono XE.out.size)).alloc (by have := XE.out.size; omega) o) _ (by omega) x0 x1 x2⟩
              exact ⟨by first | exact (HBF _ _ _ _).1 | exact (HBF _ _ _ _).2, Or.inr ⟨HN.out, _, _, _, _, _, rfl⟩⟩
          · have htk : l.take k = l := List.take_of_length_le (by omega)
            rw [htk] at HDV
            obtain ⟨ae, ce, rfl, hse⟩ := XW.out.sl
            have HSE : Hid (SlM wr (fun b => w.heap.size ≤ b ∧ b ≠ w.heap.size + 1) ae out) := hse.mono fun b hb _ => by
              rcases hb with h | h
              · exact h.elim
              · omega
            have HRES : Hid (devT (n + 1) ⟨3, ix, l⟩ = if 2000 < sizeM [(⟨3, ix, out⟩ : Lm)] then none else some ⟨3, ix, out⟩) := by unfold Hid; rw [devT_succ HDV.out, HDK.out]
            have HMV : Hid (MV wr (fun b => w.heap.size ≤ b ∧ b ≠ w.heap.size + 1) (.agg #[.int .i64 3, .int .i64 ix, .slice ae out.length ce]) ⟨3, ix, out⟩) := ⟨ae, ce, rfl, HSE.out⟩
            have HS0 : Hid (Blk wr O #[.int .i64 3, .int .i64 ix, .slice ae out.length ce] 26) := XO.out
            have KP : Hid (∀ w', Below wr.heap.size wr w' → Blk w' O #[.int .i64 3, .int .i64 ix, .slice ae out.length ce] 26) := fun w' hb => XO.out.below hb XO.out.lt
            have HD : Hid (Below wr.heap.size wr wr.drew) := (Below.refl _ _).drew
            have HR4 : Hid (∀ w', Below wr.heap.size wr w' → Blk w' (w.heap.size + 1) #[.int .i64 0, .int .i64 0, .slice none 0 0] 26) := fun w' hb => XR.out.below hb XR.out.lt
            have CNT : Hid (∀ w', Below wr.heap.size wr w' → Calls Tryz.prog 14 #[.agg #[.int .i64 3, .int .i64 ix, .slice ae out.length ce], .int .i64 2000] w' fun e w'' => e = .returned (.int .i64 (min (sizeM [(⟨3, ix, out⟩ : Lm)] : Int) 2001)) ∧ Below wr.heap.size wr w'') := fun w' hb => by
              refine (countM_any 2000 (by omega) (by omega) ⟨3, ix, out⟩ _ w' _ (HMV.out.later hb)).mono ?_
              rintro e w'' ⟨rfl, h⟩
              exact ⟨rfl, hb.trans (h.mono hb.size)⟩
            have hge : ¬ ((k : Int) < (l.length : Int)) := by omega
            have nO : O ≠ w.heap.size + 1 := by omega
            clear hse htk HMV
            go_upto_region 12 with fail
            have o0 : wr.cell? ⟨O, 0, none⟩ = some (.int .i64 3) := HS0.out.cell 0
            have o1 : wr.cell? ⟨O, 1, none⟩ = some (.int .i64 ix) := HS0.out.cell 1
            have o2 : wr.cell? ⟨O, 2, none⟩ = some (.slice ae out.length ce) := HS0.out.cell 2
            have HO0 := hide (And.intro o0 (And.intro o1 o2))
            have KPC : Hid (∀ w', Below wr.heap.size wr w' → w'.cell? ⟨O, 0, none⟩ = some (.int .i64 3) ∧ w'.cell? ⟨O, 1, none⟩ = some (.int .i64 ix) ∧ w'.cell? ⟨O, 2, none⟩ = some (.slice ae out.length ce)) := fun w' hb => ⟨(KP.out w' hb).cell 0, (KP.out w' hb).cell 1, (KP.out w' hb).cell 2⟩
            clear o0 o1 o2
            go_region_held3 (fun w' => w'.cell? ⟨O, 0, none⟩ = some (.int .i64 3) ∧ w'.cell? ⟨O, 1, none⟩ = some (.int .i64 ix) ∧ w'.cell? ⟨O, 2, none⟩ = some (.slice ae out.length ce)) (first | exact hS | exact HO0.out | exact ⟨set3_keep hS.1 nO, set3_keep hS.2.1 nO, set3_keep hS.2.2 nO⟩ | go_keep)
              (first | (go_at_call 14; refine (CNT.out _ (by first | exact Below.refl _ _ | exact HD.out)).mono ?_; rintro e w5 ⟨rfl, hb5⟩; have hS := KPC.out _ hb5; have RB := HR4.out _ hb5; have r0 : w5.cell? ⟨w.heap.size + 1, 0, none⟩ = some (.int .i64 0) := RB.cell 0; have r1 : w5.cell? ⟨w.heap.size + 1, 1, none⟩ = some (.int .i64 0) := RB.cell 1; have r2 : w5.cell? ⟨w.heap.size + 1, 2, none⟩ = some (.slice none 0 0) := RB.cell 2; have rf := RB.frozen))
            all_goals
              have HB6 := hide (XE.out.trans (hb5.mono XE.out.size))
              have HS6 := hide (HSE.out.later hb5)
              clear hS
            all_goals go_wp2_with fail
            all_goals refine bodyPost_ret (v := .tuple #[.agg #[.int .i64 3, .int .i64 ix, .slice ae out.length ce], .bool (decide (min (sizeM [(⟨3, ix, out⟩ : Lm)] : Int) 2001 ≤ 2000))]) (by simp [results, Tryz.results16, go_sem, World.cell?_setCell_same, World.cell?_setCell_other, r0, r1, r2]) rfl ?_
            all_goals exact dv_end (t' := ⟨3, ix, out⟩) (by omega) HB6.out HS6.out HRES.out _ _ _
      · have e3 : (kd == 3) = false := beq_eq_false_iff_ne.2 h3
        clear hrd ih he hkn hs
        go_enter Tryz.func16, Tryz.ntmps16
        go_upto_region 4 with fail
        have T3 := hide (T2.out.alloc (.cells #[.int .i64 kd, .int .i64 ix, .slice none 0 0] 26))
        have R3 := hide (R2.out.alloc (.cells #[.int .i64 kd, .int .i64 ix, .slice none 0 0] 26))
        have O3 := hide (Blk.new ((w.alloc (.cells #[.int .i64 kd, .int .i64 ix, .slice a l.length c] 26)).alloc (.cells #[.int .i64 0, .int .i64 0, .slice none 0 0] 26)) #[.int .i64 kd, .int .i64 ix, .slice none 0 0] 26)
        have B3 := hide (B2.out.alloc B2.out.size (.cells #[.int .i64 kd, .int .i64 ix, .slice none 0 0] 26))
        have eO : ((w.alloc (.cells #[.int .i64 kd, .int .i64 ix, .slice a l.length c] 26)).alloc (.cells #[.int .i64 0, .int .i64 0, .slice none 0 0] 26)).heap.size = w.heap.size + 2 := by simp
        rw [eO] at O3
        clear eO B2 T2 R2
        generalize ((w.alloc (.cells #[.int .i64 kd, .int .i64 ix, .slice a l.length c] 26)).alloc (.cells #[.int .i64 0, .int .i64 0, .slice none 0 0] 26)).alloc (.cells #[.int .i64 kd, .int .i64 ix, .slice none 0 0] 26) = w3 at *
        obtain ⟨O, eO⟩ : ∃ O, O = w.heap.size + 2 := ⟨_, rfl⟩
        rw [← eO] at O3
        simp only [← eO, show w.heap.size + 1 + 1 = O from eO.symm]
        have hO : w.heap.size + 2 ≤ O := by omega
        clear eO
        have q0 : w3.cell? ⟨w.heap.size, 0, none⟩ = some (.int .i64 kd) := T3.out.cell 0
        have q1 : w3.cell? ⟨w.heap.size, 1, none⟩ = some (.int .i64 ix) := T3.out.cell 1
        have q2 : w3.cell? ⟨w.heap.size, 2, none⟩ = some (.slice a l.length c) := T3.out.cell 2
        go_wp2_with fail
        clear q0 q1 q2
        go_loopw [39] (fun i wr => ∃ (k : Nat) (u : Value) (out : List Lm), k ≤ l.length ∧ i = .int .i64 (k : Int) ∧ devL (devT n) (l.take k) = some out ∧ out.length = k ∧ LmSet w (fun _ => False) O kd ix a l.length c u out wr) (fun i wr => l.length - (intOf i).toNat)
        case atStart => exact ⟨0, .slice none 0 0, [], Nat.zero_le _, rfl, by simp [devL], rfl, [], by have h := RowM.start w3 (O + 1) 26 (fun _ => False); simpa using h, B3.out, T3.out, R3.out, O3.out, O3.out.lt⟩
        case round =>
          obtain ⟨k, u9, out, hk, rfl, hdv, hol', hset⟩ := hrel
          have hol := hide hol'
          clear hol'
          have SET := hide hset
          have HDV := hide hdv
          obtain ⟨xs, hrow, hbb, hT, hR, hOb, hOl⟩ := hset
          have XE := hide hbb
          have XR := hide hR
          have XO := hide hOb
          have XW := hide hrow
          have XT := hide hT
          clear hrow hbb hR hOb hT hdv
          by_cases hlt : k < l.length
          · obtain ⟨b, o, a', c', hae, d0, d0', d1, hx⟩ := (HS.out.mono (Y := fun b => X b ∧ b < w.heap.size) fun b h1 h2 => ⟨h1, h2⟩).get XE.out (fun b h _ => h.2) k hlt
            have hbw : b < w.heap.size := by
              obtain ⟨_, h1⟩ := HS.out.mono (Y := fun b => X b ∧ b < w.heap.size) fun b h1 h2 => ⟨h1, h2⟩
              rcases h1 with h1 | ⟨b', o', e', h1⟩
              · rw [h1] at hlt; simp at hlt
              · rw [hae] at e'; cases e'; exact (liesM_get _ _ _ h1 k hlt).1.2
            subst hae
            have hlt2 : (k : Int) < (l.length : Int) := by omega
            have HLN : Hid (out.length ≤ 1000000) := by have := hol.out; unfold Hid; omega
            have HS8 : Hid (LmS w.heap.size b (o + k * 3) kd ix (some ⟨b, o, none⟩) l.length c l[k].kind l[k].idx (.slice a' l[k].subs.length c') wr) := ⟨XT.out, d0, d0', d1⟩
            have BQ : Below wr.heap.size wr (wr.alloc (.cells #[.int .i64 l[k].kind, .int .i64 l[k].idx, .slice a' l[k].subs.length c'] 26)) := (Below.refl _ _).alloc (Nat.le_refl _) _
            have HBQ := hide BQ
            have HX := hide (hx.later BQ)
            have hIH := hide (HIH.out l[k] (List.getElem_mem hlt))
            clear hx BQ
            go_wp2_with fail
            refine (hIH.out _ _ _ HX.out).mono ?_
            rintro e w5 ⟨hb5, hcase⟩
            have HB5 := hide (HBQ.out.trans (hb5.mono (by simp)))
            have hz5 : wr.heap.size ≤ w5.heap.size := HB5.out.size
            clear hb5 d0 d0' d1
            rcases hcase with ⟨t5, a5, c5, hd5, rfl, hs5⟩ | ⟨hd5, k5, x5, a5, l5, c5, rfl⟩
            · have HDN := hide (devL_step hlt HDV.out hd5)
              have HB7 := hide (HB5.out.alloc hz5 (.cells #[.int .i64 t5.kind, .int .i64 t5.idx, .slice a5 t5.subs.length c5] 26))
              have HS7 : Hid (SlM (w5.alloc (.cells #[.int .i64 t5.kind, .int .i64 t5.idx, .slice a5 t5.subs.length c5] 26)) (fun b => False ∨ wr.heap.size ≤ b) a5 t5.subs) := (hs5.mono fun b h _ => Or.inr (by simp at h; omega)).later ((Below.refl _ _).alloc (Nat.le_refl _) _)
              obtain ⟨g, cap, w9, hrun, S1, S2, S3, o3, of, S4, hset⟩ := lm_round (c1 := c5) (t := t5) hO (fun b h => h.elim) hbw SET.out HS8.out HLN.out HB7.out HS7.out
              have XO7 := hide (XO.out.below HB7.out XO.out.lt)
              have XX7 : Hid (Blk (w5.alloc (.cells #[.int .i64 t5.kind, .int .i64 t5.idx, .slice a5 t5.subs.length c5] 26)) w5.heap.size #[.int .i64 t5.kind, .int .i64 t5.idx, .slice a5 t5.subs.length c5] 26) := Blk.new _ _ _
              have hz7 : (w5.alloc (.cells #[.int .i64 t5.kind, .int .i64 t5.idx, .slice a5 t5.subs.length c5] 26)).heap.size = w5.heap.size + 1 := by simp
              rw [hz7] at hrun
              have y0 := XX7.out.cell 0
              have y1 := XX7.out.cell 1
              have y2 := XX7.out.cell 2
              have o2 := XO7.out.cell 2
              simp only [List.getElem?_toArray, List.getElem?_cons_succ, List.getElem?_cons_zero] at y0 y1 y2 o2
              have HRUN := hide hrun
              have HSET := hide hset
              clear hrun hset S1 S2 S3 S4 hd5 hs5
              go_wp2_with (at_builtin; refine wpList_append_eq rfl _ _ _ _ rfl rfl rfl HRUN.out ?_)
              go_roundw
              case rel => exact ⟨k + 1, _, out ++ [t5], by omega, by go_num, HDN.out, by have := hol.out; simp; omega, HSET.out⟩
              case measure => simp [intOf]; omega
            · have HN : Hid (devT (n + 1) ⟨kd, ix, l⟩ = none) := devT_none (devL_stop hlt HDV.out hd5)
              have R5 := hide (XR.out.below HB5.out XR.out.lt)
              have BW := hide ((XE.out.trans (HB5.out.mono XE.out.size)).alloc (by have := XE.out.size; omega) (.cells #[.int .i64 k5, .int .i64 x5, .slice a5 l5 c5] 26))
              have R6 := hide (R5.out.alloc (.cells #[.int .i64 k5, .int .i64 x5, .slice a5 l5 c5] 26))
              have r0 := R6.out.cell 0
              have r1 := R6.out.cell 1
              have r2 := R6.out.cell 2
              have rf := R6.out.frozen
              simp only [List.getElem?_toArray, List.getElem?_cons_succ, List.getElem?_cons_zero] at r0 r1 r2
              have r0' : w5.cell? ⟨w.heap.size + 1, 0, none⟩ = some (.int .i64 0) := R5.out.cell 0
              have r1' : w5.cell? ⟨w.heap.size + 1, 1, none⟩ = some (.int .i64 0) := R5.out.cell 1
              have r2' : w5.cell? ⟨w.heap.size + 1, 2, none⟩ = some (.slice none 0 0) := R5.out.cell 2
              have rf' := R5.out.frozen
              have hl5 : w.heap.size + 1 < w5.heap.size := R5.out.lt
              clear hd5
              go_wp2_with fail
              refine bodyPost_ret (v := .tuple #[.agg #[.int .i64 0, .int .i64 0, .slice none 0 0], .bool false]) (by simp [results, Tryz.results16, go_sem, World.cell?_setCell_same, World.cell?_setCell_other, r0, r1, r2, r0', r1', r2', hl5, World.cell?_alloc_old]) rfl ?_
              have HBF : ∀ o x0 x1 x2, Below w.heap.size w ((((w5.setCell ⟨w.heap.size + 1, 0, none⟩ x0).setCell ⟨w.heap.size + 1, 1, none⟩ x1).setCell ⟨w.heap.size + 1, 2, none⟩ x2).alloc o) ∧ Below w.heap.size w ((((w5.alloc o).setCell ⟨w.heap.size + 1, 0, none⟩ x0).setCell ⟨w.heap.size + 1, 1, none⟩ x1).setCell ⟨w.heap.size + 1, 2, none⟩ x2) := fun o x0 x1 x2 => ⟨(bl_set3 (XE.out.trans (HB5.out.mono XE.out.size)) _ (by omega) x0 x1 x2).alloc (by have := (bl_set3 (XE.out.trans (HB5.out.mono XE.out.size)) (w.heap.size + 1) (by omega) x0 x1 x2).size; omega) o, bl_set3 ((XE.out.trans (HB5.out.mono XE.out.size)).alloc (by have := XE.out.size; omega) o) _ (by omega) x0 x1 x2⟩
              exact ⟨by first | exact (HBF _ _ _ _).1 | exact (HBF _ _ _ _).2, Or.inr ⟨HN.out, _, _, _, _, _, rfl⟩⟩
          · have htk : l.take k = l := List.take_of_length_le (by omega)
            rw [htk] at HDV
            obtain ⟨ae, ce, rfl, hse⟩ := XW.out.sl
            have HSE : Hid (SlM wr (fun b => w.heap.size ≤ b ∧ b ≠ w.heap.size + 1) ae out) := hse.mono fun b hb _ => by
              rcases hb with h | h
              · exact h.elim
              · omega
            have HRES : Hid (devT (n + 1) ⟨kd, ix, l⟩ = if 2000 < sizeM [(⟨kd, ix, out⟩ : Lm)] then none else some ⟨kd, ix, out⟩) := by unfold Hid; rw [devT_succ HDV.out, HDK.out]
            have HMV : Hid (MV wr (fun b => w.heap.size ≤ b ∧ b ≠ w.heap.size + 1) (.agg #[.int .i64 kd, .int .i64 ix, .slice ae out.length ce]) ⟨kd, ix, out⟩) := ⟨ae, ce, rfl, HSE.out⟩
            have HS0 : Hid (Blk wr O #[.int .i64 kd, .int .i64 ix, .slice ae out.length ce] 26) := XO.out
            have KP : Hid (∀ w', Below wr.heap.size wr w' → Blk w' O #[.int .i64 kd, .int .i64 ix, .slice ae out.length ce] 26) := fun w' hb => XO.out.below hb XO.out.lt
            have HD : Hid (Below wr.heap.size wr wr.drew) := (Below.refl _ _).drew
            have HR4 : Hid (∀ w', Below wr.heap.size wr w' → Blk w' (w.heap.size + 1) #[.int .i64 0, .int .i64 0, .slice none 0 0] 26) := fun w' hb => XR.out.below hb XR.out.lt
            have CNT : Hid (∀ w', Below wr.heap.size wr w' → Calls Tryz.prog 14 #[.agg #[.int .i64 kd, .int .i64 ix, .slice ae out.length ce], .int .i64 2000] w' fun e w'' => e = .returned (.int .i64 (min (sizeM [(⟨kd, ix, out⟩ : Lm)] : Int) 2001)) ∧ Below wr.heap.size wr w'') := fun w' hb => by
              refine (countM_any 2000 (by omega) (by omega) ⟨kd, ix, out⟩ _ w' _ (HMV.out.later hb)).mono ?_
              rintro e w'' ⟨rfl, h⟩
              exact ⟨rfl, hb.trans (h.mono hb.size)⟩
            have hge : ¬ ((k : Int) < (l.length : Int)) := by omega
            have nO : O ≠ w.heap.size + 1 := by omega
            clear hse htk HMV
            go_upto_region 12 with fail
            have o0 : wr.cell? ⟨O, 0, none⟩ = some (.int .i64 kd) := HS0.out.cell 0
            have o1 : wr.cell? ⟨O, 1, none⟩ = some (.int .i64 ix) := HS0.out.cell 1
            have o2 : wr.cell? ⟨O, 2, none⟩ = some (.slice ae out.length ce) := HS0.out.cell 2
            have HO0 := hide (And.intro o0 (And.intro o1 o2))
            have KPC : Hid (∀ w', Below wr.heap.size wr w' → w'.cell? ⟨O, 0, none⟩ = some (.int .i64 kd) ∧ w'.cell? ⟨O, 1, none⟩ = some (.int .i64 ix) ∧ w'.cell? ⟨O, 2, none⟩ = some (.slice ae out.length ce)) := fun w' hb => ⟨(KP.out w' hb).cell 0, (KP.out w' hb).cell 1, (KP.out w' hb).cell 2⟩
            clear o0 o1 o2
            go_region_held3 (fun w' => w'.cell? ⟨O, 0, none⟩ = some (.int .i64 kd) ∧ w'.cell? ⟨O, 1, none⟩ = some (.int .i64 ix) ∧ w'.cell? ⟨O, 2, none⟩ = some (.slice ae out.length ce)) (first | exact hS | exact HO0.out | exact ⟨set3_keep hS.1 nO, set3_keep hS.2.1 nO, set3_keep hS.2.2 nO⟩ | go_keep)
              (first | (go_at_call 14; refine (CNT.out _ (by first | exact Below.refl _ _ | exact HD.out)).mono ?_; rintro e w5 ⟨rfl, hb5⟩; have hS := KPC.out _ hb5; have RB := HR4.out _ hb5; have r0 : w5.cell? ⟨w.heap.size + 1, 0, none⟩ = some (.int .i64 0) := RB.cell 0; have r1 : w5.cell? ⟨w.heap.size + 1, 1, none⟩ = some (.int .i64 0) := RB.cell 1; have r2 : w5.cell? ⟨w.heap.size + 1, 2, none⟩ = some (.slice none 0 0) := RB.cell 2; have rf := RB.frozen))
            all_goals
              have HB6 := hide (XE.out.trans (hb5.mono XE.out.size))
              have HS6 := hide (HSE.out.later hb5)
              clear hS
            all_goals go_wp2_with fail
            all_goals refine bodyPost_ret (v := .tuple #[.agg #[.int .i64 kd, .int .i64 ix, .slice ae out.length ce], .bool (decide (min (sizeM [(⟨kd, ix, out⟩ : Lm)] : Int) 2001 ≤ 2000))]) (by simp [results, Tryz.results16, go_sem, World.cell?_setCell_same, World.cell?_setCell_other, r0, r1, r2]) rfl ?_
            all_goals exact dv_end (t' := ⟨kd, ix, out⟩) (by omega) HB6.out HS6.out HRES.out _ _ _
end Go.Proofs.YtnllgbcakmddkaaGreatDoor


/- Walks: reduce.Develop, reduce.Eta. -/
namespace Go.Proofs.YtnllgbcakmddkaaGreatDoor
open Go.RowKit Go.Shelf
set_option linter.unusedSimpArgs false
set_option linter.unusedVariables false
set_option maxRecDepth 8000

/-- An error, or a term that is all new. -/
def RtPost (f : Int) (y : Lm) (w : World) (e : Ending) (w' : World) : Prop :=
  Below w.heap.size w w' ∧ ((f = 0 ∧ ∃ a c, e = .returned (.tuple #[.agg #[.int .i64 y.kind, .int .i64 y.idx, .slice a y.subs.length c], .int .i64 0]) ∧ SlM w' (fun b => w.heap.size ≤ b) a y.subs) ∨ (f ≠ 0 ∧ e = .returned (.tuple #[.agg #[.int .i64 0, .int .i64 0, .slice none 0 0], .int .i64 f])))
theorem rt_end {w wz : World} {y : Lm} {a : Option Addr} {c R : Nat} (hR : w.heap.size ≤ R) (hb : Below w.heap.size w wz) (hs : SlM wz (fun b => w.heap.size ≤ b ∧ b ≠ R) a y.subs) (v0 v1 v2 : Value) :
    RtPost 0 y w (.returned (.tuple #[.agg #[.int .i64 y.kind, .int .i64 y.idx, .slice a y.subs.length c], .int .i64 0])) (((wz.setCell ⟨R, 0, none⟩ v0).setCell ⟨R, 1, none⟩ v1).setCell ⟨R, 2, none⟩ v2) := by
  refine ⟨bl_set3 hb R hR _ _ _, Or.inl ⟨rfl, a, c, rfl, (hs.kept fun q hq => ?_).mono fun b h _ => h.1⟩⟩
  rw [Below.heap_setCell _ _ _ _ (by simpa using hq.2), Below.heap_setCell _ _ _ _ (by simpa using hq.2), Below.heap_setCell _ _ _ _ (by simpa using hq.2)]
def dvE (t : Lm) (u : Int) : Int := if lamE u 0 t = 0 then (if devT 2001 t = none then 8 else 0) else lamE u 0 t
def dvY (t : Lm) : Lm := (devT 2001 t).getD ⟨0, 0, []⟩

set_option maxHeartbeats 2000000 in
theorem rDevelop_any (t : Lm) (u : Int) (v : Value) (w : World) (X : Nat → Prop) (hv : MV w X v t) :
    Calls Tryz.prog 7 #[v, .int .i64 u] w fun e w' => RtPost (dvE t u) (dvY t) w e w' := by
  obtain ⟨a, c, rfl, hs⟩ := hv
  have HB0 : Hid (Below w.heap.size w ((w.alloc (.cells #[.int .i64 t.kind, .int .i64 t.idx, .slice a t.subs.length c] 26)).alloc (.cells #[.int .i64 0, .int .i64 0, .slice none 0 0] 26))) := below2M _ _
  have HV : Hid (MV ((w.alloc (.cells #[.int .i64 t.kind, .int .i64 t.idx, .slice a t.subs.length c] 26)).alloc (.cells #[.int .i64 0, .int .i64 0, .slice none 0 0] 26)) (fun b => X b ∧ b < w.heap.size) (.agg #[.int .i64 t.kind, .int .i64 t.idx, .slice a t.subs.length c]) t) := ⟨a, c, rfl, (hs.mono (Y := fun b => X b ∧ b < w.heap.size) fun b h1 h2 => ⟨h1, h2⟩).later HB0.out⟩
  have HT : Hid (Blk ((w.alloc (.cells #[.int .i64 t.kind, .int .i64 t.idx, .slice a t.subs.length c] 26)).alloc (.cells #[.int .i64 0, .int .i64 0, .slice none 0 0] 26)) w.heap.size #[.int .i64 t.kind, .int .i64 t.idx, .slice a t.subs.length c] 26) := (Blk.new w _ _).alloc _
  have HR : Hid (Blk ((w.alloc (.cells #[.int .i64 t.kind, .int .i64 t.idx, .slice a t.subs.length c] 26)).alloc (.cells #[.int .i64 0, .int .i64 0, .slice none 0 0] 26)) (w.heap.size + 1) #[.int .i64 0, .int .i64 0, .slice none 0 0] 26) := by
    have h := Blk.new (w.alloc (.cells #[.int .i64 t.kind, .int .i64 t.idx, .slice a t.subs.length c] 26)) #[.int .i64 0, .int .i64 0, .slice none 0 0] 26
    unfold Hid
    simpa using h
  have hz0 : (((w.alloc (.cells #[.int .i64 t.kind, .int .i64 t.idx, .slice a t.subs.length c] 26)).alloc (.cells #[.int .i64 0, .int .i64 0, .slice none 0 0] 26))).heap.size = w.heap.size + 2 := by simp
  clear hs
  go_enter Tryz.func7, Tryz.ntmps7
  go_wp2_with fail
  refine (lCheck_any t _ u _ _ HV.out).mono ?_
  rintro e w1 ⟨rfl, hb1⟩
  have B9 := hide (HB0.out.trans (hb1.mono (by omega)))
  have R9 := hide (HR.out.below hb1 (by omega))
  have T9 := hide (HT.out.below hb1 (by omega))
  have V9 := hide (HV.out.later hb1)
  have hz1 : w.heap.size + 2 ≤ w1.heap.size := by have := hb1.size; omega
  clear hb1 hz0
  by_cases h : lamE u 0 t = 0
  · have hle := lamE_ok h
    have HDV := hide (develop_at 2001 t u (by omega) hle.1.1 (by omega) hle.2.1)
    have HE : Hid (dvE t u = if devT 2001 t = none then 8 else 0) := by unfold Hid dvE; rw [if_pos h]
    rw [h]
    have c0 : w1.cell? ⟨w.heap.size, 0, none⟩ = some (.int .i64 t.kind) := T9.out.cell 0
    have c1 : w1.cell? ⟨w.heap.size, 1, none⟩ = some (.int .i64 t.idx) := T9.out.cell 1
    have c2 : w1.cell? ⟨w.heap.size, 2, none⟩ = some (.slice a t.subs.length c) := T9.out.cell 2
    clear h hle
    go_wp2_with fail
    refine (HDV.out _ w1 _ V9.out).mono ?_
    rintro e w2 ⟨hb2, hcase⟩
    have hz2 : w.heap.size + 2 ≤ w2.heap.size := by have := hb2.size; omega
    have B2 := hide (B9.out.trans (hb2.mono (by omega)))
    have R2 := hide (R9.out.below hb2 (by omega))
    clear c0 c1 c2
    rcases hcase with ⟨t', a2, c2, hd, rfl, hs2⟩ | ⟨hd, k2, x2, a2, l2, c2, rfl⟩
    · have HZ : Hid (dvE t u = 0) := by unfold Hid; rw [HE.out, hd]; simp
      have HY : Hid (dvY t = t') := by unfold Hid dvY; rw [hd]; rfl
      have S2 : Hid (SlM w2 (fun b => w.heap.size ≤ b ∧ b ≠ w.heap.size + 1) a2 t'.subs) := hs2.mono fun b h _ => by omega
      have KA : Hid (Blk (w2.alloc (.cells #[.int .i64 t'.kind, .int .i64 t'.idx, .slice a2 t'.subs.length c2] 26)) w2.heap.size #[.int .i64 t'.kind, .int .i64 t'.idx, .slice a2 t'.subs.length c2] 26) := Blk.new _ _ _
      have RA := hide (R2.out.alloc (.cells #[.int .i64 t'.kind, .int .i64 t'.idx, .slice a2 t'.subs.length c2] 26))
      have BA := hide (B2.out.alloc (by omega) (.cells #[.int .i64 t'.kind, .int .i64 t'.idx, .slice a2 t'.subs.length c2] 26))
      have SA := hide (S2.out.later ((Below.refl _ _).alloc (Nat.le_refl _) (.cells #[.int .i64 t'.kind, .int .i64 t'.idx, .slice a2 t'.subs.length c2] 26)))
      have q0 := KA.out.cell 0
      have q1 := KA.out.cell 1
      have q2 := KA.out.cell 2
      have r0 := RA.out.cell 0
      have r1 := RA.out.cell 1
      have r2 := RA.out.cell 2
      have rf := RA.out.frozen
      simp only [List.getElem?_toArray, List.getElem?_cons_succ, List.getElem?_cons_zero] at q0 q1 q2 r0 r1 r2
      clear hd hs2 hb2
      go_wp2_with fail
      refine bodyPost_ret (v := .tuple #[.agg #[.int .i64 t'.kind, .int .i64 t'.idx, .slice a2 t'.subs.length c2], .int .i64 0]) (by simp [results, Tryz.results7, go_sem, World.cell?_setCell_same, World.cell?_setCell_other, r0, r1, r2]) rfl ?_
      rw [HY.out, HZ.out]
      exact rt_end (by omega) BA.out SA.out _ _ _
    · have HZ : Hid (dvE t u = 8) := by unfold Hid; rw [HE.out, hd]; simp
      have RA := hide (R2.out.alloc (.cells #[.int .i64 k2, .int .i64 x2, .slice a2 l2 c2] 26))
      have r0 := RA.out.cell 0
      have r1 := RA.out.cell 1
      have r2 := RA.out.cell 2
      have rf := RA.out.frozen
      simp only [List.getElem?_toArray, List.getElem?_cons_succ, List.getElem?_cons_zero] at r0 r1 r2
      have r0' : w2.cell? ⟨w.heap.size + 1, 0, none⟩ = some (.int .i64 0) := R2.out.cell 0
      have r1' : w2.cell? ⟨w.heap.size + 1, 1, none⟩ = some (.int .i64 0) := R2.out.cell 1
      have r2' : w2.cell? ⟨w.heap.size + 1, 2, none⟩ = some (.slice none 0 0) := R2.out.cell 2
      have rf' := R2.out.frozen
      have hl2 : w.heap.size + 1 < w2.heap.size := by omega
      have HBF : Hid (∀ o x0 x1 x2, Below w.heap.size w ((((w2.setCell ⟨w.heap.size + 1, 0, none⟩ x0).setCell ⟨w.heap.size + 1, 1, none⟩ x1).setCell ⟨w.heap.size + 1, 2, none⟩ x2).alloc o) ∧ Below w.heap.size w ((((w2.alloc o).setCell ⟨w.heap.size + 1, 0, none⟩ x0).setCell ⟨w.heap.size + 1, 1, none⟩ x1).setCell ⟨w.heap.size + 1, 2, none⟩ x2)) := fun o x0 x1 x2 => ⟨(bl_set3 B2.out _ (by omega) x0 x1 x2).alloc (by have := (bl_set3 B2.out (w.heap.size + 1) (by omega) x0 x1 x2).size; omega) o, bl_set3 (B2.out.alloc (by omega) o) _ (by omega) x0 x1 x2⟩
      clear hd hb2
      go_wp2_with fail
      refine bodyPost_ret (v := .tuple #[.agg #[.int .i64 0, .int .i64 0, .slice none 0 0], .int .i64 8]) (by simp [results, Tryz.results7, go_sem, World.cell?_setCell_same, World.cell?_setCell_other, r0, r1, r2, r0', r1', r2', hl2, World.cell?_alloc_old]) rfl ?_
      rw [HZ.out]
      exact ⟨by first | exact (HBF.out _ _ _ _).1 | exact (HBF.out _ _ _ _).2, Or.inr ⟨by decide, rfl⟩⟩
  · have HE : Hid (dvE t u = lamE u 0 t) := by unfold Hid dvE; rw [if_neg h]
    have HNE := hide h
    have hne : (lamE u 0 t == 0) = false := beq_eq_false_iff_ne.2 h
    have r0 : w1.cell? ⟨w.heap.size + 1, 0, none⟩ = some (.int .i64 0) := R9.out.cell 0
    have r1 : w1.cell? ⟨w.heap.size + 1, 1, none⟩ = some (.int .i64 0) := R9.out.cell 1
    have r2 : w1.cell? ⟨w.heap.size + 1, 2, none⟩ = some (.slice none 0 0) := R9.out.cell 2
    have rf := R9.out.frozen
    clear h
    go_wp2_with fail
    refine bodyPost_ret (v := .tuple #[.agg #[.int .i64 0, .int .i64 0, .slice none 0 0], .int .i64 (lamE u 0 t)]) (by simp [results, Tryz.results7, go_sem, World.cell?_setCell_same, World.cell?_setCell_other, r0, r1, r2]) rfl ?_
    rw [HE.out]
    exact ⟨bl_set3 B9.out _ (by omega) _ _ _, Or.inr ⟨HNE.out, rfl⟩⟩

end Go.Proofs.YtnllgbcakmddkaaGreatDoor
