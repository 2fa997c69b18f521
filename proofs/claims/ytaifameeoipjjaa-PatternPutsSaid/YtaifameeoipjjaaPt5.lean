/- Walks: pattern.Put. -/
import Derived.Test.YtaifameeoipjjaaPt4
import Derived.Test.YtaifameeoipjjaaLn9
import Derived.Test.YtaifameeoipjjaaL27
namespace Go.Proofs.Ytaifameeoipjjaa
open Go.RowKit
set_option linter.unusedSimpArgs false
set_option linter.unusedVariables false
set_option maxRecDepth 8000

/-- What Put tells. -/
def pputR (W : List Lm) (t : Lm) (z : Int) : Int × Lm :=
  if pputE W t z = 0 then (if 2000 < sizeM [filT W t] then (8, ⟨0, 0, []⟩) else if (endM false z.toNat (filT W t)).1 = 0 then (0, etaT (endM false z.toNat (filT W t)).2.1) else ((endM false z.toNat (filT W t)).1, ⟨0, 0, []⟩)) else (pputE W t z, ⟨0, 0, []⟩)
def PuP (r : Int × Lm) (w : World) (e : Ending) (w' : World) : Prop :=
  Below w.heap.size w w' ∧ ((r.1 = 0 ∧ ∃ a c, e = .returned (.tuple #[.agg #[.int .i64 r.2.kind, .int .i64 r.2.idx, .slice a r.2.subs.length c], .int .i64 0]) ∧ SlM w' (fun b => w.heap.size ≤ b) a r.2.subs) ∨ (r.1 ≠ 0 ∧ e = .returned (.tuple #[.agg #[.int .i64 0, .int .i64 0, .slice none 0 0], .int .i64 r.1])))
theorem set3_keepP {w : World} {V : Nat} (u0 u1 u2 : Value) (b : Nat) (hb : b ≠ V) : (((w.setCell ⟨V, 0, none⟩ u0).setCell ⟨V, 1, none⟩ u1).setCell ⟨V, 2, none⟩ u2).heap[b]? = w.heap[b]? := by
  rw [Below.heap_setCell _ _ _ _ (by simpa using hb), Below.heap_setCell _ _ _ _ (by simpa using hb), Below.heap_setCell _ _ _ _ (by simpa using hb)]
theorem set3_belowP {w wz : World} {V : Nat} (h : Below w.heap.size w wz) (hV : w.heap.size ≤ V) (u0 u1 u2 : Value) : Below w.heap.size w (((wz.setCell ⟨V, 0, none⟩ u0).setCell ⟨V, 1, none⟩ u1).setCell ⟨V, 2, none⟩ u2) :=
  ((h.setCell (p := ⟨V, 0, none⟩) hV _).setCell (p := ⟨V, 1, none⟩) hV _).setCell (p := ⟨V, 2, none⟩) hV _
theorem set3_blkP {w : World} {V T : Nat} {x0 x1 x2 : Value} (h : Blk w V #[x0, x1, x2] T) (u0 u1 u2 : Value) : Blk (((w.setCell ⟨V, 0, none⟩ u0).setCell ⟨V, 1, none⟩ u1).setCell ⟨V, 2, none⟩ u2) V #[u0, u1, u2] T := ((h.set 0 u0).set 1 u1).set 2 u2
theorem pu_bad {r : Int × Lm} {w wz : World} {R : Nat} (hR : w.heap.size ≤ R) (hb : Below w.heap.size w wz) (h : r.1 ≠ 0) {q : Int} (hq : q = r.1) (u0 u1 u2 : Value) : PuP r w (.returned (.tuple #[.agg #[.int .i64 0, .int .i64 0, .slice none 0 0], .int .i64 q])) (((wz.setCell ⟨R, 0, none⟩ u0).setCell ⟨R, 1, none⟩ u1).setCell ⟨R, 2, none⟩ u2) :=
  ⟨set3_belowP hb hR _ _ _, Or.inr ⟨h, by rw [hq]⟩⟩
theorem pu_good {r : Int × Lm} {w wz : World} {R : Nat} {y : Lm} {a : Option Addr} {c : Nat} (hR : w.heap.size ≤ R) (hb : Below w.heap.size w wz) (h : r = (0, y)) (hs : SlM wz (fun b => w.heap.size ≤ b ∧ b ≠ R) a y.subs) (u0 u1 u2 : Value) : PuP r w (.returned (.tuple #[.agg #[.int .i64 y.kind, .int .i64 y.idx, .slice a y.subs.length c], .int .i64 0])) (((wz.setCell ⟨R, 0, none⟩ u0).setCell ⟨R, 1, none⟩ u1).setCell ⟨R, 2, none⟩ u2) := by
  subst h
  exact ⟨set3_belowP hb hR _ _ _, Or.inl ⟨rfl, a, c, rfl, (hs.kept fun b h => set3_keepP _ _ _ b h.2).mono fun b h _ => h.1⟩⟩
theorem end_okP {u : Int} (M : Int) (hu : 0 ≤ u) (m : Nat) : ∀ t : Lm, errM u M [t] = 0 → sizeM [t] ≤ 2000 → errM u M [(endM false m t).2.1] = 0 ∧ sizeM [(endM false m t).2.1] ≤ 2000 := by
  induction m with
  | zero => intro t h1 h2; rw [endM]; split <;> exact ⟨h1, h2⟩
  | succ m ih =>
    intro t h1 h2
    rw [endM]
    split
    · split
      · exact ⟨h1, h2⟩
      · exact ih _ (err_stp false M 2001 t u hu h1) (by omega)
    · exact ⟨h1, h2⟩
/-- What is put together may be worked out, and eta be taken of its end. -/
theorem put_goodP {W : List Lm} {t : Lm} {z : Int} (h : pputE W t z = 0) : (∃ n : Nat, z = (n : Int) ∧ n ≤ 400) ∧ errM 0 12 [filT W t] = 0 ∧ UnkM W.length [t] ∧ sizeM [t] ≤ 200 := by
  unfold pputE at h
  split at h
  · cases h
  · split at h
    · rename_i h1
      split at h
      · rename_i h2
        split at h
        · cases h
        · rename_i h3
          obtain ⟨e1, e2⟩ := lamE_partsP h2
          exact ⟨⟨z.toNat, by omega, by omega⟩, err_filT (fun y hy => (lamE_partsP (wE_all h1 y hy)).1) (by omega) e1, unk_of_err _ _ _ e1, e2⟩
      · rename_i h2; exact absurd h h2
    · rename_i h1; exact absurd h h1

set_option maxHeartbeats 4000000 in
theorem pPut_any (W : List Lm) (wa : Option Addr) (wc : Nat) (t : Lm) (v : Value) (z : Int) (w : World) (X : Nat → Prop) (hv : MV w X v t) (hw : SlM w X wa W) :
    Calls Try.prog 10 #[v, .slice wa W.length wc, .int .i64 z] w fun e w' => PuP (pputR W t z) w e w' := by
  obtain ⟨a, c, rfl, hs⟩ := hv
  obtain ⟨XR, hXR⟩ : ∃ XR : Nat → Prop, XR = fun b => X b ∧ b < w.heap.size := ⟨_, rfl⟩
  have V0 : Hid (∀ w', Below w.heap.size w w' → MV w' XR (.agg #[.int .i64 t.kind, .int .i64 t.idx, .slice a t.subs.length c]) t) := fun w' hb => by rw [hXR]; exact ⟨a, c, rfl, (hs.mono (Y := fun b => X b ∧ b < w.heap.size) fun b h1 h2 => ⟨h1, h2⟩).below hb (fun b h _ => h.2)⟩
  have W0 : Hid (∀ w', Below w.heap.size w w' → SlM w' XR wa W) := fun w' hb => by rw [hXR]; exact (hw.mono (Y := fun b => X b ∧ b < w.heap.size) fun b h1 h2 => ⟨h1, h2⟩).below hb (fun b h _ => h.2)
  have HXR : Hid (∀ b, XR b → b < w.heap.size) := fun b h => by rw [hXR] at h; exact h.2
  have hwl := hw.1
  clear hs hw hXR
  have T2 : Hid (Blk ((w.alloc (.cells #[.int .i64 t.kind, .int .i64 t.idx, .slice a t.subs.length c] 24)).alloc (.cells #[.int .i64 0, .int .i64 0, .slice none 0 0] 24)) w.heap.size #[.int .i64 t.kind, .int .i64 t.idx, .slice a t.subs.length c] 24) := (Blk.new w _ _).alloc _
  have R2 : Hid (Blk ((w.alloc (.cells #[.int .i64 t.kind, .int .i64 t.idx, .slice a t.subs.length c] 24)).alloc (.cells #[.int .i64 0, .int .i64 0, .slice none 0 0] 24)) (w.heap.size + 1) #[.int .i64 0, .int .i64 0, .slice none 0 0] 24) := by
    have h := Blk.new (w.alloc (.cells #[.int .i64 t.kind, .int .i64 t.idx, .slice a t.subs.length c] 24)) #[.int .i64 0, .int .i64 0, .slice none 0 0] 24
    rw [World.size_alloc] at h
    exact h
  have HB2 : Hid (Below w.heap.size w ((w.alloc (.cells #[.int .i64 t.kind, .int .i64 t.idx, .slice a t.subs.length c] 24)).alloc (.cells #[.int .i64 0, .int .i64 0, .slice none 0 0] 24))) := ((Below.refl _ _).alloc (Nat.le_refl _) _).alloc (by simp) _
  have c0 := T2.out.cell 0
  have c1 := T2.out.cell 1
  have c2 := T2.out.cell 2
  go_enter Try.func10, Try.ntmps10
  go_wp2_with fail
  generalize ((w.alloc (.cells #[.int .i64 t.kind, .int .i64 t.idx, .slice a t.subs.length c] 24)).alloc (.cells #[.int .i64 0, .int .i64 0, .slice none 0 0] 24)) = w2 at *
  refine (checkPut_any W wa wc t _ z w2 XR (V0.out _ HB2.out) (W0.out _ HB2.out)).mono ?_
  rintro e w3 ⟨rfl, hb3⟩
  have HB3 := hide (HB2.out.trans (hb3.mono HB2.out.size))
  have T3 := hide (T2.out.below hb3 T2.out.lt)
  have R3 := hide (R2.out.below hb3 R2.out.lt)
  clear hb3 c0 c1 c2 T2 R2 HB2
  obtain ⟨R, eR⟩ : ∃ R, R = w.heap.size + 1 := ⟨_, rfl⟩
  rw [← eR] at R3
  rw [← eR]
  obtain ⟨T, eT⟩ : ∃ T, T = w.heap.size := ⟨_, rfl⟩
  have T3' : Hid (Blk w3 T #[.int .i64 t.kind, .int .i64 t.idx, .slice a t.subs.length c] 24) := by rw [eT]; exact T3.out
  rw [← eT]
  have HTR : Hid (w.heap.size ≤ R ∧ T ≠ R ∧ w.heap.size ≤ T) := by unfold Hid; omega
  have HIN : Hid (∀ b, XR b → b ≠ T ∧ b ≠ R) := fun b h => by have := HXR.out b h; omega
  have HRO : Hid (R < w3.heap.size ∧ T < w3.heap.size) := ⟨R3.out.lt, T3'.out.lt⟩
  clear T3 eR eT
  have r0 : w3.cell? ⟨R, 0, none⟩ = some (.int .i64 0) := R3.out.cell 0
  have r1 : w3.cell? ⟨R, 1, none⟩ = some (.int .i64 0) := R3.out.cell 1
  have r2 : w3.cell? ⟨R, 2, none⟩ = some (.slice none 0 0) := R3.out.cell 2
  have rf := R3.out.frozen
  have hRl : R < w3.heap.size := R3.out.lt
  by_cases hz : pputE W t z = 0
  · obtain ⟨⟨n, rfl, hn⟩, hE, hU, hsz⟩ := put_goodP hz
    have HPR : Hid (pputR W t (n : Int) = if 2000 < sizeM [filT W t] then (8, ⟨0, 0, []⟩) else if (endM false n (filT W t)).1 = 0 then (0, etaT (endM false n (filT W t)).2.1) else ((endM false n (filT W t)).1, ⟨0, 0, []⟩)) := by unfold Hid pputR; rw [if_pos hz]; simp
    have HE := hide hE
    have FL := hide (fill_any W wa wc t _ w3 XR (V0.out _ HB3.out) (W0.out _ HB3.out) (by omega) hU)
    have c0 : w3.cell? ⟨T, 0, none⟩ = some (.int .i64 t.kind) := T3'.out.cell 0
    have c1 : w3.cell? ⟨T, 1, none⟩ = some (.int .i64 t.idx) := T3'.out.cell 1
    have c2 : w3.cell? ⟨T, 2, none⟩ = some (.slice a t.subs.length c) := T3'.out.cell 2
    rw [hz]
    generalize filT W t = f at *
    clear hz hE hU hsz r0 r1 r2 rf hRl
    go_wp2_with fail
    refine FL.out.mono ?_
    rintro e w4 ⟨a4, c4, rfl, hs4, hb4⟩
    have HB4 := hide (HB3.out.trans (hb4.mono HB3.out.size))
    have R4 := hide (R3.out.below hb4 R3.out.lt)
    have T4 := hide (T3'.out.below hb4 T3'.out.lt)
    have S4 : Hid (SlM w4 (fun b => b ≠ T ∧ b ≠ R) a4 f.subs) := hs4.mono fun b h _ => by
      rcases h with h | h
      · exact HIN.out b h.1
      · have := HRO.out; omega
    clear hs4 hb4 c0 c1 c2 FL R3 T3'
    have t0 : w4.cell? ⟨T, 0, none⟩ = some (.int .i64 t.kind) := T4.out.cell 0
    have t1 : w4.cell? ⟨T, 1, none⟩ = some (.int .i64 t.idx) := T4.out.cell 1
    have t2 : w4.cell? ⟨T, 2, none⟩ = some (.slice a t.subs.length c) := T4.out.cell 2
    have tf := T4.out.frozen
    have hTl : T < w4.heap.size := T4.out.lt
    have HB5 := hide (set3_belowP HB4.out HTR.out.2.2 (.int .i64 f.kind) (.int .i64 f.idx) (.slice a4 f.subs.length c4))
    have T5 := hide (set3_blkP T4.out (.int .i64 f.kind) (.int .i64 f.idx) (.slice a4 f.subs.length c4))
    have R5 : Hid (Blk (((w4.setCell ⟨T, 0, none⟩ (.int .i64 f.kind)).setCell ⟨T, 1, none⟩ (.int .i64 f.idx)).setCell ⟨T, 2, none⟩ (.slice a4 f.subs.length c4)) R #[.int .i64 0, .int .i64 0, .slice none 0 0] 24) := (set3_keepP _ _ _ R (fun h => HTR.out.2.1 h.symm)).trans R4.out
    have S5 : Hid (SlM (((w4.setCell ⟨T, 0, none⟩ (.int .i64 f.kind)).setCell ⟨T, 1, none⟩ (.int .i64 f.idx)).setCell ⟨T, 2, none⟩ (.slice a4 f.subs.length c4)) (fun b => b ≠ T ∧ b ≠ R) a4 f.subs) := S4.out.kept fun b h => set3_keepP _ _ _ b h.1
    have CN := hide (countM_any 2000 (by omega) (by omega) f _ _ _ ⟨a4, c4, rfl, S5.out⟩)
    go_wp2_with fail
    generalize (((w4.setCell ⟨T, 0, none⟩ (.int .i64 f.kind)).setCell ⟨T, 1, none⟩ (.int .i64 f.idx)).setCell ⟨T, 2, none⟩ (.slice a4 f.subs.length c4)) = w5 at *
    refine CN.out.mono ?_
    rintro e w6 ⟨rfl, hb6⟩
    have HB6 := hide (HB5.out.trans (hb6.mono HB5.out.size))
    have R6 := hide (R5.out.below hb6 R5.out.lt)
    have T6 := hide (T5.out.below hb6 T5.out.lt)
    have S6 := hide (S5.out.later hb6)
    clear hb6 t0 t1 t2 tf hTl CN
    by_cases h2 : 2000 < sizeM [f]
    · have hg : min (sizeM [f] : Int) (2000 + 1) > 2000 := by omega
      have HR1 : Hid (pputR W t (n : Int) = (8, ⟨0, 0, []⟩)) := by unfold Hid; rw [HPR.out, if_pos h2]
      have r0 : w6.cell? ⟨R, 0, none⟩ = some (.int .i64 0) := R6.out.cell 0
      have r1 : w6.cell? ⟨R, 1, none⟩ = some (.int .i64 0) := R6.out.cell 1
      have r2 : w6.cell? ⟨R, 2, none⟩ = some (.slice none 0 0) := R6.out.cell 2
      have rf := R6.out.frozen
      have hRl : R < w6.heap.size := R6.out.lt
      go_wp2_with fail
      refine bodyPost_ret (v := .tuple #[.agg #[.int .i64 0, .int .i64 0, .slice none 0 0], .int .i64 8]) (by simp [results, Try.results10, go_sem, World.cell?_setCell_same, World.cell?_setCell_other, r0, r1, r2, hRl]) rfl ?_
      exact pu_bad HTR.out.1 HB6.out (by rw [HR1.out]; simp) (by rw [HR1.out]) _ _ _
    · have hg : ¬ min (sizeM [f] : Int) (2000 + 1) > 2000 := by omega
      have c0 : w6.cell? ⟨T, 0, none⟩ = some (.int .i64 f.kind) := T6.out.cell 0
      have c1 : w6.cell? ⟨T, 1, none⟩ = some (.int .i64 f.idx) := T6.out.cell 1
      have c2 : w6.cell? ⟨T, 2, none⟩ = some (.slice a4 f.subs.length c4) := T6.out.cell 2
      have RN := hide (bRun_any 0 n f _ w6 _ hn (by omega) HE.out (by omega) ⟨a4, c4, rfl, S6.out⟩)
      have GE := hide (end_okP 12 (by omega) n f HE.out (by omega))
      have HPR2 : Hid (pputR W t (n : Int) = if (endM false n f).1 = 0 then (0, etaT (endM false n f).2.1) else ((endM false n f).1, ⟨0, 0, []⟩)) := by unfold Hid; rw [HPR.out, if_neg h2]
      have NZ : Hid (w6.heap.size > R ∧ w6.heap.size > T) := ⟨R6.out.lt, T6.out.lt⟩
      clear h2
      go_wp2_with fail
      refine RN.out.mono ?_
      rintro e w7 ⟨hb7, hcs⟩
      have HB7 := hide (HB6.out.trans (hb7.mono HB6.out.size))
      have R7 := hide (R6.out.below hb7 R6.out.lt)
      clear hb7 RN
      rcases hcs with ⟨h0, a7, c7, rfl, hs7⟩ | ⟨h0, rfl⟩
      · have HR1 : Hid (pputR W t (n : Int) = (0, etaT (endM false n f).2.1)) := by unfold Hid; rw [HPR2.out, if_pos h0]
        clear HPR2 HPR
        generalize (endM false n f).2.1 = y at *
        generalize (endM false n f).2.2 = st at *
        have S8 := hide (hs7.later (Below.refl w7.heap.size w7 |>.alloc (Nat.le_refl _) (.cells #[.int .i64 y.kind, .int .i64 y.idx, .slice a7 y.subs.length c7] 24)))
        have HB8 := hide (HB7.out.alloc HB7.out.size (.cells #[.int .i64 y.kind, .int .i64 y.idx, .slice a7 y.subs.length c7] 24))
        have R8 := hide (R7.out.alloc (.cells #[.int .i64 y.kind, .int .i64 y.idx, .slice a7 y.subs.length c7] 24))
        have ET := hide (eta_any y _ _ _ ⟨a7, c7, rfl, S8.out⟩ (by have := GE.out.2; omega) (bnd_of_err _ 0 12 (by omega) (by have := GE.out.2; omega) (by omega) GE.out.1) (sh_of_err _ _ _ GE.out.1))
        clear hs7 h0
        go_wp2_with fail
        generalize (w7.alloc (.cells #[.int .i64 y.kind, .int .i64 y.idx, .slice a7 y.subs.length c7] 24)) = w8 at *
        refine ET.out.mono ?_
        rintro e w9 ⟨a9, c9, rfl, hs9, hb9⟩
        have HB9 := hide (HB8.out.trans (hb9.mono HB8.out.size))
        have R9 := hide (R8.out.below hb9 R8.out.lt)
        have S9 : Hid (SlM w9 (fun b => w.heap.size ≤ b ∧ b ≠ R) a9 (etaT y).subs) := hs9.mono fun b h _ => by have := R8.out.lt; have := HB8.out.size; omega
        clear hs9 hb9 ET
        have r0 : w9.cell? ⟨R, 0, none⟩ = some (.int .i64 0) := R9.out.cell 0
        have r1 : w9.cell? ⟨R, 1, none⟩ = some (.int .i64 0) := R9.out.cell 1
        have r2 : w9.cell? ⟨R, 2, none⟩ = some (.slice none 0 0) := R9.out.cell 2
        have rf := R9.out.frozen
        have hRl : R < w9.heap.size := R9.out.lt
        generalize etaT y = x at *
        go_wp2_with fail
        refine bodyPost_ret (v := .tuple #[.agg #[.int .i64 x.kind, .int .i64 x.idx, .slice a9 x.subs.length c9], .int .i64 0]) (by simp [results, Try.results10, go_sem, World.cell?_setCell_same, World.cell?_setCell_other, r0, r1, r2, hRl]) rfl ?_
        exact pu_good HTR.out.1 HB9.out HR1.out S9.out _ _ _
      · have HR1 : Hid (pputR W t (n : Int) = ((endM false n f).1, ⟨0, 0, []⟩)) := by unfold Hid; rw [HPR2.out, if_neg h0]
        clear HPR2 HPR
        generalize (endM false n f).1 = er at *
        have e1 : (er == 0) = false := by simpa using h0
        have e2 : (er != 0) = true := by simpa using h0
        have R8 := hide (R7.out.alloc (.cells #[.int .i64 0, .int .i64 0, .slice none 0 0] 24))
        have HB8 := hide (HB7.out.alloc HB7.out.size (.cells #[.int .i64 0, .int .i64 0, .slice none 0 0] 24))
        have r0 : w7.cell? ⟨R, 0, none⟩ = some (.int .i64 0) := R7.out.cell 0
        have r1 : w7.cell? ⟨R, 1, none⟩ = some (.int .i64 0) := R7.out.cell 1
        have r2 : w7.cell? ⟨R, 2, none⟩ = some (.slice none 0 0) := R7.out.cell 2
        have rf := R7.out.frozen
        have hRl : R < w7.heap.size := R7.out.lt
        have KF : Hid (∀ o x0 x1 x2, Below w.heap.size w ((((w7.setCell ⟨R, 0, none⟩ x0).setCell ⟨R, 1, none⟩ x1).setCell ⟨R, 2, none⟩ x2).alloc o)) := fun o x0 x1 x2 => (set3_belowP HB7.out HTR.out.1 x0 x1 x2).alloc (set3_belowP HB7.out HTR.out.1 x0 x1 x2).size o
        go_wp2_with fail
        refine bodyPost_ret (v := .tuple #[.agg #[.int .i64 0, .int .i64 0, .slice none 0 0], .int .i64 er]) (by simp [results, Try.results10, go_sem, World.cell?_setCell_same, World.cell?_setCell_other, r0, r1, r2, hRl]) rfl ?_
        exact ⟨KF.out _ _ _ _, Or.inr ⟨by rw [HR1.out]; exact h0, by rw [HR1.out]⟩⟩
  · have h1 : (pputE W t z == 0) = false := by simpa using hz
    have h2 : (pputE W t z != 0) = true := by simpa using hz
    have HR1 : Hid (pputR W t z = (pputE W t z, ⟨0, 0, []⟩)) := by unfold Hid pputR; rw [if_neg hz]
    go_wp2_with fail
    refine bodyPost_ret (v := .tuple #[.agg #[.int .i64 0, .int .i64 0, .slice none 0 0], .int .i64 (pputE W t z)]) (by simp [results, Try.results10, go_sem, World.cell?_setCell_same, World.cell?_setCell_other, r0, r1, r2, hRl]) rfl ?_
    exact pu_bad HTR.out.1 HB3.out (by rw [HR1.out]; exact hz) (by rw [HR1.out]) _ _ _
end Go.Proofs.Ytaifameeoipjjaa
