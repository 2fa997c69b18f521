/- Walks: a step at a knot is handed on, and more may be wanted. -/
import Derived.Test.YtagidfoiemgfcaaGreatDoorHs1
import Derived.Test.YtagidfoiemgfcaaGreatDoorZCTopChurchOwn
namespace Go.Proofs.YtagidfoiemgfcaaGreatDoor
open Go.RowKit Go.Shelf
attribute [local go_sem] Oper.semAt_some
set_option linter.unusedSimpArgs false
set_option linter.unusedVariables false
set_option maxRecDepth 8000

/-- What has been handed on. -/
def HgPost (J : Tk Hnd) (all pre : List Hnd) (f : Nat → Prop) (w : World) (e : Ending) (w' : World) : Prop := ∃ s, e = .returned (.bool s) ∧ Went J all pre f (fun _ => False) w s w'
theorem HgPost.none {J : Tk Hnd} {K : Nat → Prop} (hJ : TkOk J K) {pre : List Hnd} {f : Nat → Prop} {w w' : World} (h : J pre true f w) (hb : Below w.heap.size w w') : HgPost J [] pre f w (.returned (.bool true)) w' :=
  ⟨true, rfl, Went.from (g := fun _ => False) (Went.nil (hJ.later h hb)) (ExQ.ofBelow hb) fun _ h => h.elim⟩
theorem HgPost.one {J : Tk Hnd} {pre : List Hnd} {p : Hnd} {f : Nat → Prop} {w w5 w' : World} {e : Ending} (hb : Below w.heap.size w w5) (h : GoPost J pre p f w5 e w') : HgPost J [p] pre f w e w' := by
  obtain ⟨s, rfl, f', hj, he, hf⟩ := h
  exact ⟨s, rfl, (Went.one (g := fun _ => False) hj he hf).from (ExQ.ofBelow hb) fun _ h => h.elim⟩
theorem put_sayG {t z : Lm} {u i : Int} (ht : GdM (u + 1) t) (hz : GdM u z) (v x : Value) (w : World) (X : Nat → Prop) (hv : MV w X v t) (hx : MV w X x z) :
    Calls Tryz.prog 60 #[v, x, .int .i64 2000] w fun e w' => ∃ a c, e = .returned (.tuple #[.agg #[.int .i64 (hndC [⟨2, i, [t]⟩, z]).1.kind, .int .i64 (hndC [⟨2, i, [t]⟩, z]).1.idx, .slice a (hndC [⟨2, i, [t]⟩, z]).1.subs.length c], .bool (hndC [⟨2, i, [t]⟩, z]).2.1]) ∧ SlM w' (fun b => w.heap.size ≤ b) a (hndC [⟨2, i, [t]⟩, z]).1.subs ∧ Below w.heap.size w w' := by
  obtain ⟨h1, h2, h3, h4⟩ := ht
  obtain ⟨k1, k2, k3, k4⟩ := hz
  refine (bPut_any t z v x w X hv hx (by omega) (bnd_of_err _ _ _ h1 (by omega) (by omega) h3) (lf_of_err _ _ _ h3) (by omega) (bnd_of_err _ _ _ k1 (by omega) (by omega) k3) (lf_of_err _ _ _ k3)).mono ?_
  have ec : conT [⟨2, i, [t]⟩, z] = insT z 0 t := rfl
  rintro e w' ⟨hb, ⟨hs, a, c, rfl, hsl⟩ | ⟨hs, rfl⟩⟩
  · have e1 : hndC [⟨2, i, [t]⟩, z] = (insT z 0 t, true, insT z 0 t) := by unfold hndC; rw [ec, if_neg (by omega)]
    rw [e1]
    exact ⟨a, c, rfl, hsl, hb⟩
  · have e1 : hndC [⟨2, i, [t]⟩, z] = (⟨0, 0, []⟩, false, insT z 0 t) := by unfold hndC; rw [ec, if_pos (by omega)]
    rw [e1]
    exact ⟨none, 0, rfl, ⟨by simp, Or.inl rfl⟩, hb⟩

set_option maxHeartbeats 8000000 in
theorem hereG_any {y : Value} {J : Tk Hnd} {K : Nat → Prop} {all : List Hnd} {NN : Nat} (hT : GoTk y J all NN) (hJ : TkOk J K) (t : Lm) (u : Int) (hg : GdM u t) (hall : ∀ p ∈ hndH t, p ∈ all) (v : Value) (w : World) (X f : Nat → Prop) (pre : List Hnd) (hNN : pre.length + (hndH t).length ≤ NN) (hv : MV w X v t) (hXK : ∀ b, X b → K b) (hjw : J pre true f w) :
    Calls Tryz.prog 46 #[v, y] w fun e w' => HgPost J (hndH t) pre f w e w' := by
  have hX : ∀ b, X b → b < w.heap.size := fun b hb => hJ.inside hjw b (Or.inr (hXK b hb))
  have HFI : Hid (∀ b, f b → b < w.heap.size) := fun b hb => hJ.inside hjw b (Or.inl hb)
  have HJK := hide hJ
  have HJW := hide hjw
  obtain ⟨fn0, p0, q0, hy0⟩ := hT.form
  obtain ⟨k, xi, l⟩ := t
  obtain ⟨a, c, rfl, hs⟩ := hv
  dsimp only at hs ⊢
  by_cases h3 : k = 3
  case neg =>
    have HR : Hid (rdxT ⟨k, xi, l⟩ = false) := by unfold Hid rdxT; simp [h3]
    have e3 : (k == 3) = false := beq_eq_false_iff_ne.2 h3
    have e4 : (k != 3) = true := by simp [bne, e3]
    clear hs
    have HE0 : Hid (hndH ⟨k, xi, l⟩ = []) := by unfold Hid hndH; rw [HR.out]; simp
    subst hy0
    go_enter Tryz.func46, Tryz.ntmps46
    go_wp2_with fail
    go_ret
    rw [HE0.out]
    exact HgPost.none HJK.out HJW.out ((Below.refl _ _).alloc (Nat.le_refl _) _)
  subst h3
  have hl : l.length = 2 := by
    have := (knE_zero.1 (err_one0.1 hg.2.2.1).1).2.1
    rw [this]; rfl
  obtain ⟨f0, z, rfl⟩ : ∃ f0 z, l = [f0, z] := by
    match l, hl with
    | [f0, z], _ => exact ⟨f0, z, rfl⟩
  obtain ⟨B, o, a1, c1, a2, c2, rfl, hXB, d0, d1, d2, d3, d4, d5, hs1, hs2⟩ := slM_cells hs
  have hBw : B < w.heap.size := hX B hXB
  by_cases h2 : f0.kind = 2
  case neg =>
    have HR : Hid (rdxT ⟨3, xi, [f0, z]⟩ = false) := by unfold Hid rdxT; simp [h2]
    have e3 : (f0.kind == 2) = false := beq_eq_false_iff_ne.2 h2
    have e4 : (f0.kind != 2) = true := by simp [bne, e3]
    clear hs
    have HE0 : Hid (hndH ⟨3, xi, [f0, z]⟩ = []) := by unfold Hid hndH; rw [HR.out]; simp
    subst hy0
    go_enter Tryz.func46, Tryz.ntmps46
    go_wp2_with fail
    go_ret
    rw [HE0.out]
    exact HgPost.none HJK.out HJW.out ((Below.refl _ _).alloc (Nat.le_refl _) _)
  have HRD : Hid (rdxT ⟨3, xi, [f0, z]⟩ = true) := by unfold Hid rdxT; simp [h2]
  obtain ⟨kf, fi, lf⟩ := f0
  simp only at h2
  subst h2
  have hgf : GdM u ⟨2, fi, lf⟩ := by have := hg.subs (y := ⟨2, fi, lf⟩) (by simp); simpa [deepK] using this
  have hgz : GdM u z := by have := hg.subs (y := z) (by simp); simpa [deepK] using this
  have hlf : lf.length = 1 := by
    have := (knE_zero.1 (err_one0.1 hgf.2.2.1).1).2.1
    rw [this]; rfl
  obtain ⟨b, rfl⟩ : ∃ b, lf = [b] := by
    match lf, hlf with
    | [b], _ => exact ⟨b, rfl⟩
  have hgb : GdM (u + 1) b := by have := hgf.subs (y := b) (by simp); simpa [deepK] using this
  obtain ⟨B1, o1, a3, c3, rfl, hXB1, g0, g1, g2, hs3⟩ := slM_one hs1
  have hB1w : B1 < w.heap.size := hX B1 hXB1
  have hbB : Below w.heap.size w (w.alloc (.cells #[.int .i64 3, .int .i64 xi, .slice (some ⟨B, o, none⟩) 2 c] 26)) := (Below.refl _ _).alloc (Nat.le_refl _) _
  have hbD : Below w.heap.size w ((w.alloc (.cells #[.int .i64 3, .int .i64 xi, .slice (some ⟨B, o, none⟩) 2 c] 26))).drew := hbB.drew
  have PUT : Hid (∀ w', Below w.heap.size w w' → Calls Tryz.prog 60 #[.agg #[.int .i64 b.kind, .int .i64 b.idx, .slice a3 b.subs.length c3], .agg #[.int .i64 z.kind, .int .i64 z.idx, .slice a2 z.subs.length c2], .int .i64 2000] w' fun e w'' => ∃ a5 c5, e = .returned (.tuple #[.agg #[.int .i64 (hndC [⟨2, fi, [b]⟩, z]).1.kind, .int .i64 (hndC [⟨2, fi, [b]⟩, z]).1.idx, .slice a5 (hndC [⟨2, fi, [b]⟩, z]).1.subs.length c5], .bool (hndC [⟨2, fi, [b]⟩, z]).2.1]) ∧ SlM w'' (fun b => w.heap.size ≤ b ∧ b < w''.heap.size) a5 (hndC [⟨2, fi, [b]⟩, z]).1.subs ∧ Below w.heap.size w w'') := fun w' hb => by
    refine (put_sayG (i := fi) hgb hgz _ _ w' X ⟨a3, c3, rfl, hs3.later hb⟩ ⟨a2, c2, rfl, hs2.later hb⟩).mono ?_
    rintro e w'' ⟨a5, c5, rfl, h5, h6⟩
    exact ⟨a5, c5, rfl, h5.mono fun b h1 h2 => ⟨Nat.le_trans hb.size h1, h2⟩, hb.trans (h6.mono hb.size)⟩
  have HPA : Hid (hndC [⟨2, fi, [b]⟩, z] ∈ all) := hall _ (by unfold hndH; rw [HRD.out]; simp)
  have HHE : Hid (hndH ⟨3, xi, [⟨2, fi, [b]⟩, z]⟩ = [hndC [⟨2, fi, [b]⟩, z]]) := by unfold Hid hndH; rw [HRD.out]; simp
  rw [HHE.out] at hNN
  have HPN : Hid (pre.length < NN) := by unfold Hid; simp at hNN; omega
  clear hNN
  rw [HHE.out]
  generalize hndC [⟨2, fi, [b]⟩, z] = p at *
  clear hall hy0
  have HD := hide hbD
  have HJs : Hid (∀ w5, Below w.heap.size w w5 → J pre true f w5) := fun w5 hb => HJK.out.later HJW.out hb
  have HZs : Hid (∀ w5, Below w.heap.size w w5 → ∀ b, (w.heap.size ≤ b ∧ b < w5.heap.size) → b < w5.heap.size ∧ ¬ f b) := fun w5 hb b h => ⟨h.2, fun hf => by have := HFI.out b hf; omega⟩
  have hf1 : Fence.wide.fn 60 := trivial
  have hf2 : Fence.wide.fn 61 := trivial
  clear hs hs1 hs2 hs3 hg hgf hgz hgb hX hbB hbD hlf hl hjw hJ hXK HHE
  rcases hT with ⟨T, I, Y, rfl, hT⟩ | ⟨lp, rfl, hT⟩
  · have HTK := hide hT
    clear hT
    go_enter Tryz.func46, Tryz.ntmps46
    refine (wpIn_wide (n := 1)).1 ?_
    gi_wp2
    gi_region_with (first
        | (gi_at_call 60; refine (callsIn_wide.2 (PUT.out _ (by first | exact Below.refl _ _ | exact HD.out))).mono ?_; rintro e w5 ⟨a5, c5, rfl, hs5, hb5⟩; have TKC := HTK.out pre p _ _ f w5 HPA.out HPN.out (by exact HJs.out w5 hb5) ⟨a5, c5, rfl, hs5⟩ (by exact HZs.out w5 hb5))
        | (gi_at_call 61; refine (callsIn_wide.2 TKC).mono ?_; rintro e w6 ⟨s6, rfl, hS6⟩))
    all_goals
      have HF := hide hS6
      have HB5 := hide hb5
      clear hS6
      clear TKC
    all_goals gi_wp2
    all_goals go_ret
    all_goals exact HgPost.one HB5.out ⟨s6, rfl, HF.out⟩
  · have HTK := hide hT
    clear hT
    go_enter Tryz.func46, Tryz.ntmps46
    refine (wpIn_wide (n := 1)).1 ?_
    gi_wp2
    gi_region_with (first
        | (gi_at_call 60; refine (callsIn_wide.2 (PUT.out _ (by first | exact Below.refl _ _ | exact HD.out))).mono ?_; rintro e w5 ⟨a5, c5, rfl, hs5, hb5⟩; obtain ⟨hfn, htmps, hasg, hbody, hyy, hR⟩ := HTK.out pre p _ _ f w5 HPA.out HPN.out (by exact HJs.out w5 hb5) ⟨a5, c5, rfl, hs5⟩ (by exact HZs.out w5 hb5) 0)
        | (refine hR.mono ?_; rintro e w6 ⟨s6, rfl, hS6⟩))
    all_goals
      have HF := hide hS6
      have HB5 := hide hb5
      clear hS6
      skip
    all_goals gi_wp2
    all_goals go_ret
    all_goals exact HgPost.one HB5.out ⟨s6, rfl, HF.out⟩
end Go.Proofs.YtagidfoiemgfcaaGreatDoor
