/- Walks: a step at a knot is handed on. -/
import Derived.Test.YtaifameeoipjjaaLn2
import Derived.Test.YtaifameeoipjjaaL10
import Derived.Stop.RegionWithIn
namespace Go.Proofs.Ytaifameeoipjjaa
open Go.RowKit Go.Shelf
attribute [local go_sem] Oper.semAt_some
set_option linter.unusedSimpArgs false
set_option linter.unusedVariables false
set_option maxRecDepth 8000

/-- A lambda term that may be, under u binders, not too great. -/
def GdM (u : Int) (t : Lm) : Prop := 0 ≤ u ∧ u + sizeM [t] ≤ 45000 ∧ (∃ M : Int, errM u M [t] = 0 ∧ M ≤ 40) ∧ sizeM [t] ≤ 2000
def HrPost (w : World) (t : Lm) (S : Lm → Bool → World → Prop) (e : Ending) (w' : World) : Prop :=
  (rdxT t = false ∧ e = .returned (.bool true) ∧ Below w.heap.size w w') ∨ (rdxT t = true ∧ e = .returned (.bool false) ∧ ∃ x ok, (ok = true → x = conT t.subs) ∧ (ok = false → 2000 < sizeM [conT t.subs]) ∧ S x ok w')
theorem put_say {t z : Lm} {u : Int} (ht : GdM (u + 1) t) (hz : GdM u z) (v x : Value) (w : World) (X : Nat → Prop) (hv : MV w X v t) (hx : MV w X x z) :
    Calls Try.prog 44 #[v, x, .int .i64 2000] w fun e w' => ∃ q ok a c, e = .returned (.tuple #[.agg #[.int .i64 q.kind, .int .i64 q.idx, .slice a q.subs.length c], .bool ok]) ∧ SlM w' (fun b => w.heap.size ≤ b) a q.subs ∧ Below w.heap.size w w' ∧ (ok = true → q = insT z 0 t) ∧ (ok = false → 2000 < sizeM [insT z 0 t]) := by
  obtain ⟨h1, h2, ⟨M1, h3, hM1⟩, h4⟩ := ht
  obtain ⟨k1, k2, ⟨M2, k3, hM2⟩, k4⟩ := hz
  refine (bPut_any t z v x w X hv hx (by omega) (bnd_of_err _ _ _ h1 (by omega) (by omega) h3) (lf_of_err _ _ _ h3) (by omega) (bnd_of_err _ _ _ k1 (by omega) (by omega) k3) (lf_of_err _ _ _ k3)).mono ?_
  rintro e w' ⟨hb, ⟨hs, a, c, rfl, hsl⟩ | ⟨hs, rfl⟩⟩
  · exact ⟨_, true, a, c, rfl, hsl, hb, fun _ => rfl, by simp⟩
  · exact ⟨⟨0, 0, []⟩, false, none, 0, rfl, ⟨by simp, Or.inl rfl⟩, hb, by simp, fun _ => hs⟩
theorem GdM.subs {u k x : Int} {l : List Lm} (h : GdM u ⟨k, x, l⟩) {y : Lm} (hy : y ∈ l) : GdM (deepK u k) y := by
  obtain ⟨h1, h2, ⟨M, h3, hM⟩, h4⟩ := h
  rw [sizeM_one] at h2 h4
  obtain ⟨i, hi, rfl⟩ := List.mem_iff_getElem.1 hy
  have := sizeM_get l i hi
  have hd : u ≤ deepK u k ∧ deepK u k ≤ u + 1 := by unfold deepK; split <;> omega
  exact ⟨by omega, by omega, ⟨M, err_all0.1 (err_one0.1 h3).2 _ hy, hM⟩, by omega⟩
theorem slM_cells {w : World} {X : Nat → Prop} {a : Option Addr} {f z : Lm} (h : SlM w X a [f, z]) : ∃ B o a1 c1 a2 c2, a = some ⟨B, o, none⟩ ∧ X B ∧ w.cell? ⟨B, o, none⟩ = some (.int .i64 f.kind) ∧ w.cell? ⟨B, o + 1, none⟩ = some (.int .i64 f.idx) ∧ w.cell? ⟨B, o + 2, none⟩ = some (.slice a1 f.subs.length c1) ∧ w.cell? ⟨B, o + 3, none⟩ = some (.int .i64 z.kind) ∧ w.cell? ⟨B, o + 4, none⟩ = some (.int .i64 z.idx) ∧ w.cell? ⟨B, o + 5, none⟩ = some (.slice a2 z.subs.length c2) ∧ SlM w X a1 f.subs ∧ SlM w X a2 z.subs := by
  obtain ⟨_, h | ⟨B, o, rfl, h⟩⟩ := h
  · cases h
  · have h0 := liesM_get _ _ _ h 0 (by simp)
    have h1 := liesM_get _ _ _ h 1 (by simp)
    simp only [List.getElem_cons_zero, List.getElem_cons_succ, Nat.zero_mul, Nat.one_mul, Nat.add_zero] at h0 h1
    obtain ⟨hx, p1, p2, a1, c1, p3, p4⟩ := h0
    obtain ⟨_, q1, q2, a2, c2, q3, q4⟩ := h1
    exact ⟨B, o, a1, c1, a2, c2, rfl, hx, p1, p2, p3, q1, q2, q3, p4, q4⟩
theorem slM_one {w : World} {X : Nat → Prop} {a : Option Addr} {f : Lm} (h : SlM w X a [f]) : ∃ B o a1 c1, a = some ⟨B, o, none⟩ ∧ X B ∧ w.cell? ⟨B, o, none⟩ = some (.int .i64 f.kind) ∧ w.cell? ⟨B, o + 1, none⟩ = some (.int .i64 f.idx) ∧ w.cell? ⟨B, o + 2, none⟩ = some (.slice a1 f.subs.length c1) ∧ SlM w X a1 f.subs := by
  obtain ⟨_, h | ⟨B, o, rfl, h⟩⟩ := h
  · cases h
  · have h0 := liesM_get _ _ _ h 0 (by simp)
    simp only [List.getElem_cons_zero, Nat.zero_mul, Nat.add_zero] at h0
    obtain ⟨hx, p1, p2, a1, c1, p3, p4⟩ := h0
    exact ⟨B, o, a1, c1, rfl, hx, p1, p2, p3, p4⟩

set_option maxHeartbeats 8000000 in
theorem here_any {y : Value} {P : Nat → Prop} {hi : Nat} {J : World → Prop} {S : Lm → Bool → World → Prop} (hP : ∀ b, hi ≤ b → P b) (hT : StopTk y P J S) (hJ : StayJ J) (t : Lm) (u : Int) (hg : GdM u t) (v : Value) (w : World) (X : Nat → Prop) (hv : MV w X v t) (hX : ∀ b, X b → b < w.heap.size ∧ P b) (hhi : hi ≤ w.heap.size) (hjw : J w) :
    Calls Try.prog 39 #[v, y] w fun e w' => HrPost w t S e w' := by
  obtain ⟨k, xi, l⟩ := t
  obtain ⟨a, c, rfl, hs⟩ := hv
  dsimp only at hs ⊢
  by_cases h3 : k = 3
  case neg =>
    have HR : Hid (rdxT ⟨k, xi, l⟩ = false) := by unfold Hid rdxT; simp [h3]
    have e3 : (k == 3) = false := beq_eq_false_iff_ne.2 h3
    have e4 : (k != 3) = true := by simp [bne, e3]
    clear hs
    go_enter Try.func39, Try.ntmps39
    go_wp2_with fail
    go_ret
    exact Or.inl ⟨HR.out, rfl, (Below.refl _ _).alloc (Nat.le_refl _) _⟩
  subst h3
  have hl : l.length = 2 := by
    have := (knE_zero.1 (err_one0.1 hg.2.2.1.choose_spec.1).1).2.1
    rw [this]; rfl
  obtain ⟨f, z, rfl⟩ : ∃ f z, l = [f, z] := by
    match l, hl with
    | [f, z], _ => exact ⟨f, z, rfl⟩
  obtain ⟨B, o, a1, c1, a2, c2, rfl, hXB, d0, d1, d2, d3, d4, d5, hs1, hs2⟩ := slM_cells hs
  have hBw : B < w.heap.size := (hX B hXB).1
  by_cases h2 : f.kind = 2
  case neg =>
    have HR : Hid (rdxT ⟨3, xi, [f, z]⟩ = false) := by unfold Hid rdxT; simp [h2]
    have e3 : (f.kind == 2) = false := beq_eq_false_iff_ne.2 h2
    have e4 : (f.kind != 2) = true := by simp [bne, e3]
    clear hs
    go_enter Try.func39, Try.ntmps39
    go_wp2_with fail
    go_ret
    exact Or.inl ⟨HR.out, rfl, (Below.refl _ _).alloc (Nat.le_refl _) _⟩
  have HRD : Hid (rdxT ⟨3, xi, [f, z]⟩ = true) := by unfold Hid rdxT; simp [h2]
  obtain ⟨kf, fi, lf⟩ := f
  simp only at h2
  subst h2
  have hgf : GdM u ⟨2, fi, lf⟩ := by have := hg.subs (y := ⟨2, fi, lf⟩) (by simp); simpa [deepK] using this
  have hgz : GdM u z := by have := hg.subs (y := z) (by simp); simpa [deepK] using this
  have hlf : lf.length = 1 := by
    have := (knE_zero.1 (err_one0.1 hgf.2.2.1.choose_spec.1).1).2.1
    rw [this]; rfl
  obtain ⟨b, rfl⟩ : ∃ b, lf = [b] := by
    match lf, hlf with
    | [b], _ => exact ⟨b, rfl⟩
  have hgb : GdM (u + 1) b := by have := hgf.subs (y := b) (by simp); simpa [deepK] using this
  obtain ⟨B1, o1, a3, c3, rfl, hXB1, g0, g1, g2, hs3⟩ := slM_one hs1
  have hB1w : B1 < w.heap.size := (hX B1 hXB1).1
  have hbB : Below w.heap.size w (w.alloc (.cells #[.int .i64 3, .int .i64 xi, .slice (some ⟨B, o, none⟩) 2 c] 24)) := (Below.refl _ _).alloc (Nat.le_refl _) _
  have hbD : Below w.heap.size w ((w.alloc (.cells #[.int .i64 3, .int .i64 xi, .slice (some ⟨B, o, none⟩) 2 c] 24))).drew := hbB.drew
  have PUT : Hid (∀ w', Below w.heap.size w w' → Calls Try.prog 44 #[.agg #[.int .i64 b.kind, .int .i64 b.idx, .slice a3 b.subs.length c3], .agg #[.int .i64 z.kind, .int .i64 z.idx, .slice a2 z.subs.length c2], .int .i64 2000] w' fun e w'' => ∃ q ok a5 c5, e = .returned (.tuple #[.agg #[.int .i64 q.kind, .int .i64 q.idx, .slice a5 q.subs.length c5], .bool ok]) ∧ SlM w'' (fun b => w.heap.size ≤ b ∧ b < w''.heap.size) a5 q.subs ∧ Below w.heap.size w w'' ∧ (ok = true → q = conT [⟨2, fi, [b]⟩, z]) ∧ (ok = false → 2000 < sizeM [conT [⟨2, fi, [b]⟩, z]])) := fun w' hb => by
    refine (put_say hgb hgz _ _ w' X ⟨a3, c3, rfl, hs3.later hb⟩ ⟨a2, c2, rfl, hs2.later hb⟩).mono ?_
    rintro e w'' ⟨q, ok, a5, c5, rfl, h5, h6, h7, h8⟩
    exact ⟨q, ok, a5, c5, rfl, h5.mono fun b h1 h2 => ⟨Nat.le_trans hb.size h1, h2⟩, hb.trans (h6.mono hb.size), h7, h8⟩
  have HD := hide hbD
  have HJs : Hid (∀ w5, Below w.heap.size w w5 → J w5) := fun w5 hb => hJ _ _ hjw hb
  have HZs : Hid (∀ w5, Below w.heap.size w w5 → ∀ b, (w.heap.size ≤ b ∧ b < w5.heap.size) → b < w5.heap.size ∧ P b) := fun w5 hb b h => ⟨h.2, hP b (by omega)⟩
  have hf1 : Fence.wide.fn 44 := trivial
  have hf2 : Fence.wide.fn 45 := trivial
  clear hs hs1 hs2 hs3 hg hgf hgz hgb hX hbB hbD hlf hl hjw
  rcases hT with ⟨T, I, Y, rfl, hT⟩ | ⟨lp, rfl, hT⟩
  · have HTK := hide hT
    clear hT
    go_enter Try.func39, Try.ntmps39
    refine (wpIn_wide (n := 1)).1 ?_
    gi_wp2
    gi_region_with (first
        | (gi_at_call 44; refine (callsIn_wide.2 (PUT.out _ (by first | exact Below.refl _ _ | exact HD.out))).mono ?_; rintro e w5 ⟨q, ok, a5, c5, rfl, hs5, hb5, h1, h2⟩; have TKC := HTK.out w5 _ q ok _ (by exact HJs.out w5 hb5) ⟨a5, c5, rfl, hs5⟩ (by exact HZs.out w5 hb5))
        | (gi_at_call 45; refine (callsIn_wide.2 TKC).mono ?_; rintro e w6 ⟨rfl, hS6⟩))
    all_goals
      have HF := hide hS6
      have H12 := hide (And.intro h1 h2)
      clear hS6
      clear TKC
    all_goals gi_wp2
    all_goals go_ret
    all_goals exact Or.inr ⟨HRD.out, rfl, q, ok, H12.out.1, H12.out.2, HF.out⟩
  · have HTK := hide hT
    clear hT
    go_enter Try.func39, Try.ntmps39
    refine (wpIn_wide (n := 1)).1 ?_
    gi_wp2
    gi_region_with (first
        | (gi_at_call 44; refine (callsIn_wide.2 (PUT.out _ (by first | exact Below.refl _ _ | exact HD.out))).mono ?_; rintro e w5 ⟨q, ok, a5, c5, rfl, hs5, hb5, h1, h2⟩; obtain ⟨hfn, htmps, hasg, hbody, hyy, hR⟩ := HTK.out w5 _ q ok _ (by exact HJs.out w5 hb5) ⟨a5, c5, rfl, hs5⟩ (by exact HZs.out w5 hb5) 0)
        | (refine hR.mono ?_; rintro e w6 ⟨rfl, hS6⟩))
    all_goals
      have HF := hide hS6
      have H12 := hide (And.intro h1 h2)
      clear hS6
      skip
    all_goals gi_wp2
    all_goals go_ret
    all_goals exact Or.inr ⟨HRD.out, rfl, q, ok, H12.out.1, H12.out.2, HF.out⟩
end Go.Proofs.Ytaifameeoipjjaa
