/- Several texts in one. -/
import Derived.Test.YtanbgnmcaijnnaaGreatDoorZETopChurchOwn
import Derived.Test.YtanbgnmcaijnnaaGreatDoorL11
import Derived.BigQuiet
import Derived.Deep.RegionHeld3
import Derived.Test.YtanbgnmcaijnnaaGreatDoorZOTopChurchOwn

/- Walks: how often what is bound is used. -/
namespace Go.Proofs.YtanbgnmcaijnnaaGreatDoor
open Go.RowKit
set_option linter.unusedSimpArgs false
set_option linter.unusedVariables false
set_option maxRecDepth 8000

theorem ret_intM {a b : Int} (h : a = b) : Ending.returned (.int .i64 a) = .returned (.int .i64 b) := by rw [h]
theorem usesM_one (i k x : Int) (l : List Lm) : usesM i [⟨k, x, l⟩] = if k = 1 then (if x = i then 1 else 0) else usesM (deepK i k) l := by simp [usesM]
end Go.Proofs.YtanbgnmcaijnnaaGreatDoor


/- Walks: does what is bound stand in a term? Is a term what a binder binds? -/
namespace Go.Proofs.YtanbgnmcaijnnaaGreatDoor
open Go.RowKit
set_option linter.unusedSimpArgs false
set_option linter.unusedVariables false
set_option maxRecDepth 8000

end Go.Proofs.YtanbgnmcaijnnaaGreatDoor

/- Lambda terms: binders that do nothing (plain). -/
namespace Go.Proofs.YtanbgnmcaijnnaaGreatDoor
open Go.RowKit
set_option linter.unusedSimpArgs false
set_option linter.unusedVariables false
set_option maxRecDepth 8000

/-- Does what stands below a binder apply a term, in which what it binds doesn't stand, to what it binds? -/
def idleT (y : Lm) : Bool := decide (y.kind = 3) && (match y.subs with | [f, x] => decide (usesM 0 [f] = 0) && decide (x.kind = 1) && decide (x.idx = 0) | _ => false)
/-- A knot above what those below have become. -/
def etaK (k x : Int) (L : List Lm) : Lm := if k = 2 then (match L with | [⟨k2, x2, [f, y]⟩] => if idleT ⟨k2, x2, [f, y]⟩ = true then higT (-1) 0 f else ⟨k, x, L⟩ | _ => ⟨k, x, L⟩) else ⟨k, x, L⟩
def etaM : List Lm → List Lm
  | [] => []
  | ⟨k, x, l⟩ :: r => etaK k x (etaM l) :: etaM r
def etaT (t : Lm) : Lm := etaK t.kind t.idx (etaM t.subs)
theorem etaM_map : ∀ (l : List Lm), etaM l = l.map etaT
  | [] => by simp [etaM]
  | ⟨k, x, l⟩ :: r => by rw [etaM, etaM_map r]; rfl
theorem etaM_take (l : List Lm) (k : Nat) (h : k < l.length) : etaM (l.take (k + 1)) = etaM (l.take k) ++ [etaT l[k]] := by
  rw [etaM_map, etaM_map, List.take_succ_eq_append_getElem h, List.map_append]
  rfl
theorem higM_cons (y d k x : Int) (l r : List Lm) : higM y d (⟨k, x, l⟩ :: r) = higT y d ⟨k, x, l⟩ :: higM y d r := by rw [higM_map, higM_map]; rfl
theorem sh_hig (l : List Lm) : ∀ y d, ShM l → ShM (higM y d l) := by
  induction l using Lm.indL with
  | h0 => intro y d _; simp [higM, ShM]
  | h k x l r ihl ihr =>
    intro y d hs
    rw [ShM_cons] at hs
    rw [higM]
    split
    · rename_i h1
      split
      · exact (ShM_cons _ _ _ _).2 ⟨hs.1, hs.2.1, ihr y d hs.2.2⟩
      · exact (ShM_cons _ _ _ _).2 ⟨by simp [subsK], ShM_nil, ihr y d hs.2.2⟩
    · exact (ShM_cons _ _ _ _).2 ⟨by rw [higM_map]; simpa using hs.1, ihl _ _ hs.2.1, ihr y d hs.2.2⟩
theorem size_hig (l : List Lm) : ∀ y d, sizeM (higM y d l) ≤ sizeM l := by
  induction l using Lm.indL with
  | h0 => intro y d; simp [higM]
  | h k x l r ihl ihr =>
    intro y d
    have h1 := ihl y (deepK d k)
    have h2 := ihr y d
    rw [higM]
    split
    · split
      · simp only [sizeM]; omega
      · simp only [sizeM]; omega
    · simp only [sizeM]; omega
theorem bnd_low (l : List Lm) : ∀ d, 0 ≤ d → ShM l → usesM d l = 0 → BndM l → BndM (higM (-1) d l) := by
  induction l using Lm.indL with
  | h0 => intro d _ _ _ _; simp [higM, BndM]
  | h k x l r ihl ihr =>
    intro d hd hs hu hb
    rw [ShM_cons] at hs
    rw [BndM_cons] at hb
    rw [usesM] at hu
    rw [higM]
    split
    · rename_i h1
      rw [if_pos h1] at hu
      have hr : usesM d r = 0 := by omega
      split
      · exact (BndM_cons _ _ _ _).2 ⟨hb.1, hb.2.1, ihr d hd hs.2.2 hr hb.2.2⟩
      · rename_i h2
        refine (BndM_cons _ _ _ _).2 ⟨?_, BndM_nil, ihr d hd hs.2.2 hr hb.2.2⟩
        split at hu
        · omega
        · omega
    · rename_i h1
      rw [if_neg h1] at hu
      refine (BndM_cons _ _ _ _).2 ⟨hb.1, ihl _ ?_ hs.2.1 (by omega) hb.2.1, ihr d hd hs.2.2 (by omega) hb.2.2⟩
      unfold deepK; split <;> omega
theorem higM_one (y d : Int) (t : Lm) : higM y d [t] = [higT y d t] := by rw [higM_map]; rfl

theorem etaK_two (x : Int) (L : List Lm) : etaK 2 x L = ⟨2, x, L⟩ ∨ ∃ k2 x2 f y, L = [⟨k2, x2, [f, y]⟩] ∧ idleT ⟨k2, x2, [f, y]⟩ = true ∧ etaK 2 x L = higT (-1) 0 f := by
  unfold etaK
  simp only [if_true]
  split
  · rename_i k2 x2 f y
    split
    · rename_i h
      exact Or.inr ⟨k2, x2, f, y, rfl, h, rfl⟩
    · exact Or.inl rfl
  · exact Or.inl rfl
theorem idle_uses {k2 x2 : Int} {f y : Lm} (h : idleT ⟨k2, x2, [f, y]⟩ = true) : usesM 0 [f] = 0 := by
  unfold idleT at h
  simp at h
  exact h.2.1.1
/-- What holds of a term holds of what it becomes. -/
theorem eta_facts (l : List Lm) : ShM l → BndM l → ShM (etaM l) ∧ BndM (etaM l) ∧ sizeM (etaM l) ≤ sizeM l := by
  induction l using Lm.indL with
  | h0 => intro _ _; simp [etaM, ShM, BndM]
  | h k x l r ihl ihr =>
    intro hs hb
    rw [ShM_cons] at hs
    rw [BndM_cons] at hb
    obtain ⟨a1, a2, a3⟩ := ihl hs.2.1 hb.2.1
    obtain ⟨b1, b2, b3⟩ := ihr hs.2.2 hb.2.2
    have hlen : (etaM l).length = l.length := by rw [etaM_map]; simp
    have hkeep : ShM (⟨k, x, etaM l⟩ :: etaM r) ∧ BndM (⟨k, x, etaM l⟩ :: etaM r) ∧ sizeM (⟨k, x, etaM l⟩ :: etaM r) ≤ sizeM (⟨k, x, l⟩ :: r) := by
      refine ⟨(ShM_cons _ _ _ _).2 ⟨by rw [hlen]; exact hs.1, a1, b1⟩, (BndM_cons _ _ _ _).2 ⟨hb.1, a2, b2⟩, ?_⟩
      simp only [sizeM]
      omega
    rw [etaM]
    by_cases k2 : k = 2
    · subst k2
      rcases etaK_two x (etaM l) with e | ⟨k2, x2, f, y, e1, e2, e3⟩
      · rw [e]; exact hkeep
      · rw [e3]
        rw [e1] at a1 a2 a3
        rw [ShM_cons] at a1
        rw [BndM_cons] at a2
        have hf1 : ShM [f] := ShM.at 0 (by simp) a1.2.1
        have hf2 : BndM [f] := BndM.at 0 (by simp) a2.2.1
        have g1 := sh_hig [f] (-1) 0 hf1
        have g2 := bnd_low [f] 0 (Int.le_refl 0) hf1 (idle_uses e2) hf2
        have g3 := size_hig [f] (-1) 0
        rw [higM_one] at g1 g2 g3
        have g4 : sizeM [f] ≤ sizeM [f, y] := sizeM_take_le [f, y] 1
        have g5 : sizeM [(⟨k2, x2, [f, y]⟩ : Lm)] = 1 + sizeM [f, y] := by simp [sizeM]
        generalize higT (-1) 0 f = q at *
        obtain ⟨qk, qx, ql⟩ := q
        rw [ShM_cons] at g1
        rw [BndM_cons] at g2
        refine ⟨(ShM_cons _ _ _ _).2 ⟨g1.1, g1.2.1, b1⟩, (BndM_cons _ _ _ _).2 ⟨g2.1, g2.2.1, b2⟩, ?_⟩
        have g6 : sizeM [(⟨qk, qx, ql⟩ : Lm)] = 1 + sizeM ql := by simp [sizeM]
        simp only [sizeM]
        omega
    · have e : etaK k x (etaM l) = ⟨k, x, etaM l⟩ := by unfold etaK; rw [if_neg k2]
      rw [e]
      exact hkeep
#print axioms eta_facts
end Go.Proofs.YtanbgnmcaijnnaaGreatDoor


/- Walks: the document's EtaOf. -/
namespace Go.Proofs.YtanbgnmcaijnnaaGreatDoor
open Go.RowKit
set_option linter.unusedSimpArgs false
set_option linter.unusedVariables false
set_option maxRecDepth 8000

theorem lm_end {w wz : World} {X : Nat → Prop} {t : Lm} {a : Option Addr} {c R : Nat} {v0 v1 v2 : Value} (hR : w.heap.size ≤ R) (hb : Below w.heap.size w wz) (hs : SlM wz (fun b => ((X b ∧ b < w.heap.size) ∨ w.heap.size ≤ b) ∧ b ≠ R) a t.subs) :
    LmPost w X t (.returned (.agg #[.int .i64 t.kind, .int .i64 t.idx, .slice a t.subs.length c])) (((wz.setCell ⟨R, 0, none⟩ v0).setCell ⟨R, 1, none⟩ v1).setCell ⟨R, 2, none⟩ v2) := by
  refine ⟨a, c, rfl, (hs.kept fun b h => ?_).mono fun b h _ => h.1, ((hb.setCell (p := ⟨R, 0, none⟩) hR _).setCell (p := ⟨R, 1, none⟩) hR _).setCell (p := ⟨R, 2, none⟩) hR _⟩
  rw [Below.heap_setCell _ _ _ _ (by simpa using h.2), Below.heap_setCell _ _ _ _ (by simpa using h.2), Below.heap_setCell _ _ _ _ (by simpa using h.2)]
theorem LmPost.later {w w1 w2 : World} {X : Nat → Prop} {t : Lm} {e : Ending} (h : LmPost w X t e w1) (hb : Below w1.heap.size w1 w2) : LmPost w X t e w2 := by
  obtain ⟨a, c, e1, h1, h2⟩ := h
  exact ⟨a, c, e1, h1.later hb, h2.trans (hb.mono h2.size)⟩
theorem cell_alloc_lt {w : World} {b i : Nat} {o : Obj} (h : b < w.heap.size) : (w.alloc o).cell? ⟨b, i, none⟩ = w.cell? ⟨b, i, none⟩ := World.cell?_of_block (Below.heap_alloc _ _ _ h)
/-- What is held while a binder is asked whether it does nothing. -/
def EtS (Q bf of : Nat) (af ax : Option Addr) (cf cx c9 : Nat) (yx : Int) (f x : Lm) (w' : World) : Prop :=
  Blk w' Q #[.int .i64 3, .int .i64 yx, .slice (some ⟨bf, of, none⟩) 2 c9] 26 ∧ w'.cell? ⟨bf, of, none⟩ = some (.int .i64 f.kind) ∧ w'.cell? ⟨bf, of + 1, none⟩ = some (.int .i64 f.idx) ∧ w'.cell? ⟨bf, of + 2, none⟩ = some (.slice af f.subs.length cf) ∧ w'.cell? ⟨bf, of + 3, none⟩ = some (.int .i64 x.kind) ∧ w'.cell? ⟨bf, of + 3 + 1, none⟩ = some (.int .i64 x.idx) ∧ w'.cell? ⟨bf, of + 3 + 2, none⟩ = some (.slice ax x.subs.length cx)
theorem EtS.call0 {Q bf of : Nat} {af ax : Option Addr} {cf cx c9 : Nat} {yx : Int} {f x : Lm} {w w1 : World} (hb : Below w.heap.size w w1) (h : EtS Q bf of af ax cf cx c9 yx f x w) : EtS Q bf of af ax cf cx c9 yx f x w1 := by
  obtain ⟨h0, h1, h2, h3, h4, h5, h6⟩ := h
  exact ⟨h0.below hb h0.lt, cell_later hb h1, cell_later hb h2, cell_later hb h3, cell_later hb h4, cell_later hb h5, cell_later hb h6⟩
theorem EtS.call {Q bf of : Nat} {af ax : Option Addr} {cf cx c9 : Nat} {yx : Int} {f x : Lm} {w w1 : World} {n : Nat} (hb : Below (w.drewN n).heap.size (w.drewN n) w1) (h : EtS Q bf of af ax cf cx c9 yx f x w) : EtS Q bf of af ax cf cx c9 yx f x w1 :=
  EtS.call0 ((below_drewN (Below.refl _ _) n).trans (hb.mono (by simp))) h
/-- Is a term what the nearest binder binds? -/
def varZ (x : Lm) : Bool := decide (x.kind = 1) && decide (x.idx = 0)
theorem etaK_three (ix yx : Int) (f x : Lm) : etaK 2 ix [⟨3, yx, [f, x]⟩] = if (decide (usesM 0 [f] = 0) && varZ x) = true then higT (-1) 0 f else ⟨2, ix, [⟨3, yx, [f, x]⟩]⟩ := by
  have h : idleT ⟨3, yx, [f, x]⟩ = (decide (usesM 0 [f] = 0) && varZ x) := by unfold idleT varZ; simp [Bool.and_assoc]
  unfold etaK
  simp only [if_true, h]
set_option maxHeartbeats 1000000 in
theorem sameVar_any (x : Lm) (v : Value) (w : World) (X : Nat → Prop) (hv : MV w X v x) (hsh : ShM [x]) :
    Calls Tryz.prog 9 #[v, .agg #[.int .i64 1, .int .i64 0, .slice none 0 0]] w fun e w' => e = .returned (.bool (varZ x)) ∧ Below w.heap.size w w' := by
  obtain ⟨kd, ix, l⟩ := x
  rw [ShM_cons] at hsh
  by_cases hv1 : kd = 1 ∧ ix = 0
  · obtain ⟨rfl, rfl⟩ := hv1
    have hl0 : l = [] := List.length_eq_zero_iff.1 (by have := hsh.1; simpa [subsK] using this)
    subst hl0
    have h := sameM_any ⟨1, 0, []⟩ _ _ w X X hv ⟨none, 0, rfl, by simp, Or.inl rfl⟩
    simpa [varZ] using h
  · obtain ⟨a, c, rfl, hs⟩ := hv
    have HB : Hid (∀ o o', Below w.heap.size w ((w.alloc o).alloc o')) := fun o o' => below2M o o'
    have HZ : Hid (false = varZ ⟨kd, ix, l⟩) := by unfold Hid varZ; symm; simp; intro h h2; exact hv1 ⟨h, h2⟩
    by_cases h1 : kd = 1
    · subst h1
      have h2 : (ix != 0) = true := by simp; intro h; exact hv1 ⟨rfl, h⟩
      have h3 : (ix == 0) = false := by simp; intro h; exact hv1 ⟨rfl, h⟩
      go_enter Tryz.func9, Tryz.ntmps9
      go_wp2_with fail
      go_ret
      exact ⟨ret_boolM HZ.out, HB.out _ _⟩
    · have h2 : (kd != 1) = true := by simpa using h1
      have h3 : (kd == 1) = false := by simpa using h1
      go_enter Tryz.func9, Tryz.ntmps9
      go_wp2_with fail
      go_ret
      exact ⟨ret_boolM HZ.out, HB.out _ _⟩
#print axioms sameVar_any
end Go.Proofs.YtanbgnmcaijnnaaGreatDoor


/- Walks: the code's isIdle. -/
namespace Go.Proofs.YtanbgnmcaijnnaaGreatDoor
open Go.RowKit
set_option linter.unusedSimpArgs false
set_option linter.unusedVariables false
set_option maxRecDepth 8000

theorem idle_three (ix : Int) (f x : Lm) : idleT ⟨3, ix, [f, x]⟩ = (decide (usesM 0 [f] = 0) && varZ x) := by unfold idleT varZ; simp [Bool.and_assoc]
theorem bl_set3L {w W : World} (h : Below w.heap.size w W) (j : Nat) (hj : w.heap.size ≤ j) (u u' u'' : Value) : Below w.heap.size w (((W.setCell ⟨j, 0, none⟩ u).setCell ⟨j, 1, none⟩ u').setCell ⟨j, 2, none⟩ u'') :=
  ((h.setCell (p := ⟨j, 0, none⟩) (by simpa using hj) _).setCell (p := ⟨j, 1, none⟩) (by simpa using hj) _).setCell (p := ⟨j, 2, none⟩) (by simpa using hj) _
end Go.Proofs.YtanbgnmcaijnnaaGreatDoor

/- Walks: a term under one binder less. -/
namespace Go.Proofs.YtanbgnmcaijnnaaGreatDoor
open Go.RowKit
set_option linter.unusedSimpArgs false
set_option linter.unusedVariables false
set_option maxRecDepth 8000

theorem lf_of_sh (l : List Lm) : ShM l → LfM l := by
  induction l using Lm.indL with
  | h0 => intro _; exact LfM_nil
  | h k x l r ihl ihr =>
    intro h
    rw [ShM_cons] at h
    exact (LfM_cons k x l r).2 ⟨fun hk => List.length_eq_zero_iff.1 (by have := h.1; subst hk; simpa [subsK] using this), ihl h.2.1, ihr h.2.2⟩
set_option maxHeartbeats 2000000 in
theorem lower_any (t : Lm) (hsz : sizeM [t] ≤ 10000) (hbn : BndM [t]) (hsh : ShM [t]) (v : Value) (w : World) (X : Nat → Prop) (hv : MV w X v t) :
    Calls Tryz.prog 44 #[v, .int .i64 (-1)] w fun e w' => ∃ v', e = .returned v' ∧ MV w' (fun b => w.heap.size ≤ b) v' (higT (-1) 0 t) ∧ Below w.heap.size w w' := by
  obtain ⟨a, c, rfl, hs⟩ := hv
  have hlf := lf_of_sh [t] hsh
  have hB3 : Below w.heap.size w (((w.alloc (.cells #[.int .i64 t.kind, .int .i64 t.idx, .slice a t.subs.length c] 26)).alloc (.cells #[.int .i64 0, .int .i64 0, .slice none 0 0] 26)).alloc (.cells #[.int .i64 9223372036854775807] 99)) := (below2M _ _).alloc (by simp; omega) _
  have hz3 : (((w.alloc (.cells #[.int .i64 t.kind, .int .i64 t.idx, .slice a t.subs.length c] 26)).alloc (.cells #[.int .i64 0, .int .i64 0, .slice none 0 0] 26)).alloc (.cells #[.int .i64 9223372036854775807] 99)).heap.size = w.heap.size + 3 := by simp
  have KM : Blk (((w.alloc (.cells #[.int .i64 t.kind, .int .i64 t.idx, .slice a t.subs.length c] 26)).alloc (.cells #[.int .i64 0, .int .i64 0, .slice none 0 0] 26)).alloc (.cells #[.int .i64 9223372036854775807] 99)) (w.heap.size + 1 + 1) #[.int .i64 9223372036854775807] 99 := by
    have h := Blk.new ((w.alloc (.cells #[.int .i64 t.kind, .int .i64 t.idx, .slice a t.subs.length c] 26)).alloc (.cells #[.int .i64 0, .int .i64 0, .slice none 0 0] 26)) #[.int .i64 9223372036854775807] 99
    simpa using h
  have KR : Blk (((w.alloc (.cells #[.int .i64 t.kind, .int .i64 t.idx, .slice a t.subs.length c] 26)).alloc (.cells #[.int .i64 0, .int .i64 0, .slice none 0 0] 26)).alloc (.cells #[.int .i64 9223372036854775807] 99)) (w.heap.size + 1) #[.int .i64 0, .int .i64 0, .slice none 0 0] 26 := by
    have h := (Blk.new (w.alloc (.cells #[.int .i64 t.kind, .int .i64 t.idx, .slice a t.subs.length c] 26)) #[.int .i64 0, .int .i64 0, .slice none 0 0] 26).alloc (.cells #[.int .i64 9223372036854775807] 99)
    simpa using h
  have RS := hide (raise_any (w.heap.size + 1 + 1) (-1) (by omega) (by omega) t 9223372036854775807 (.agg #[.int .i64 t.kind, .int .i64 t.idx, .slice a t.subs.length c]) (((w.alloc (.cells #[.int .i64 t.kind, .int .i64 t.idx, .slice a t.subs.length c] 26)).alloc (.cells #[.int .i64 0, .int .i64 0, .slice none 0 0] 26)).alloc (.cells #[.int .i64 9223372036854775807] 99)) (fun b => X b ∧ b < w.heap.size) ⟨a, c, rfl, (hs.mono (Y := fun b => X b ∧ b < w.heap.size) fun b h1 h2 => ⟨h1, h2⟩).later hB3⟩ (fun b hb => by omega) (by omega) (by omega) hbn hlf KM)
  have HB3 := hide hB3
  have HZ3 := hide hz3
  have HKR := hide KR
  have hsz9 : sizeM [higT (-1) 0 t] ≤ 9223372036854775807 := by have h := size_hig [t] (-1) 0; rw [higM_one] at h; omega
  clear hs hB3 hz3 KM KR hlf
  go_enter Tryz.func44, Tryz.ntmps44
  go_wp2_with fail
  refine RS.out.mono ?_
  rintro e w1 ⟨k', x', a', l', c', m, rfl, hF, hx, hy, _⟩
  obtain ⟨_, rfl, rfl, rfl, hsl⟩ := hy hsz9
  have h1 : w.heap.size + 3 ≤ w1.heap.size := by have := hx.size; have := HZ3.out; omega
  have B1 : Hid (Below w.heap.size w w1) := ⟨hx.os.trans HB3.out.os, hx.tape.trans HB3.out.tape, hx.output.trans HB3.out.output, by omega, fun b hb => (hx.block b (by have := HZ3.out; omega) (by omega)).trans (HB3.out.block b hb)⟩
  have R1 := hide (HKR.out.ex hx (by omega))
  have S1 : Hid (SlM w1 (fun b => w.heap.size + 2 ≤ b) a' (higT (-1) 0 t).subs) := hsl.mono fun b h _ => by have h' : (((w.alloc (.cells #[.int .i64 t.kind, .int .i64 t.idx, .slice a t.subs.length c] 26)).alloc (.cells #[.int .i64 0, .int .i64 0, .slice none 0 0] 26)).alloc (.cells #[.int .i64 9223372036854775807] 99)).heap.size ≤ b := h; have := HZ3.out; omega
  have r0 : w1.cell? ⟨w.heap.size + 1, 0, none⟩ = some (.int .i64 0) := R1.out.cell 0
  have r1 : w1.cell? ⟨w.heap.size + 1, 1, none⟩ = some (.int .i64 0) := R1.out.cell 1
  have r2 : w1.cell? ⟨w.heap.size + 1, 2, none⟩ = some (.slice none 0 0) := R1.out.cell 2
  have rf := R1.out.frozen
  clear hF hx hy hsl RS
  go_wp2_with fail
  refine bodyPost_ret (v := .agg #[.int .i64 (higT (-1) 0 t).kind, .int .i64 (higT (-1) 0 t).idx, .slice a' (higT (-1) 0 t).subs.length c']) (by simp [results, Tryz.results44, go_sem, World.cell?_setCell_same, World.cell?_setCell_other, r0, r1, r2]) rfl ?_
  have hE := cpM_end (c := c') S1.out B1.out (.int .i64 (higT (-1) 0 t).kind) (.int .i64 (higT (-1) 0 t).idx) (.slice a' (higT (-1) 0 t).subs.length c')
  exact ⟨_, rfl, hE.1.mono fun b hb _ => by omega, hE.2⟩

#print axioms lower_any
end Go.Proofs.YtanbgnmcaijnnaaGreatDoor


/- Walks: the code's Eta. -/
namespace Go.Proofs.YtanbgnmcaijnnaaGreatDoor
open Go.RowKit
set_option linter.unusedSimpArgs false
set_option linter.unusedVariables false
set_option maxRecDepth 8000

theorem LmSet.laterE {w wr w1 : World} {Y : Nat → Prop} {O n c : Nat} {u : Value} {L : List Lm} {kd ix : Int} {a : Option Addr} (h : LmSet w Y O kd ix a n c u L wr) (hb : Below wr.heap.size wr w1) : LmSet w Y O kd ix a n c u L w1 := by
  obtain ⟨xs, hrow, hx, hT, hR, hOb, hOl⟩ := h
  exact ⟨xs, hrow.below hb, hx.trans (hb.mono hx.size), hT.below hb hT.lt, hR.below hb hR.lt, hOb.below hb hOb.lt, by have := hb.size; omega⟩
theorem lm_roundS {w wr w1 : World} {Y : Nat → Prop} {O n c : Nat} {u : Value} {L : List Lm} {kd ix : Int} {a a1 : Option Addr} {c1 : Nat} {t : Lm} {b o : Nat} {k1 x1 : Int} {v1 : Value} (hO : w.heap.size + 2 ≤ O) (hY : ∀ b, Y b → b < w.heap.size) (hbo : some b ≠ u.ownBlock) (hbO : b ≠ O) (hset : LmSet w Y O kd ix a n c u L wr) (hS : LmS w.heap.size b o kd ix a n c k1 x1 v1 wr) (hn : L.length ≤ 1000000)
    (hb : Below wr.heap.size wr w1) (hs : SlM w1 (fun b => Y b ∨ wr.heap.size ≤ b) a1 t.subs) :
    ∃ g cap w3, (Builtin.append_ #[24, 24] 24 #[u, .slice (some ⟨w1.heap.size, 0, none⟩) 1 1]).run Tryz.prog (w1.alloc (.cells #[.int .i64 t.kind, .int .i64 t.idx, .slice a1 t.subs.length c1] 26)) = .ok (.slice (some ⟨g, 0, none⟩) (L.length + 1) cap) w3 ∧
      LmS w.heap.size b o kd ix a n c k1 x1 v1 w1 ∧ LmS w.heap.size b o kd ix a n c k1 x1 v1 (w1.alloc (.cells #[.int .i64 t.kind, .int .i64 t.idx, .slice a1 t.subs.length c1] 26)) ∧ LmS w.heap.size b o kd ix a n c k1 x1 v1 w3 ∧ w3.cell? ⟨O, 2, none⟩ = some u ∧ w3.frozen? ⟨O, 2, none⟩ = false ∧
      LmS w.heap.size b o kd ix a n c k1 x1 v1 (w3.setCell ⟨O, 2, none⟩ (.slice (some ⟨g, 0, none⟩) (L.length + 1) cap)) ∧ LmSet w Y O kd ix a n c (.slice (some ⟨g, 0, none⟩) (L.length + 1) cap) (L ++ [t]) (w3.setCell ⟨O, 2, none⟩ (.slice (some ⟨g, 0, none⟩) (L.length + 1) cap)) := by
  obtain ⟨xs, hrow, hx, hT, hR, hOb, hOl⟩ := hset
  obtain ⟨i0, hi, hz0, hz1, hz2⟩ := info_parts Tryz.infoLam
  have hlt := hrow.own.lt
  have hbs := hb.size
  have hsx := hx.size
  obtain ⟨g, cap, w3, hr, ho, hg, hat, hgl⟩ := run_append_lies (P := Tryz.prog) (w := w1.alloc (.cells #[.int .i64 t.kind, .int .i64 t.idx, .slice a1 t.subs.length c1] 26)) 24 24 (O + 1) 26 i0 _ 3 40 Tryz.underlying24 hi hz0 hz1 hz2 rfl (by decide) u L.length xs ((hrow.below hb).own.alloc _)
    ⟨w1.heap.size, 0, none⟩ 1 1 [.int .i64 t.kind, .int .i64 t.idx, .slice a1 t.subs.length c1] rfl (cell_lam_new _ _ _ _ _) (fun y hy => by simp at hy; rcases hy with rfl | rfl | rfl <;> rfl) (by decide) (by unfold maxLen; omega) (by omega) (by simp; omega) _ rfl
  have hp := hrow.push (w1 := w1) (w3 := w3) (t := t) (by omega) (fun b h => by have := hY b h; omega) hb ⟨a1, c1, rfl, hs⟩ _ rfl ho hg hat
  have hne : ∀ j, j < O + 1 → some j ≠ u.ownBlock := fun j hj e => by have := (hlt j e.symm).1; omega
  have hs3 := hg.size
  simp at hs3
  have hx3 : Below w.heap.size w w3 := ((hx.trans (hb.mono (by omega))).alloc (by omega) _).grown hg (by simp; omega) (fun k hk => by have := (hlt k hk).1; omega)
  have S1 := hS.below hb
  have S2 := S1.below ((Below.refl w1.heap.size w1).alloc (Nat.le_refl _) (.cells #[.int .i64 t.kind, .int .i64 t.idx, .slice a1 t.subs.length c1] 26))
  have S3 : LmS w.heap.size b o kd ix a n c k1 x1 v1 w3 := S2.kept (hg.block _ S2.1.lt (hne _ (by omega))) (hg.block _ (cell_ltM S2.2.1) hbo)
  have hO3 := ((hOb.below hb (by omega)).alloc (.cells #[.int .i64 t.kind, .int .i64 t.idx, .slice a1 t.subs.length c1] 26)).grown hg (hne _ (by omega))
  refine ⟨g, cap, w3, hr, S1, S2, S3, hO3.cell 2, hO3.frozen 2, S3.kept (Below.heap_setCell _ _ _ _ (by simp; omega)) (Below.heap_setCell _ _ _ _ (by simpa using hbO)), _, hp.setCell (by omega) (fun h => by have := hY _ h; omega) _, hx3.setCell (p := ⟨O, 2, none⟩) (by simp; omega) _, ?_, ?_, ?_, by simp [World.setCell]; omega⟩
  · exact (((hT.below hb (by omega)).alloc _).grown hg (hne _ (by omega))).setOther _ _ (by omega)
  · exact (((hR.below hb (by omega)).alloc _).grown hg (hne _ (by omega))).setOther _ _ (by omega)
  · exact hO3.set 2 _
/-- A lambda term that is all new. -/
def EtPost (w : World) (t : Lm) (e : Ending) (w' : World) : Prop :=
  ∃ a c, e = .returned (.agg #[.int .i64 t.kind, .int .i64 t.idx, .slice a t.subs.length c]) ∧ SlM w' (fun b => w.heap.size ≤ b) a t.subs ∧ Below w.heap.size w w'
theorem et_end {w wz : World} {t : Lm} {a : Option Addr} {c R : Nat} {v0 v1 v2 : Value} (hR : w.heap.size ≤ R) (hb : Below w.heap.size w wz) (hs : SlM wz (fun b => w.heap.size ≤ b ∧ b ≠ R) a t.subs) :
    EtPost w t (.returned (.agg #[.int .i64 t.kind, .int .i64 t.idx, .slice a t.subs.length c])) (((wz.setCell ⟨R, 0, none⟩ v0).setCell ⟨R, 1, none⟩ v1).setCell ⟨R, 2, none⟩ v2) := by
  refine ⟨a, c, rfl, (hs.kept fun b h => ?_).mono fun b h _ => h.1, ((hb.setCell (p := ⟨R, 0, none⟩) hR _).setCell (p := ⟨R, 1, none⟩) hR _).setCell (p := ⟨R, 2, none⟩) hR _⟩
  rw [Below.heap_setCell _ _ _ _ (by simpa using h.2), Below.heap_setCell _ _ _ _ (by simpa using h.2), Below.heap_setCell _ _ _ _ (by simpa using h.2)]
end Go.Proofs.YtanbgnmcaijnnaaGreatDoor
