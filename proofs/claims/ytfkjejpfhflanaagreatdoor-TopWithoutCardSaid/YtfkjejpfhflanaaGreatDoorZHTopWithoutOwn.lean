/- Several texts in one. -/
import Derived.Test.YtfkjejpfhflanaaGreatDoorZETopWithoutOwn
import Derived.Test.YtfkjejpfhflanaaGreatDoorL11
import Derived.BigQuiet
import Derived.Deep.RegionHeld3
import Derived.Test.YtfkjejpfhflanaaGreatDoorLn7

/- Walks: how often what is bound is used. -/
namespace Go.Proofs.YtfkjejpfhflanaaGreatDoor
open Go.RowKit
set_option linter.unusedSimpArgs false
set_option linter.unusedVariables false
set_option maxRecDepth 8000

theorem usesM_one (i k x : Int) (l : List Lm) : usesM i [⟨k, x, l⟩] = if k = 1 then (if x = i then 1 else 0) else usesM (deepK i k) l := by simp [usesM]
end Go.Proofs.YtfkjejpfhflanaaGreatDoor

/- Walks: does what is bound stand in a term? Is a term what a binder binds? -/
namespace Go.Proofs.YtfkjejpfhflanaaGreatDoor
open Go.RowKit
set_option linter.unusedSimpArgs false
set_option linter.unusedVariables false
set_option maxRecDepth 8000

set_option maxHeartbeats 1000000 in
theorem holds_any (t : Lm) : ∀ (v : Value) (i : Int) (w : World) (X : Nat → Prop), MV w X v t → 0 ≤ i → i + sizeM [t] ≤ 1000000 →
    Calls Tryz.prog 77 #[v, .int .i64 i] w fun e w' => e = .returned (.bool (decide (0 < usesM i [t]))) ∧ Below w.heap.size w w' := by
  induction t using Lm.ind with
  | h kd ix l ih =>
    intro v i w X hv hi0 hi1
    obtain ⟨a, c, rfl, hs⟩ := hv
    have IH := hide ih
    have HS := hide hs
    have hl9 := hs.1
    have hz : sizeM [(⟨kd, ix, l⟩ : Lm)] = 1 + sizeM l := by simp [sizeM]
    rw [hz] at hi1
    clear ih hs hz
    by_cases k1 : kd = 1
    · subst k1
      have HB0 : Hid (Below w.heap.size w (w.alloc (.cells #[.int .i64 1, .int .i64 ix, .slice a l.length c] 25))) := (Below.refl _ _).alloc (Nat.le_refl _) _
      by_cases hx : ix = i
      · have HU : Hid (true = decide (0 < usesM i [⟨1, ix, l⟩])) := by unfold Hid; rw [usesM_one]; simp [hx]
        subst hx
        go_enter Tryz.func77, Tryz.ntmps77
        go_wp2_with fail
        go_ret
        exact ⟨ret_boolM HU.out, HB0.out⟩
      · have HU : Hid (false = decide (0 < usesM i [⟨1, ix, l⟩])) := by unfold Hid; rw [usesM_one]; simp [hx]
        have hx2 : (ix == i) = false := by simpa using hx
        go_enter Tryz.func77, Tryz.ntmps77
        go_wp2_with fail
        go_ret
        exact ⟨ret_boolM HU.out, HB0.out⟩
    · have e1 : (kd == 1) = false := by simpa using k1
      have HB0 : Hid (Below w.heap.size w (w.alloc (.cells #[.int .i64 kd, .int .i64 ix, .slice a l.length c] 25))) := (Below.refl _ _).alloc (Nat.le_refl _) _
      by_cases k2 : kd = 2
      · subst k2
        have hw1 : IntKind.i64.wrap (i + 1) = i + 1 := by rw [IntKind.wrap_i64]; omega
        have HU : Hid (usesM i [⟨2, ix, l⟩] = usesM (i + 1) l) := by unfold Hid; rw [usesM_one]; simp [deepK]
        go_enter Tryz.func77, Tryz.ntmps77
        go_wp2_with fail
        go_loopw [22] (fun ii wr => ∃ k : Nat, k ≤ l.length ∧ ii = .int .i64 (k : Int) ∧ usesM (i + 1) (l.take k) = 0 ∧ Below w.heap.size w wr) (fun ii wr => l.length - (intOf ii).toNat)
        case atStart => exact ⟨0, Nat.zero_le _, rfl, by simp [usesM], HB0.out⟩
        case round =>
          obtain ⟨k, hk, rfl, he, hb⟩ := hrel
          have HEK := hide he
          have HBK := hide hb
          have hsz : w.heap.size ≤ wr.heap.size := hb.size
          by_cases hlt : k < l.length
          · obtain ⟨b, o, a', c', rfl, d0, d0', d1, hx⟩ := HS.out.get hb (fun _ _ h => h) k hlt
            have HX := hide hx
            have hzk : 1 + sizeM [l[k]] ≤ 1 + sizeM l := by
              have h1 := sizeM_take l k hlt
              have h2 := sizeM_take_le l (k + 1)
              omega
            have HTU := hide (usesM_take (i + 1) l k hlt)
            clear hx hb he
            go_wp2_with fail
            refine (IH.out _ (List.getElem_mem hlt) _ _ _ X (HX.out.alloc _) (by omega) (by omega)).mono ?_
            rintro e w2 ⟨rfl, hb2⟩
            have HB2 : Hid (Below w.heap.size w w2) := (HBK.out.alloc hsz _).trans (hb2.mono (by simp; omega))
            clear hb2
            by_cases hez : 0 < usesM (i + 1) [l[k]]
            · have HZ : Hid (true = decide (0 < usesM i [(⟨2, ix, l⟩ : Lm)])) := by
                unfold Hid
                have h1 := usesM_append (i + 1) (l.take (k + 1)) (l.drop (k + 1))
                rw [List.take_append_drop, HTU.out] at h1
                have h2 : 0 < usesM i [(⟨2, ix, l⟩ : Lm)] := by rw [HU.out]; omega
                simp [h2]
              rw [show decide (0 < usesM (i + 1) [l[k]]) = true by simpa using hez]
              clear hez
              go_wp2_with fail
              go_ret
              exact ⟨ret_boolM HZ.out, HB2.out⟩
            · have HZ := hide hez
              rw [show decide (0 < usesM (i + 1) [l[k]]) = false by simpa using hez]
              clear hez
              go_wp2_with fail
              go_roundw
              case rel => exact ⟨k + 1, by omega, by go_num, by have h1 := HZ.out; have h2 := HEK.out; rw [HTU.out]; omega, HB2.out⟩
              case measure => simp [intOf]; omega
          · have htk : l.take k = l := List.take_of_length_le (by omega)
            have hge : ¬ ((k : Int) < (l.length : Int)) := by omega
            have HZ : Hid (false = decide (0 < usesM i [(⟨2, ix, l⟩ : Lm)])) := by unfold Hid; rw [HU.out, ← htk, HEK.out]; rfl
            clear he htk
            go_wp2_with fail
            go_ret
            exact ⟨ret_boolM HZ.out, HBK.out⟩
      · have e2 : (kd == 2) = false := by simpa using k2
        have HU : Hid (usesM i [⟨kd, ix, l⟩] = usesM i l) := by unfold Hid; rw [usesM_one]; simp [deepK, k1, k2]
        go_enter Tryz.func77, Tryz.ntmps77
        go_wp2_with fail
        go_loopw [22] (fun ii wr => ∃ k : Nat, k ≤ l.length ∧ ii = .int .i64 (k : Int) ∧ usesM (i) (l.take k) = 0 ∧ Below w.heap.size w wr) (fun ii wr => l.length - (intOf ii).toNat)
        case atStart => exact ⟨0, Nat.zero_le _, rfl, by simp [usesM], HB0.out⟩
        case round =>
          obtain ⟨k, hk, rfl, he, hb⟩ := hrel
          have HEK := hide he
          have HBK := hide hb
          have hsz : w.heap.size ≤ wr.heap.size := hb.size
          by_cases hlt : k < l.length
          · obtain ⟨b, o, a', c', rfl, d0, d0', d1, hx⟩ := HS.out.get hb (fun _ _ h => h) k hlt
            have HX := hide hx
            have hzk : 1 + sizeM [l[k]] ≤ 1 + sizeM l := by
              have h1 := sizeM_take l k hlt
              have h2 := sizeM_take_le l (k + 1)
              omega
            have HTU := hide (usesM_take (i) l k hlt)
            clear hx hb he
            go_wp2_with fail
            refine (IH.out _ (List.getElem_mem hlt) _ _ _ X (HX.out.alloc _) (by omega) (by omega)).mono ?_
            rintro e w2 ⟨rfl, hb2⟩
            have HB2 : Hid (Below w.heap.size w w2) := (HBK.out.alloc hsz _).trans (hb2.mono (by simp; omega))
            clear hb2
            by_cases hez : 0 < usesM (i) [l[k]]
            · have HZ : Hid (true = decide (0 < usesM i [(⟨kd, ix, l⟩ : Lm)])) := by
                unfold Hid
                have h1 := usesM_append (i) (l.take (k + 1)) (l.drop (k + 1))
                rw [List.take_append_drop, HTU.out] at h1
                have h2 : 0 < usesM i [(⟨kd, ix, l⟩ : Lm)] := by rw [HU.out]; omega
                simp [h2]
              rw [show decide (0 < usesM (i) [l[k]]) = true by simpa using hez]
              clear hez
              go_wp2_with fail
              go_ret
              exact ⟨ret_boolM HZ.out, HB2.out⟩
            · have HZ := hide hez
              rw [show decide (0 < usesM (i) [l[k]]) = false by simpa using hez]
              clear hez
              go_wp2_with fail
              go_roundw
              case rel => exact ⟨k + 1, by omega, by go_num, by have h1 := HZ.out; have h2 := HEK.out; rw [HTU.out]; omega, HB2.out⟩
              case measure => simp [intOf]; omega
          · have htk : l.take k = l := List.take_of_length_le (by omega)
            have hge : ¬ ((k : Int) < (l.length : Int)) := by omega
            have HZ : Hid (false = decide (0 < usesM i [(⟨kd, ix, l⟩ : Lm)])) := by unfold Hid; rw [HU.out, ← htk, HEK.out]; rfl
            clear he htk
            go_wp2_with fail
            go_ret
            exact ⟨ret_boolM HZ.out, HBK.out⟩
end Go.Proofs.YtfkjejpfhflanaaGreatDoor

/- Lambda terms: binders that do nothing (plain). -/
namespace Go.Proofs.YtfkjejpfhflanaaGreatDoor
open Go.RowKit
set_option linter.unusedSimpArgs false
set_option linter.unusedVariables false
set_option maxRecDepth 8000

/-- Does what stands below a binder apply a term, in which what it binds doesn't stand, to what it binds? -/
def idleT (y : Lm) : Bool := decide (y.kind = 3) && (match y.subs with | [f, x] => decide (usesM 0 [f] = 0) && decide (x.kind = 1) && decide (x.idx = 0) | _ => false)
/-- A knot above what those below have become. -/
def etaK (k x : Int) (L : List Lm) : Lm := if k = 2 then (match L with | [⟨k2, x2, [f, y]⟩] => if idleT ⟨k2, x2, [f, y]⟩ = true then higT (-1) 0 f else ⟨k, x, L⟩ | _ => ⟨k, x, L⟩) else ⟨k, x, L⟩
def etaM : List Lm → List Lm
  | [] => []
  | ⟨k, x, l⟩ :: r => etaK k x (etaM l) :: etaM r
def etaT (t : Lm) : Lm := etaK t.kind t.idx (etaM t.subs)
theorem etaM_map : ∀ (l : List Lm), etaM l = l.map etaT
  | [] => by simp [etaM]
  | ⟨k, x, l⟩ :: r => by rw [etaM, etaM_map r]; rfl
theorem etaM_take (l : List Lm) (k : Nat) (h : k < l.length) : etaM (l.take (k + 1)) = etaM (l.take k) ++ [etaT l[k]] := by
  rw [etaM_map, etaM_map, List.take_succ_eq_append_getElem h, List.map_append]
  rfl
theorem sh_hig (l : List Lm) : ∀ y d, ShM l → ShM (higM y d l) := by
  induction l using Lm.indL with
  | h0 => intro y d _; simp [higM, ShM]
  | h k x l r ihl ihr =>
    intro y d hs
    rw [ShM_cons] at hs
    rw [higM]
    split
    · rename_i h1
      split
      · exact (ShM_cons _ _ _ _).2 ⟨hs.1, hs.2.1, ihr y d hs.2.2⟩
      · exact (ShM_cons _ _ _ _).2 ⟨by simp [subsK], ShM_nil, ihr y d hs.2.2⟩
    · exact (ShM_cons _ _ _ _).2 ⟨by rw [higM_map]; simpa using hs.1, ihl _ _ hs.2.1, ihr y d hs.2.2⟩
theorem size_hig (l : List Lm) : ∀ y d, sizeM (higM y d l) ≤ sizeM l := by
  induction l using Lm.indL with
  | h0 => intro y d; simp [higM]
  | h k x l r ihl ihr =>
    intro y d
    have h1 := ihl y (deepK d k)
    have h2 := ihr y d
    rw [higM]
    split
    · split
      · simp only [sizeM]; omega
      · simp only [sizeM]; omega
    · simp only [sizeM]; omega
theorem bnd_low (l : List Lm) : ∀ d, 0 ≤ d → ShM l → usesM d l = 0 → BndM l → BndM (higM (-1) d l) := by
  induction l using Lm.indL with
  | h0 => intro d _ _ _ _; simp [higM, BndM]
  | h k x l r ihl ihr =>
    intro d hd hs hu hb
    rw [ShM_cons] at hs
    rw [BndM_cons] at hb
    rw [usesM] at hu
    rw [higM]
    split
    · rename_i h1
      rw [if_pos h1] at hu
      have hr : usesM d r = 0 := by omega
      split
      · exact (BndM_cons _ _ _ _).2 ⟨hb.1, hb.2.1, ihr d hd hs.2.2 hr hb.2.2⟩
      · rename_i h2
        refine (BndM_cons _ _ _ _).2 ⟨?_, BndM_nil, ihr d hd hs.2.2 hr hb.2.2⟩
        split at hu
        · omega
        · omega
    · rename_i h1
      rw [if_neg h1] at hu
      refine (BndM_cons _ _ _ _).2 ⟨hb.1, ihl _ ?_ hs.2.1 (by omega) hb.2.1, ihr d hd hs.2.2 (by omega) hb.2.2⟩
      unfold deepK; split <;> omega
theorem higM_one (y d : Int) (t : Lm) : higM y d [t] = [higT y d t] := by rw [higM_map]; rfl

theorem etaK_two (x : Int) (L : List Lm) : etaK 2 x L = ⟨2, x, L⟩ ∨ ∃ k2 x2 f y, L = [⟨k2, x2, [f, y]⟩] ∧ idleT ⟨k2, x2, [f, y]⟩ = true ∧ etaK 2 x L = higT (-1) 0 f := by
  unfold etaK
  simp only [if_true]
  split
  · rename_i k2 x2 f y
    split
    · rename_i h
      exact Or.inr ⟨k2, x2, f, y, rfl, h, rfl⟩
    · exact Or.inl rfl
  · exact Or.inl rfl
theorem idle_uses {k2 x2 : Int} {f y : Lm} (h : idleT ⟨k2, x2, [f, y]⟩ = true) : usesM 0 [f] = 0 := by
  unfold idleT at h
  simp at h
  exact h.2.1.1
/-- What holds of a term holds of what it becomes. -/
theorem eta_facts (l : List Lm) : ShM l → BndM l → ShM (etaM l) ∧ BndM (etaM l) ∧ sizeM (etaM l) ≤ sizeM l := by
  induction l using Lm.indL with
  | h0 => intro _ _; simp [etaM, ShM, BndM]
  | h k x l r ihl ihr =>
    intro hs hb
    rw [ShM_cons] at hs
    rw [BndM_cons] at hb
    obtain ⟨a1, a2, a3⟩ := ihl hs.2.1 hb.2.1
    obtain ⟨b1, b2, b3⟩ := ihr hs.2.2 hb.2.2
    have hlen : (etaM l).length = l.length := by rw [etaM_map]; simp
    have hkeep : ShM (⟨k, x, etaM l⟩ :: etaM r) ∧ BndM (⟨k, x, etaM l⟩ :: etaM r) ∧ sizeM (⟨k, x, etaM l⟩ :: etaM r) ≤ sizeM (⟨k, x, l⟩ :: r) := by
      refine ⟨(ShM_cons _ _ _ _).2 ⟨by rw [hlen]; exact hs.1, a1, b1⟩, (BndM_cons _ _ _ _).2 ⟨hb.1, a2, b2⟩, ?_⟩
      simp only [sizeM]
      omega
    rw [etaM]
    by_cases k2 : k = 2
    · subst k2
      rcases etaK_two x (etaM l) with e | ⟨k2, x2, f, y, e1, e2, e3⟩
      · rw [e]; exact hkeep
      · rw [e3]
        rw [e1] at a1 a2 a3
        rw [ShM_cons] at a1
        rw [BndM_cons] at a2
        have hf1 : ShM [f] := ShM.at 0 (by simp) a1.2.1
        have hf2 : BndM [f] := BndM.at 0 (by simp) a2.2.1
        have g1 := sh_hig [f] (-1) 0 hf1
        have g2 := bnd_low [f] 0 (Int.le_refl 0) hf1 (idle_uses e2) hf2
        have g3 := size_hig [f] (-1) 0
        rw [higM_one] at g1 g2 g3
        have g4 : sizeM [f] ≤ sizeM [f, y] := sizeM_take_le [f, y] 1
        have g5 : sizeM [(⟨k2, x2, [f, y]⟩ : Lm)] = 1 + sizeM [f, y] := by simp [sizeM]
        generalize higT (-1) 0 f = q at *
        obtain ⟨qk, qx, ql⟩ := q
        rw [ShM_cons] at g1
        rw [BndM_cons] at g2
        refine ⟨(ShM_cons _ _ _ _).2 ⟨g1.1, g1.2.1, b1⟩, (BndM_cons _ _ _ _).2 ⟨g2.1, g2.2.1, b2⟩, ?_⟩
        have g6 : sizeM [(⟨qk, qx, ql⟩ : Lm)] = 1 + sizeM ql := by simp [sizeM]
        simp only [sizeM]
        omega
    · have e : etaK k x (etaM l) = ⟨k, x, etaM l⟩ := by unfold etaK; rw [if_neg k2]
      rw [e]
      exact hkeep
end Go.Proofs.YtfkjejpfhflanaaGreatDoor


/- Walks: the document's EtaOf. -/
namespace Go.Proofs.YtfkjejpfhflanaaGreatDoor
open Go.RowKit
set_option linter.unusedSimpArgs false
set_option linter.unusedVariables false
set_option maxRecDepth 8000

theorem LmPost.later {w w1 w2 : World} {X : Nat → Prop} {t : Lm} {e : Ending} (h : LmPost w X t e w1) (hb : Below w1.heap.size w1 w2) : LmPost w X t e w2 := by
  obtain ⟨a, c, e1, h1, h2⟩ := h
  exact ⟨a, c, e1, h1.later hb, h2.trans (hb.mono h2.size)⟩
/-- What is held while a binder is asked whether it does nothing. -/
def EtS (Q bf of : Nat) (af ax : Option Addr) (cf cx c9 : Nat) (yx : Int) (f x : Lm) (w' : World) : Prop :=
  Blk w' Q #[.int .i64 3, .int .i64 yx, .slice (some ⟨bf, of, none⟩) 2 c9] 25 ∧ w'.cell? ⟨bf, of, none⟩ = some (.int .i64 f.kind) ∧ w'.cell? ⟨bf, of + 1, none⟩ = some (.int .i64 f.idx) ∧ w'.cell? ⟨bf, of + 2, none⟩ = some (.slice af f.subs.length cf) ∧ w'.cell? ⟨bf, of + 3, none⟩ = some (.int .i64 x.kind) ∧ w'.cell? ⟨bf, of + 3 + 1, none⟩ = some (.int .i64 x.idx) ∧ w'.cell? ⟨bf, of + 3 + 2, none⟩ = some (.slice ax x.subs.length cx)
theorem EtS.call0 {Q bf of : Nat} {af ax : Option Addr} {cf cx c9 : Nat} {yx : Int} {f x : Lm} {w w1 : World} (hb : Below w.heap.size w w1) (h : EtS Q bf of af ax cf cx c9 yx f x w) : EtS Q bf of af ax cf cx c9 yx f x w1 := by
  obtain ⟨h0, h1, h2, h3, h4, h5, h6⟩ := h
  exact ⟨h0.below hb h0.lt, cell_later hb h1, cell_later hb h2, cell_later hb h3, cell_later hb h4, cell_later hb h5, cell_later hb h6⟩
theorem EtS.call {Q bf of : Nat} {af ax : Option Addr} {cf cx c9 : Nat} {yx : Int} {f x : Lm} {w w1 : World} {n : Nat} (hb : Below (w.drewN n).heap.size (w.drewN n) w1) (h : EtS Q bf of af ax cf cx c9 yx f x w) : EtS Q bf of af ax cf cx c9 yx f x w1 :=
  EtS.call0 ((below_drewN (Below.refl _ _) n).trans (hb.mono (by simp))) h
/-- Is a term what the nearest binder binds? -/
def varZ (x : Lm) : Bool := decide (x.kind = 1) && decide (x.idx = 0)
theorem etaK_three (ix yx : Int) (f x : Lm) : etaK 2 ix [⟨3, yx, [f, x]⟩] = if (decide (usesM 0 [f] = 0) && varZ x) = true then higT (-1) 0 f else ⟨2, ix, [⟨3, yx, [f, x]⟩]⟩ := by
  have h : idleT ⟨3, yx, [f, x]⟩ = (decide (usesM 0 [f] = 0) && varZ x) := by unfold idleT varZ; simp [Bool.and_assoc]
  unfold etaK
  simp only [if_true, h]
end Go.Proofs.YtfkjejpfhflanaaGreatDoor

/- Walks: the code's isIdle. -/
namespace Go.Proofs.YtfkjejpfhflanaaGreatDoor
open Go.RowKit
set_option linter.unusedSimpArgs false
set_option linter.unusedVariables false
set_option maxRecDepth 8000

theorem idle_three (ix : Int) (f x : Lm) : idleT ⟨3, ix, [f, x]⟩ = (decide (usesM 0 [f] = 0) && varZ x) := by unfold idleT varZ; simp [Bool.and_assoc]
theorem bl_set3L {w W : World} (h : Below w.heap.size w W) (j : Nat) (hj : w.heap.size ≤ j) (u u' u'' : Value) : Below w.heap.size w (((W.setCell ⟨j, 0, none⟩ u).setCell ⟨j, 1, none⟩ u').setCell ⟨j, 2, none⟩ u'') :=
  ((h.setCell (p := ⟨j, 0, none⟩) (by simpa using hj) _).setCell (p := ⟨j, 1, none⟩) (by simpa using hj) _).setCell (p := ⟨j, 2, none⟩) (by simpa using hj) _
set_option maxHeartbeats 2000000 in
theorem isIdle_any (y : Lm) (v : Value) (w : World) (X : Nat → Prop) (hv : MV w X v y) (hsh : ShM [y]) (hsz : sizeM [y] ≤ 10000) :
    Calls Tryz.prog 52 #[v] w fun e w' => e = .returned (.bool (idleT y)) ∧ Below w.heap.size w w' := by
  obtain ⟨kd, ix, l⟩ := y
  obtain ⟨a, c, rfl, hs⟩ := hv
  by_cases k3 : kd = 3
  case neg =>
    have e3 : (kd != 3) = true := by simpa using k3
    have e4 : (kd == 3) = false := by simpa using k3
    have HT : Hid (false = idleT ⟨kd, ix, l⟩) := by unfold Hid idleT; simp [k3]
    have HB : Hid (∀ o, Below w.heap.size w (w.alloc o)) := fun o => (Below.refl _ _).alloc (Nat.le_refl _) _
    go_enter Tryz.func52, Tryz.ntmps52
    go_wp2_with fail
    go_ret
    exact ⟨ret_boolM HT.out, HB.out _⟩
  case pos =>
    subst k3
    rw [ShM_cons] at hsh
    have hl2 : l.length = 2 := by simpa [subsK] using hsh.1
    obtain ⟨f, x, rfl⟩ : ∃ f x, l = [f, x] := by
      match l, hl2 with
      | [f, x], _ => exact ⟨f, x, rfl⟩
    have hsf : sizeM [f] ≤ 10000 := by
      have h2 : sizeM [f] ≤ sizeM [f, x] := sizeM_take_le [f, x] 1
      have h4 : sizeM [(⟨3, ix, [f, x]⟩ : Lm)] = 1 + sizeM [f, x] := by simp [sizeM]
      omega
    obtain ⟨bf, of, af, cf, rfl, f0, f0', f1, hxf⟩ := hs.get (Below.refl _ _) (fun _ _ h => h) 0 (by simp)
    obtain ⟨bf2, of2, ax, cx, ebf, x0, x0', x1, hxx⟩ := hs.get (Below.refl _ _) (fun _ _ h => h) 1 (by simp)
    simp at ebf
    obtain ⟨rfl, rfl⟩ := ebf
    simp only [Nat.zero_mul, Nat.one_mul, Nat.add_zero, List.getElem_cons_zero, List.getElem_cons_succ, List.length_cons, List.length_nil] at f0 f0' f1 x0 x0' x1 hxf hxx
    have HXF := hide hxf
    have HC : Hid (w.cell? ⟨bf, of, none⟩ = some (.int .i64 f.kind) ∧ w.cell? ⟨bf, of + 1, none⟩ = some (.int .i64 f.idx) ∧ w.cell? ⟨bf, of + 2, none⟩ = some (.slice af f.subs.length cf) ∧ w.cell? ⟨bf, of + 3, none⟩ = some (.int .i64 x.kind) ∧ w.cell? ⟨bf, of + 3 + 1, none⟩ = some (.int .i64 x.idx) ∧ w.cell? ⟨bf, of + 3 + 2, none⟩ = some (.slice ax x.subs.length cx)) := ⟨f0, f0', f1, x0, x0', x1⟩
    have B1 : Below w.heap.size w (w.alloc (.cells #[.int .i64 3, .int .i64 ix, .slice (some ⟨bf, of, none⟩) 2 c] 25)) := (Below.refl _ _).alloc (Nat.le_refl _) _
    have T1 : Hid (Blk (w.alloc (.cells #[.int .i64 3, .int .i64 ix, .slice (some ⟨bf, of, none⟩) 2 c] 25)) w.heap.size #[.int .i64 3, .int .i64 ix, .slice (some ⟨bf, of, none⟩) 2 c] 25) := Blk.new _ _ _
    clear f0 f0' f1 x0 x0' x1 hxf hxx hs hsh hl2
    have g0 : (w.alloc (.cells #[.int .i64 3, .int .i64 ix, .slice (some ⟨bf, of, none⟩) 2 c] 25)).cell? ⟨bf, of, none⟩ = some (.int .i64 f.kind) := cell_later B1 HC.out.1
    have g1 : (w.alloc (.cells #[.int .i64 3, .int .i64 ix, .slice (some ⟨bf, of, none⟩) 2 c] 25)).cell? ⟨bf, of + 1, none⟩ = some (.int .i64 f.idx) := cell_later B1 HC.out.2.1
    have g2 : (w.alloc (.cells #[.int .i64 3, .int .i64 ix, .slice (some ⟨bf, of, none⟩) 2 c] 25)).cell? ⟨bf, of + 2, none⟩ = some (.slice af f.subs.length cf) := cell_later B1 HC.out.2.2.1
    have g3 : (w.alloc (.cells #[.int .i64 3, .int .i64 ix, .slice (some ⟨bf, of, none⟩) 2 c] 25)).cell? ⟨bf, of + 3, none⟩ = some (.int .i64 x.kind) := cell_later B1 HC.out.2.2.2.1
    have g4 : (w.alloc (.cells #[.int .i64 3, .int .i64 ix, .slice (some ⟨bf, of, none⟩) 2 c] 25)).cell? ⟨bf, of + 3 + 1, none⟩ = some (.int .i64 x.idx) := cell_later B1 HC.out.2.2.2.2.1
    have g5 : (w.alloc (.cells #[.int .i64 3, .int .i64 ix, .slice (some ⟨bf, of, none⟩) 2 c] 25)).cell? ⟨bf, of + 3 + 2, none⟩ = some (.slice ax x.subs.length cx) := cell_later B1 HC.out.2.2.2.2.2
    go_enter Tryz.func52, Tryz.ntmps52
    go_wp2_with fail
    refine (holds_any f _ 0 _ _ (by exact HXF.out.later B1) (by omega) (by omega)).mono ?_
    rintro e w2 ⟨rfl, hb2⟩
    have k2 := B1.trans (hb2.mono B1.size)
    have T2 := hide (T1.out.below hb2 T1.out.lt)
    have t0 : w2.cell? ⟨w.heap.size, 0, none⟩ = some (.int .i64 3) := T2.out.cell 0
    have t1 : w2.cell? ⟨w.heap.size, 1, none⟩ = some (.int .i64 ix) := T2.out.cell 1
    have t2 : w2.cell? ⟨w.heap.size, 2, none⟩ = some (.slice (some ⟨bf, of, none⟩) 2 c) := T2.out.cell 2
    clear hb2 g0 g1 g2 g3 g4 g5
    have g0 : w2.cell? ⟨bf, of, none⟩ = some (.int .i64 f.kind) := cell_later k2 HC.out.1
    have g1 : w2.cell? ⟨bf, of + 1, none⟩ = some (.int .i64 f.idx) := cell_later k2 HC.out.2.1
    have g2 : w2.cell? ⟨bf, of + 2, none⟩ = some (.slice af f.subs.length cf) := cell_later k2 HC.out.2.2.1
    have g3 : w2.cell? ⟨bf, of + 3, none⟩ = some (.int .i64 x.kind) := cell_later k2 HC.out.2.2.2.1
    have g4 : w2.cell? ⟨bf, of + 3 + 1, none⟩ = some (.int .i64 x.idx) := cell_later k2 HC.out.2.2.2.2.1
    have g5 : w2.cell? ⟨bf, of + 3 + 2, none⟩ = some (.slice ax x.subs.length cx) := cell_later k2 HC.out.2.2.2.2.2
    by_cases hu : usesM 0 [f] = 0
    · have hd : decide (0 < usesM 0 [f]) = false := by simp [hu]
      rw [hd]
      by_cases hx1 : x.kind = 1
      · have ex1 : (x.kind == 1) = true := by simpa using hx1
        by_cases hx0 : x.idx = 0
        · have ex0 : (x.idx == 0) = true := by simpa using hx0
          have HT : Hid (true = idleT ⟨3, ix, [f, x]⟩) := by unfold Hid; rw [idle_three]; simp [varZ, hu, hx1, hx0]
          go_wp2_with fail
          go_ret
          exact ⟨ret_boolM HT.out, by first | exact k2 | exact k2.alloc k2.size _ | exact bl_set3L (k2.alloc k2.size _) _ (by have := k2.size; omega) _ _ _⟩
        · have ex0 : (x.idx == 0) = false := by simpa using hx0
          have HT : Hid (false = idleT ⟨3, ix, [f, x]⟩) := by unfold Hid; rw [idle_three]; simp [varZ, hu, hx1, hx0]
          go_wp2_with fail
          go_ret
          exact ⟨ret_boolM HT.out, by first | exact k2 | exact k2.alloc k2.size _ | exact bl_set3L (k2.alloc k2.size _) _ (by have := k2.size; omega) _ _ _⟩
      · have ex1 : (x.kind == 1) = false := by simpa using hx1
        have HT : Hid (false = idleT ⟨3, ix, [f, x]⟩) := by unfold Hid; rw [idle_three]; simp [varZ, hu, hx1]
        go_wp2_with fail
        go_ret
        exact ⟨ret_boolM HT.out, by first | exact k2 | exact k2.alloc k2.size _ | exact bl_set3L (k2.alloc k2.size _) _ (by have := k2.size; omega) _ _ _⟩
    · have hd : decide (0 < usesM 0 [f]) = true := by simp; omega
      rw [hd]
      have HT : Hid (false = idleT ⟨3, ix, [f, x]⟩) := by unfold Hid; rw [idle_three]; simp [varZ, hu]
      go_wp2_with fail
      go_ret
      exact ⟨ret_boolM HT.out, by first | exact k2 | exact k2.alloc k2.size _ | exact bl_set3L (k2.alloc k2.size _) _ (by have := k2.size; omega) _ _ _⟩
end Go.Proofs.YtfkjejpfhflanaaGreatDoor

/- Walks: a term under one binder less. -/
namespace Go.Proofs.YtfkjejpfhflanaaGreatDoor
open Go.RowKit
set_option linter.unusedSimpArgs false
set_option linter.unusedVariables false
set_option maxRecDepth 8000

theorem lf_of_sh (l : List Lm) : ShM l → LfM l := by
  induction l using Lm.indL with
  | h0 => intro _; exact LfM_nil
  | h k x l r ihl ihr =>
    intro h
    rw [ShM_cons] at h
    exact (LfM_cons k x l r).2 ⟨fun hk => List.length_eq_zero_iff.1 (by have := h.1; subst hk; simpa [subsK] using this), ihl h.2.1, ihr h.2.2⟩
set_option maxHeartbeats 2000000 in
theorem lower_any (t : Lm) (hsz : sizeM [t] ≤ 10000) (hbn : BndM [t]) (hsh : ShM [t]) (v : Value) (w : World) (X : Nat → Prop) (hv : MV w X v t) :
    Calls Tryz.prog 53 #[v, .int .i64 (-1)] w fun e w' => ∃ v', e = .returned v' ∧ MV w' (fun b => w.heap.size ≤ b) v' (higT (-1) 0 t) ∧ Below w.heap.size w w' := by
  obtain ⟨a, c, rfl, hs⟩ := hv
  have hlf := lf_of_sh [t] hsh
  have hB3 : Below w.heap.size w (((w.alloc (.cells #[.int .i64 t.kind, .int .i64 t.idx, .slice a t.subs.length c] 25)).alloc (.cells #[.int .i64 0, .int .i64 0, .slice none 0 0] 25)).alloc (.cells #[.int .i64 9223372036854775807] 109)) := (below2M _ _).alloc (by simp; omega) _
  have hz3 : (((w.alloc (.cells #[.int .i64 t.kind, .int .i64 t.idx, .slice a t.subs.length c] 25)).alloc (.cells #[.int .i64 0, .int .i64 0, .slice none 0 0] 25)).alloc (.cells #[.int .i64 9223372036854775807] 109)).heap.size = w.heap.size + 3 := by simp
  have KM : Blk (((w.alloc (.cells #[.int .i64 t.kind, .int .i64 t.idx, .slice a t.subs.length c] 25)).alloc (.cells #[.int .i64 0, .int .i64 0, .slice none 0 0] 25)).alloc (.cells #[.int .i64 9223372036854775807] 109)) (w.heap.size + 1 + 1) #[.int .i64 9223372036854775807] 109 := by
    have h := Blk.new ((w.alloc (.cells #[.int .i64 t.kind, .int .i64 t.idx, .slice a t.subs.length c] 25)).alloc (.cells #[.int .i64 0, .int .i64 0, .slice none 0 0] 25)) #[.int .i64 9223372036854775807] 109
    simpa using h
  have KR : Blk (((w.alloc (.cells #[.int .i64 t.kind, .int .i64 t.idx, .slice a t.subs.length c] 25)).alloc (.cells #[.int .i64 0, .int .i64 0, .slice none 0 0] 25)).alloc (.cells #[.int .i64 9223372036854775807] 109)) (w.heap.size + 1) #[.int .i64 0, .int .i64 0, .slice none 0 0] 25 := by
    have h := (Blk.new (w.alloc (.cells #[.int .i64 t.kind, .int .i64 t.idx, .slice a t.subs.length c] 25)) #[.int .i64 0, .int .i64 0, .slice none 0 0] 25).alloc (.cells #[.int .i64 9223372036854775807] 109)
    simpa using h
  have RS := hide (raise_any (w.heap.size + 1 + 1) (-1) (by omega) (by omega) t 9223372036854775807 (.agg #[.int .i64 t.kind, .int .i64 t.idx, .slice a t.subs.length c]) (((w.alloc (.cells #[.int .i64 t.kind, .int .i64 t.idx, .slice a t.subs.length c] 25)).alloc (.cells #[.int .i64 0, .int .i64 0, .slice none 0 0] 25)).alloc (.cells #[.int .i64 9223372036854775807] 109)) (fun b => X b ∧ b < w.heap.size) ⟨a, c, rfl, (hs.mono (Y := fun b => X b ∧ b < w.heap.size) fun b h1 h2 => ⟨h1, h2⟩).later hB3⟩ (fun b hb => by omega) (by omega) (by omega) hbn hlf KM)
  have HB3 := hide hB3
  have HZ3 := hide hz3
  have HKR := hide KR
  have hsz9 : sizeM [higT (-1) 0 t] ≤ 9223372036854775807 := by have h := size_hig [t] (-1) 0; rw [higM_one] at h; omega
  clear hs hB3 hz3 KM KR hlf
  go_enter Tryz.func53, Tryz.ntmps53
  go_wp2_with fail
  refine RS.out.mono ?_
  rintro e w1 ⟨k', x', a', l', c', m, rfl, hF, hx, hy, _⟩
  obtain ⟨_, rfl, rfl, rfl, hsl⟩ := hy hsz9
  have h1 : w.heap.size + 3 ≤ w1.heap.size := by have := hx.size; have := HZ3.out; omega
  have B1 : Hid (Below w.heap.size w w1) := ⟨hx.os.trans HB3.out.os, hx.tape.trans HB3.out.tape, hx.output.trans HB3.out.output, by omega, fun b hb => (hx.block b (by have := HZ3.out; omega) (by omega)).trans (HB3.out.block b hb)⟩
  have R1 := hide (HKR.out.ex hx (by omega))
  have S1 : Hid (SlM w1 (fun b => w.heap.size + 2 ≤ b) a' (higT (-1) 0 t).subs) := hsl.mono fun b h _ => by have h' : (((w.alloc (.cells #[.int .i64 t.kind, .int .i64 t.idx, .slice a t.subs.length c] 25)).alloc (.cells #[.int .i64 0, .int .i64 0, .slice none 0 0] 25)).alloc (.cells #[.int .i64 9223372036854775807] 109)).heap.size ≤ b := h; have := HZ3.out; omega
  have r0 : w1.cell? ⟨w.heap.size + 1, 0, none⟩ = some (.int .i64 0) := R1.out.cell 0
  have r1 : w1.cell? ⟨w.heap.size + 1, 1, none⟩ = some (.int .i64 0) := R1.out.cell 1
  have r2 : w1.cell? ⟨w.heap.size + 1, 2, none⟩ = some (.slice none 0 0) := R1.out.cell 2
  have rf := R1.out.frozen
  clear hF hx hy hsl RS
  go_wp2_with fail
  refine bodyPost_ret (v := .agg #[.int .i64 (higT (-1) 0 t).kind, .int .i64 (higT (-1) 0 t).idx, .slice a' (higT (-1) 0 t).subs.length c']) (by simp [results, Tryz.results53, go_sem, World.cell?_setCell_same, World.cell?_setCell_other, r0, r1, r2]) rfl ?_
  have hE := cpM_end (c := c') S1.out B1.out (.int .i64 (higT (-1) 0 t).kind) (.int .i64 (higT (-1) 0 t).idx) (.slice a' (higT (-1) 0 t).subs.length c')
  exact ⟨_, rfl, hE.1.mono fun b hb _ => by omega, hE.2⟩

end Go.Proofs.YtfkjejpfhflanaaGreatDoor

/- Walks: the code's Eta. -/
namespace Go.Proofs.YtfkjejpfhflanaaGreatDoor
open Go.RowKit
set_option linter.unusedSimpArgs false
set_option linter.unusedVariables false
set_option maxRecDepth 8000

theorem LmSet.laterE {w wr w1 : World} {Y : Nat → Prop} {O n c : Nat} {u : Value} {L : List Lm} {kd ix : Int} {a : Option Addr} (h : LmSet w Y O kd ix a n c u L wr) (hb : Below wr.heap.size wr w1) : LmSet w Y O kd ix a n c u L w1 := by
  obtain ⟨xs, hrow, hx, hT, hR, hOb, hOl⟩ := h
  exact ⟨xs, hrow.below hb, hx.trans (hb.mono hx.size), hT.below hb hT.lt, hR.below hb hR.lt, hOb.below hb hOb.lt, by have := hb.size; omega⟩
theorem lm_roundS {w wr w1 : World} {Y : Nat → Prop} {O n c : Nat} {u : Value} {L : List Lm} {kd ix : Int} {a a1 : Option Addr} {c1 : Nat} {t : Lm} {b o : Nat} {k1 x1 : Int} {v1 : Value} (hO : w.heap.size + 2 ≤ O) (hY : ∀ b, Y b → b < w.heap.size) (hbo : some b ≠ u.ownBlock) (hbO : b ≠ O) (hset : LmSet w Y O kd ix a n c u L wr) (hS : LmS w.heap.size b o kd ix a n c k1 x1 v1 wr) (hn : L.length ≤ 1000000)
    (hb : Below wr.heap.size wr w1) (hs : SlM w1 (fun b => Y b ∨ wr.heap.size ≤ b) a1 t.subs) :
    ∃ g cap w3, (Builtin.append_ #[23, 23] 23 #[u, .slice (some ⟨w1.heap.size, 0, none⟩) 1 1]).run Tryz.prog (w1.alloc (.cells #[.int .i64 t.kind, .int .i64 t.idx, .slice a1 t.subs.length c1] 25)) = .ok (.slice (some ⟨g, 0, none⟩) (L.length + 1) cap) w3 ∧
      LmS w.heap.size b o kd ix a n c k1 x1 v1 w1 ∧ LmS w.heap.size b o kd ix a n c k1 x1 v1 (w1.alloc (.cells #[.int .i64 t.kind, .int .i64 t.idx, .slice a1 t.subs.length c1] 25)) ∧ LmS w.heap.size b o kd ix a n c k1 x1 v1 w3 ∧ w3.cell? ⟨O, 2, none⟩ = some u ∧ w3.frozen? ⟨O, 2, none⟩ = false ∧
      LmS w.heap.size b o kd ix a n c k1 x1 v1 (w3.setCell ⟨O, 2, none⟩ (.slice (some ⟨g, 0, none⟩) (L.length + 1) cap)) ∧ LmSet w Y O kd ix a n c (.slice (some ⟨g, 0, none⟩) (L.length + 1) cap) (L ++ [t]) (w3.setCell ⟨O, 2, none⟩ (.slice (some ⟨g, 0, none⟩) (L.length + 1) cap)) := by
  obtain ⟨xs, hrow, hx, hT, hR, hOb, hOl⟩ := hset
  obtain ⟨i0, hi, hz0, hz1, hz2⟩ := info_parts Tryz.infoLam
  have hlt := hrow.own.lt
  have hbs := hb.size
  have hsx := hx.size
  obtain ⟨g, cap, w3, hr, ho, hg, hat, hgl⟩ := run_append_lies (P := Tryz.prog) (w := w1.alloc (.cells #[.int .i64 t.kind, .int .i64 t.idx, .slice a1 t.subs.length c1] 25)) 23 23 (O + 1) 25 i0 _ 3 40 Tryz.underlying23 hi hz0 hz1 hz2 rfl (by decide) u L.length xs ((hrow.below hb).own.alloc _)
    ⟨w1.heap.size, 0, none⟩ 1 1 [.int .i64 t.kind, .int .i64 t.idx, .slice a1 t.subs.length c1] rfl (cell_lam_new _ _ _ _ _) (fun y hy => by simp at hy; rcases hy with rfl | rfl | rfl <;> rfl) (by decide) (by unfold maxLen; omega) (by omega) (by simp; omega) _ rfl
  have hp := hrow.push (w1 := w1) (w3 := w3) (t := t) (by omega) (fun b h => by have := hY b h; omega) hb ⟨a1, c1, rfl, hs⟩ _ rfl ho hg hat
  have hne : ∀ j, j < O + 1 → some j ≠ u.ownBlock := fun j hj e => by have := (hlt j e.symm).1; omega
  have hs3 := hg.size
  simp at hs3
  have hx3 : Below w.heap.size w w3 := ((hx.trans (hb.mono (by omega))).alloc (by omega) _).grown hg (by simp; omega) (fun k hk => by have := (hlt k hk).1; omega)
  have S1 := hS.below hb
  have S2 := S1.below ((Below.refl w1.heap.size w1).alloc (Nat.le_refl _) (.cells #[.int .i64 t.kind, .int .i64 t.idx, .slice a1 t.subs.length c1] 25))
  have S3 : LmS w.heap.size b o kd ix a n c k1 x1 v1 w3 := S2.kept (hg.block _ S2.1.lt (hne _ (by omega))) (hg.block _ (cell_ltM S2.2.1) hbo)
  have hO3 := ((hOb.below hb (by omega)).alloc (.cells #[.int .i64 t.kind, .int .i64 t.idx, .slice a1 t.subs.length c1] 25)).grown hg (hne _ (by omega))
  refine ⟨g, cap, w3, hr, S1, S2, S3, hO3.cell 2, hO3.frozen 2, S3.kept (Below.heap_setCell _ _ _ _ (by simp; omega)) (Below.heap_setCell _ _ _ _ (by simpa using hbO)), _, hp.setCell (by omega) (fun h => by have := hY _ h; omega) _, hx3.setCell (p := ⟨O, 2, none⟩) (by simp; omega) _, ?_, ?_, ?_, by simp [World.setCell]; omega⟩
  · exact (((hT.below hb (by omega)).alloc _).grown hg (hne _ (by omega))).setOther _ _ (by omega)
  · exact (((hR.below hb (by omega)).alloc _).grown hg (hne _ (by omega))).setOther _ _ (by omega)
  · exact hO3.set 2 _
/-- A lambda term that is all new. -/
def EtPost (w : World) (t : Lm) (e : Ending) (w' : World) : Prop :=
  ∃ a c, e = .returned (.agg #[.int .i64 t.kind, .int .i64 t.idx, .slice a t.subs.length c]) ∧ SlM w' (fun b => w.heap.size ≤ b) a t.subs ∧ Below w.heap.size w w'
theorem et_end {w wz : World} {t : Lm} {a : Option Addr} {c R : Nat} {v0 v1 v2 : Value} (hR : w.heap.size ≤ R) (hb : Below w.heap.size w wz) (hs : SlM wz (fun b => w.heap.size ≤ b ∧ b ≠ R) a t.subs) :
    EtPost w t (.returned (.agg #[.int .i64 t.kind, .int .i64 t.idx, .slice a t.subs.length c])) (((wz.setCell ⟨R, 0, none⟩ v0).setCell ⟨R, 1, none⟩ v1).setCell ⟨R, 2, none⟩ v2) := by
  refine ⟨a, c, rfl, (hs.kept fun b h => ?_).mono fun b h _ => h.1, ((hb.setCell (p := ⟨R, 0, none⟩) hR _).setCell (p := ⟨R, 1, none⟩) hR _).setCell (p := ⟨R, 2, none⟩) hR _⟩
  rw [Below.heap_setCell _ _ _ _ (by simpa using h.2), Below.heap_setCell _ _ _ _ (by simpa using h.2), Below.heap_setCell _ _ _ _ (by simpa using h.2)]
set_option maxHeartbeats 4000000 in
theorem eta_any (t : Lm) : ∀ (v : Value) (w : World) (X : Nat → Prop), MV w X v t → sizeM [t] ≤ 10000 → BndM [t] → ShM [t] →
    Calls Tryz.prog 24 #[v] w fun e w' => EtPost w (etaT t) e w' := by
  induction t using Lm.ind with
  | h kd ix l ih =>
    intro v w X hv hd1 hbn hsh
    obtain ⟨a, c, rfl, hs⟩ := hv
    have IH := hide ih
    have HS := hide hs
    have hl := hs.1
    have hz : sizeM [(⟨kd, ix, l⟩ : Lm)] = 1 + sizeM l := by simp [sizeM]
    rw [hz] at hd1
    rw [BndM_cons] at hbn
    rw [ShM_cons] at hsh
    obtain ⟨⟨hx0, hx1⟩, hbn, _⟩ := hbn
    obtain ⟨hnl, hsh, _⟩ := hsh
    have HBN := hide hbn
    have HSH := hide hsh
    have HNL := hide hnl
    have hlen := sizeM_len l
    clear ih hs hz hbn hsh hnl
    have B2 : Hid (Below w.heap.size w ((w.alloc (.cells #[.int .i64 kd, .int .i64 ix, .slice a l.length c] 25)).alloc (.cells #[.int .i64 0, .int .i64 0, .slice none 0 0] 25))) := ((Below.refl _ _).alloc (Nat.le_refl _) _).alloc (by simp) _
    have T2 : Hid (Blk ((w.alloc (.cells #[.int .i64 kd, .int .i64 ix, .slice a l.length c] 25)).alloc (.cells #[.int .i64 0, .int .i64 0, .slice none 0 0] 25)) w.heap.size #[.int .i64 kd, .int .i64 ix, .slice a l.length c] 25) := (Blk.new w _ _).alloc _
    have R2 : Hid (Blk ((w.alloc (.cells #[.int .i64 kd, .int .i64 ix, .slice a l.length c] 25)).alloc (.cells #[.int .i64 0, .int .i64 0, .slice none 0 0] 25)) (w.heap.size + 1) #[.int .i64 0, .int .i64 0, .slice none 0 0] 25) := by
      have h := Blk.new (w.alloc (.cells #[.int .i64 kd, .int .i64 ix, .slice a l.length c] 25)) #[.int .i64 0, .int .i64 0, .slice none 0 0] 25
      rw [World.size_alloc] at h
      exact h
    by_cases k2 : kd = 2
    case pos =>
      subst k2
      go_enter Tryz.func24, Tryz.ntmps24
      go_wp2_with fail
      have T3 := hide (T2.out.alloc (.cells #[.int .i64 2, .int .i64 ix, .slice none 0 0] 25))
      have R3 := hide (R2.out.alloc (.cells #[.int .i64 2, .int .i64 ix, .slice none 0 0] 25))
      have O3 := hide (Blk.new ((w.alloc (.cells #[.int .i64 2, .int .i64 ix, .slice a l.length c] 25)).alloc (.cells #[.int .i64 0, .int .i64 0, .slice none 0 0] 25)) #[.int .i64 2, .int .i64 ix, .slice none 0 0] 25)
      have B3 := hide (B2.out.alloc B2.out.size (.cells #[.int .i64 2, .int .i64 ix, .slice none 0 0] 25))
      have eO : ((w.alloc (.cells #[.int .i64 2, .int .i64 ix, .slice a l.length c] 25)).alloc (.cells #[.int .i64 0, .int .i64 0, .slice none 0 0] 25)).heap.size = w.heap.size + 2 := by simp
      rw [eO] at O3
      clear eO B2 T2 R2
      generalize ((w.alloc (.cells #[.int .i64 2, .int .i64 ix, .slice a l.length c] 25)).alloc (.cells #[.int .i64 0, .int .i64 0, .slice none 0 0] 25)).alloc (.cells #[.int .i64 2, .int .i64 ix, .slice none 0 0] 25) = w3 at *
      obtain ⟨O, eO⟩ : ∃ O, O = w.heap.size + 2 := ⟨_, rfl⟩
      rw [← eO] at O3
      simp only [← eO]
      have hO : w.heap.size + 2 ≤ O := by omega
      clear eO
      go_loopw [14] (fun i wr => ∃ (k : Nat) (u : Value), k ≤ l.length ∧ i = .int .i64 (k : Int) ∧ LmSet w (fun _ => False) O 2 ix a l.length c u (etaM (l.take k)) wr) (fun i wr => l.length - (intOf i).toNat)
      case atStart => exact ⟨0, .slice none 0 0, Nat.zero_le _, rfl, [], by have h := RowM.start w3 (O + 1) 25 (fun _ => False); simpa [etaM] using h, B3.out, T3.out, R3.out, O3.out, O3.out.lt⟩
      case round =>
        obtain ⟨k, u9, hk, rfl, hset⟩ := hrel
        have SET := hide hset
        obtain ⟨xs, hrow, hbb, hT, hR, hOb, hOl⟩ := hset
        have XE := hide hbb
        have XT := hide hT
        have XR := hide hR
        have XO := hide hOb
        have XW := hide hrow
        clear hrow hbb hR hOb
        have c0 : wr.cell? ⟨w.heap.size, 0, none⟩ = some (.int .i64 2) := hT.cell 0
        have c1 : wr.cell? ⟨w.heap.size, 1, none⟩ = some (.int .i64 ix) := hT.cell 1
        have c2 : wr.cell? ⟨w.heap.size, 2, none⟩ = some (.slice a l.length c) := hT.cell 2
        have o0 : wr.cell? ⟨O, 0, none⟩ = some (.int .i64 2) := XO.out.cell 0
        have o1 : wr.cell? ⟨O, 1, none⟩ = some (.int .i64 ix) := XO.out.cell 1
        have o2 : wr.cell? ⟨O, 2, none⟩ = some u9 := XO.out.cell 2
        clear hT
        by_cases hlt : k < l.length
        · obtain ⟨b, o, a', c', rfl, d0, d0', d1, hx⟩ := (HS.out.mono (Y := fun b => X b ∧ b < w.heap.size) fun b h1 h2 => ⟨h1, h2⟩).get XE.out (fun b h _ => h.2) k hlt
          have hlt2 : (k : Int) < (l.length : Int) := by omega
          have hszk : sizeM [l[k]] ≤ sizeM l := by
            have h1 := sizeM_take l k hlt
            have h2 := sizeM_take_le l (k + 1)
            omega
          have HLN : Hid ((etaM (l.take k)).length ≤ 1000000) := by unfold Hid; rw [etaM_map]; simp; omega
          have HBk := hide (BndM.at k hlt HBN.out)
          have HTK := hide (etaM_take l k hlt)
          have BQ : Below wr.heap.size wr (wr.alloc (.cells #[.int .i64 l[k].kind, .int .i64 l[k].idx, .slice a' l[k].subs.length c'] 25)) := (Below.refl _ _).alloc (Nat.le_refl _) _
          have HX := hide (hx.later BQ)
          have HOB : Hid (some wr.heap.size ≠ u9.ownBlock ∧ wr.heap.size ≠ O) := ⟨fun e => by have := (XW.out.own.lt _ e.symm).2; omega, by have := XO.out.lt; omega⟩
          have SET := hide (SET.out.laterE BQ)
          have HS8 : Hid (LmS w.heap.size wr.heap.size 0 2 ix (some ⟨b, o, none⟩) l.length c l[k].kind l[k].idx (.slice a' l[k].subs.length c') (wr.alloc (.cells #[.int .i64 l[k].kind, .int .i64 l[k].idx, .slice a' l[k].subs.length c'] 25))) := ⟨XT.out.alloc _, (Blk.new wr #[.int .i64 l[k].kind, .int .i64 l[k].idx, .slice a' l[k].subs.length c'] 25).cell 0, (Blk.new wr #[.int .i64 l[k].kind, .int .i64 l[k].idx, .slice a' l[k].subs.length c'] 25).cell 1, (Blk.new wr #[.int .i64 l[k].kind, .int .i64 l[k].idx, .slice a' l[k].subs.length c'] 25).cell 2⟩
          have XO := hide (XO.out.alloc (.cells #[.int .i64 l[k].kind, .int .i64 l[k].idx, .slice a' l[k].subs.length c'] 25))
          clear hx c0 c1 o0 o1 o2 BQ
          go_upto_region 5 with fail
          clear d0 d0' d1 XE XT XR XW c2 hOl
          generalize (wr.alloc (.cells #[.int .i64 l[k].kind, .int .i64 l[k].idx, .slice a' l[k].subs.length c'] 25)) = wq at *
          generalize wr.heap.size = Q at *
          have IHQ : Hid (Calls Tryz.prog 24 #[.agg #[.int .i64 l[k].kind, .int .i64 l[k].idx, .slice a' l[k].subs.length c']] wq.drew fun e w'' => ∃ a1 c1, e = .returned (.agg #[.int .i64 (etaT l[k]).kind, .int .i64 (etaT l[k]).idx, .slice a1 (etaT l[k]).subs.length c1]) ∧ SlM w'' (fun b => False ∨ wq.heap.size ≤ b) a1 (etaT l[k]).subs ∧ Below wq.heap.size wq w'') := (IH.out l[k] (List.getElem_mem hlt) _ wq.drew _ (HX.out.later ((Below.refl wq.heap.size wq).drew)) (by omega) HBk.out (ShM.at k hlt HSH.out)).mono fun e w'' hp => by
              obtain ⟨a1, c1, h1, h2, h3⟩ := hp
              exact ⟨a1, c1, h1, h2.mono (fun b hb _ => Or.inr hb), ((Below.refl wq.heap.size wq).drew).trans h3⟩
          have HSd : Hid (LmS w.heap.size Q 0 2 ix (some ⟨b, o, none⟩) l.length c l[k].kind l[k].idx (.slice a' l[k].subs.length c') wq.drew) := HS8.out
          refine wp_region_held_drew (S := LmS w.heap.size Q 0 2 ix (some ⟨b, o, none⟩) l.length c l[k].kind l[k].idx (.slice a' l[k].subs.length c')) (by kernel_rfl) HSd.out (fun hHeld => ?_)
          refine wpAnyH_take (i := 0) (v := ?_) rfl (by kernel_rfl) (by kernel_rfl) (by kernel_rfl) (fun _ _ _ h => h) (Or.inl ⟨by rfl, ?_⟩) (by assumption) ?_
          rotate_left
          · intro w' hSw
            go_simp <;> with_reducible rfl
          try simp only [Act.put, List.setIfInBounds_toArray, List.set_cons_zero, List.set_cons_succ, List.getElem_toArray, List.getElem_cons_succ, List.getElem_cons_zero]
          refine wpAnyH_take (i := 2) (v := ?_) rfl (by kernel_rfl) (by kernel_rfl) (by kernel_rfl) (fun _ _ _ h => h) (Or.inl ⟨by rfl, ?_⟩) (by assumption) ?_
          rotate_left
          · intro w' hSw
            have e0 := hSw.2.1
            have e1 := hSw.2.2.1
            have e2 := hSw.2.2.2
            go_simp <;> with_reducible rfl
          try simp only [Act.put, List.setIfInBounds_toArray, List.set_cons_zero, List.set_cons_succ, List.getElem_toArray, List.getElem_cons_succ, List.getElem_cons_zero]
          have ob4 : wq.drew.cell? ⟨O, 2, none⟩ = some u9 := XO.out.cell 2
          refine wpAnyH_ready (rs := [1, 3]) (by kernel_rfl) (by simp) ?_
          refine AllReadyH.cons rfl (fun K hK => ?_) (AllReadyH.cons rfl (fun K hK => ?_) AllReadyH.nil)
          · go_simp
            refine hK.out _ _ (by exact HSd.out) (fun hHeld => ?_)
            clear hK K
            try simp only [Act.put, List.setIfInBounds_toArray, List.set_cons_zero, List.set_cons_succ, List.getElem_toArray, List.getElem_cons_succ, List.getElem_cons_zero]
            refine wpAnyH_ready (rs := [3]) (by kernel_rfl) (by simp) ?_
            refine AllReadyH.cons rfl (fun K hK => ?_) AllReadyH.nil
            go_simp
            go_at_call 24
            refine IHQ.out.mono ?_
            rintro e w5 ⟨a5, c5, rfl, hs5, hb5⟩
            obtain ⟨g, cap, w3, hrun, S1, S2, S3, o3, of, S4, hset⟩ := lm_roundS (c1 := c5) hO (fun b h => h.elim) HOB.out.1 HOB.out.2 SET.out HS8.out HLN.out hb5 hs5
            have HRUN := hide hrun
            have HSET := hide hset
            have S1h := hide S1
            have S2h := hide S2
            have S3h := hide S3
            have S4h := hide S4
            have ob5 : w5.cell? ⟨O, 2, none⟩ = some u9 := (hb5.cell (p := ⟨O, 2, none⟩) XO.out.lt).trans (XO.out.cell 2)
            have HB5 := hide hb5
            clear hrun hset S1 S2 S3 S4 hs5 hb5
            go_simp
            refine hK.out _ _ (by exact S1h.out) (fun hHeld => ?_)
            clear hK K
            try simp only [Act.put, List.setIfInBounds_toArray, List.set_cons_zero, List.set_cons_succ, List.getElem_toArray, List.getElem_cons_succ, List.getElem_cons_zero]
            refine wpAnyH_ready (rs := [4]) (by kernel_rfl) (by simp) ?_
            refine AllReadyH.cons rfl (fun K hK => ?_) AllReadyH.nil
            go_simp
            refine hK.out _ _ (by exact S2h.out) (fun hHeld => ?_)
            clear hK K
            try simp only [Act.put, List.setIfInBounds_toArray, List.set_cons_zero, List.set_cons_succ, List.getElem_toArray, List.getElem_cons_succ, List.getElem_cons_zero]
            refine wpAnyH_ready (rs := [5]) (by kernel_rfl) (by simp) ?_
            refine AllReadyH.cons rfl (fun K hK => ?_) AllReadyH.nil
            refine step_append_eqM rfl _ _ _ _ rfl rfl rfl HRUN.out ?_
            refine hK.out _ _ (by exact S3h.out) (fun hHeld => ?_)
            clear hK K
            try simp only [Act.put, List.setIfInBounds_toArray, List.set_cons_zero, List.set_cons_succ, List.getElem_toArray, List.getElem_cons_succ, List.getElem_cons_zero]
            refine wpAnyH_take (i := 6) (v := ?_) rfl (by kernel_rfl) (by kernel_rfl) (by kernel_rfl) (fun _ _ _ h => h) (Or.inl ⟨by rfl, ?_⟩) (by assumption) ?_
            rotate_left
            · intro w' hSw
              go_simp <;> with_reducible rfl
            try simp only [Act.put, List.setIfInBounds_toArray, List.set_cons_zero, List.set_cons_succ, List.getElem_toArray, List.getElem_cons_succ, List.getElem_cons_zero]
            refine wpAnyH_ready (rs := [7]) (by kernel_rfl) (by simp) ?_
            refine AllReadyH.cons rfl (fun K hK => ?_) AllReadyH.nil
            go_simp
            refine hK.out _ _ (by exact S4h.out) (fun hHeld => ?_)
            clear hK K
            try simp only [Act.put, List.setIfInBounds_toArray, List.set_cons_zero, List.set_cons_succ, List.getElem_toArray, List.getElem_cons_succ, List.getElem_cons_zero]
            refine wpAnyH_done (by kernel_rfl) ?_ _
            go_wp2_with fail
            go_roundw
            case rel => exact ⟨k + 1, _, by omega, by go_num, by rw [HTK.out]; exact HSET.out⟩
            case measure => simp [intOf]; omega
          · go_simp
            go_at_call 24
            refine IHQ.out.mono ?_
            rintro e w5 ⟨a5, c5, rfl, hs5, hb5⟩
            obtain ⟨g, cap, w3, hrun, S1, S2, S3, o3, of, S4, hset⟩ := lm_roundS (c1 := c5) hO (fun b h => h.elim) HOB.out.1 HOB.out.2 SET.out HS8.out HLN.out hb5 hs5
            have HRUN := hide hrun
            have HSET := hide hset
            have S1h := hide S1
            have S2h := hide S2
            have S3h := hide S3
            have S4h := hide S4
            have ob5 : w5.cell? ⟨O, 2, none⟩ = some u9 := (hb5.cell (p := ⟨O, 2, none⟩) XO.out.lt).trans (XO.out.cell 2)
            have HB5 := hide hb5
            clear hrun hset S1 S2 S3 S4 hs5 hb5
            go_simp
            refine hK.out _ _ (by exact S1h.out) (fun hHeld => ?_)
            clear hK K
            try simp only [Act.put, List.setIfInBounds_toArray, List.set_cons_zero, List.set_cons_succ, List.getElem_toArray, List.getElem_cons_succ, List.getElem_cons_zero]
            refine wpAnyH_ready (rs := [1, 4]) (by kernel_rfl) (by simp) ?_
            refine AllReadyH.cons rfl (fun K hK => ?_) (AllReadyH.cons rfl (fun K hK => ?_) AllReadyH.nil)
            · go_simp
              refine hK.out _ _ (by exact S1h.out) (fun hHeld => ?_)
              clear hK K
              try simp only [Act.put, List.setIfInBounds_toArray, List.set_cons_zero, List.set_cons_succ, List.getElem_toArray, List.getElem_cons_succ, List.getElem_cons_zero]
              refine wpAnyH_ready (rs := [4]) (by kernel_rfl) (by simp) ?_
              refine AllReadyH.cons rfl (fun K hK => ?_) AllReadyH.nil
              go_simp
              refine hK.out _ _ (by exact S2h.out) (fun hHeld => ?_)
              clear hK K
              try simp only [Act.put, List.setIfInBounds_toArray, List.set_cons_zero, List.set_cons_succ, List.getElem_toArray, List.getElem_cons_succ, List.getElem_cons_zero]
              refine wpAnyH_ready (rs := [5]) (by kernel_rfl) (by simp) ?_
              refine AllReadyH.cons rfl (fun K hK => ?_) AllReadyH.nil
              refine step_append_eqM rfl _ _ _ _ rfl rfl rfl HRUN.out ?_
              refine hK.out _ _ (by exact S3h.out) (fun hHeld => ?_)
              clear hK K
              try simp only [Act.put, List.setIfInBounds_toArray, List.set_cons_zero, List.set_cons_succ, List.getElem_toArray, List.getElem_cons_succ, List.getElem_cons_zero]
              refine wpAnyH_take (i := 6) (v := ?_) rfl (by kernel_rfl) (by kernel_rfl) (by kernel_rfl) (fun _ _ _ h => h) (Or.inl ⟨by rfl, ?_⟩) (by assumption) ?_
              rotate_left
              · intro w' hSw
                go_simp <;> with_reducible rfl
              try simp only [Act.put, List.setIfInBounds_toArray, List.set_cons_zero, List.set_cons_succ, List.getElem_toArray, List.getElem_cons_succ, List.getElem_cons_zero]
              refine wpAnyH_ready (rs := [7]) (by kernel_rfl) (by simp) ?_
              refine AllReadyH.cons rfl (fun K hK => ?_) AllReadyH.nil
              go_simp
              refine hK.out _ _ (by exact S4h.out) (fun hHeld => ?_)
              clear hK K
              try simp only [Act.put, List.setIfInBounds_toArray, List.set_cons_zero, List.set_cons_succ, List.getElem_toArray, List.getElem_cons_succ, List.getElem_cons_zero]
              refine wpAnyH_done (by kernel_rfl) ?_ _
              go_wp2_with fail
              go_roundw
              case rel => exact ⟨k + 1, _, by omega, by go_num, by rw [HTK.out]; exact HSET.out⟩
              case measure => simp [intOf]; omega
            · go_simp
              refine hK.out _ _ (by exact S2h.out) (fun hHeld => ?_)
              clear hK K
              try simp only [Act.put, List.setIfInBounds_toArray, List.set_cons_zero, List.set_cons_succ, List.getElem_toArray, List.getElem_cons_succ, List.getElem_cons_zero]
              refine wpAnyH_ready (rs := [1]) (by kernel_rfl) (by simp) ?_
              refine AllReadyH.cons rfl (fun K hK => ?_) AllReadyH.nil
              have ob6 := ((hide (XO.out.below HB5.out XO.out.lt)).out.alloc (.cells #[.int .i64 (etaT l[k]).kind, .int .i64 (etaT l[k]).idx, .slice a5 (etaT l[k]).subs.length c5] 25)).cell 2
              go_simp
              refine hK.out _ _ (by exact S2h.out) (fun hHeld => ?_)
              clear hK K
              try simp only [Act.put, List.setIfInBounds_toArray, List.set_cons_zero, List.set_cons_succ, List.getElem_toArray, List.getElem_cons_succ, List.getElem_cons_zero]
              refine wpAnyH_ready (rs := [5]) (by kernel_rfl) (by simp) ?_
              refine AllReadyH.cons rfl (fun K hK => ?_) AllReadyH.nil
              refine step_append_eqM rfl _ _ _ _ rfl rfl rfl HRUN.out ?_
              refine hK.out _ _ (by exact S3h.out) (fun hHeld => ?_)
              clear hK K
              try simp only [Act.put, List.setIfInBounds_toArray, List.set_cons_zero, List.set_cons_succ, List.getElem_toArray, List.getElem_cons_succ, List.getElem_cons_zero]
              refine wpAnyH_take (i := 6) (v := ?_) rfl (by kernel_rfl) (by kernel_rfl) (by kernel_rfl) (fun _ _ _ h => h) (Or.inl ⟨by rfl, ?_⟩) (by assumption) ?_
              rotate_left
              · intro w' hSw
                go_simp <;> with_reducible rfl
              try simp only [Act.put, List.setIfInBounds_toArray, List.set_cons_zero, List.set_cons_succ, List.getElem_toArray, List.getElem_cons_succ, List.getElem_cons_zero]
              refine wpAnyH_ready (rs := [7]) (by kernel_rfl) (by simp) ?_
              refine AllReadyH.cons rfl (fun K hK => ?_) AllReadyH.nil
              go_simp
              refine hK.out _ _ (by exact S4h.out) (fun hHeld => ?_)
              clear hK K
              try simp only [Act.put, List.setIfInBounds_toArray, List.set_cons_zero, List.set_cons_succ, List.getElem_toArray, List.getElem_cons_succ, List.getElem_cons_zero]
              refine wpAnyH_done (by kernel_rfl) ?_ _
              go_wp2_with fail
              go_roundw
              case rel => exact ⟨k + 1, _, by omega, by go_num, by rw [HTK.out]; exact HSET.out⟩
              case measure => simp [intOf]; omega
        · have hge : ¬ ((k : Int) < (l.length : Int)) := by omega
          have htk : l.take k = l := List.take_of_length_le (by omega)
          rw [htk] at XW
          obtain ⟨ae, ce, rfl, hse⟩ := XW.out.sl
          have HSE := hide hse
          clear hse
          have r0 : wr.cell? ⟨w.heap.size + 1, 0, none⟩ = some (.int .i64 0) := XR.out.cell 0
          have r1 : wr.cell? ⟨w.heap.size + 1, 1, none⟩ = some (.int .i64 0) := XR.out.cell 1
          have r2 : wr.cell? ⟨w.heap.size + 1, 2, none⟩ = some (.slice none 0 0) := XR.out.cell 2
          have rf := XR.out.frozen
          have hRl : w.heap.size + 1 < wr.heap.size := XR.out.lt
          have hle1 : (etaM l).length = 1 := by rw [etaM_map]; have := HNL.out; simpa [subsK] using this
          obtain ⟨y, hy⟩ := List.length_eq_one_iff.1 hle1
          have HYF : Hid (ShM [y] ∧ BndM [y] ∧ sizeM [y] ≤ sizeM l) := by have h := eta_facts l HSH.out HBN.out; rw [hy] at h; exact h
          have HTE : Hid (etaT ⟨2, ix, l⟩ = etaK 2 ix [y]) := by unfold Hid etaT; simp only [hy]
          rw [hy] at HSE XO
          rw [hy] at o2
          simp only [List.length_singleton] at XO o2
          obtain ⟨yk, yx, yl⟩ := y
          have SE : Hid (SlM wr (fun b => w.heap.size ≤ b ∧ b ≠ w.heap.size + 1) ae [⟨yk, yx, yl⟩]) := HSE.out.mono fun b hb _ => by
            rcases hb with h | h
            · exact h.elim
            · omega
          obtain ⟨b, o, a9, c9, rfl, d0, d0', d1, hx9⟩ := SE.out.get (Below.refl _ _) (fun _ _ h => h) 0 (by simp)
          simp only [Nat.zero_mul, Nat.add_zero, List.getElem_cons_zero] at d0 d0' d1 hx9
          have HX9 := hide hx9
          have HD : Hid (wr.cell? ⟨b, o, none⟩ = some (.int .i64 yk) ∧ wr.cell? ⟨b, o + 1, none⟩ = some (.int .i64 yx) ∧ wr.cell? ⟨b, o + 2, none⟩ = some (.slice a9 yl.length c9)) := ⟨d0, d0', d1⟩
          clear hx9 hy hle1 HSE XW
          go_wp2_with fail
          refine (isIdle_any ⟨yk, yx, yl⟩ _ wr _ HX9.out HYF.out.1 (by have := HYF.out.2.2; omega)).mono ?_
          rintro e w2 ⟨rfl, hb2⟩
          clear r0 r1 r2 rf hRl o0 o1 o2 d0 d0' d1 c0 c1 c2
          have RY := hide (XR.out.below hb2 XR.out.lt)
          have r0 : w2.cell? ⟨w.heap.size + 1, 0, none⟩ = some (.int .i64 0) := RY.out.cell 0
          have r1 : w2.cell? ⟨w.heap.size + 1, 1, none⟩ = some (.int .i64 0) := RY.out.cell 1
          have r2 : w2.cell? ⟨w.heap.size + 1, 2, none⟩ = some (.slice none 0 0) := RY.out.cell 2
          have rf := RY.out.frozen
          have hRl : w.heap.size + 1 < w2.heap.size := RY.out.lt
          have OY := hide (XO.out.below hb2 XO.out.lt)
          have o0 : w2.cell? ⟨O, 0, none⟩ = some (.int .i64 2) := OY.out.cell 0
          have o1 : w2.cell? ⟨O, 1, none⟩ = some (.int .i64 ix) := OY.out.cell 1
          have o2 : w2.cell? ⟨O, 2, none⟩ = some (.slice (some ⟨b, o, none⟩) 1 ce) := OY.out.cell 2
          cases hid : idleT ⟨yk, yx, yl⟩ with
          | false =>
            have HT : Hid (etaK 2 ix [⟨yk, yx, yl⟩] = ⟨2, ix, [⟨yk, yx, yl⟩]⟩) := by
              rcases etaK_two ix [⟨yk, yx, yl⟩] with h | ⟨q1, q2, q3, q4, h1, h2, h3⟩
              · exact h
              · simp at h1
                obtain ⟨rfl, rfl, rfl⟩ := h1
                rw [h2] at hid
                cases hid
            clear hid
            go_wp2_with fail
            refine bodyPost_ret (v := .agg #[.int .i64 2, .int .i64 ix, .slice (some ⟨b, o, none⟩) 1 ce]) (by simp [results, Tryz.results24, go_sem, World.cell?_setCell_same, World.cell?_setCell_other, r0, r1, r2, hRl]) rfl ?_
            rw [HTE.out, HT.out]
            exact et_end (t := ⟨2, ix, [⟨yk, yx, yl⟩]⟩) (by omega) (XE.out.trans (hb2.mono XE.out.size)) (SE.out.later hb2)
          | true =>
            obtain ⟨rfl, f, x, rfl⟩ : yk = 3 ∧ ∃ f x, yl = [f, x] := by
              unfold idleT at hid
              simp only [Bool.and_eq_true, decide_eq_true_eq] at hid
              refine ⟨hid.1, ?_⟩
              match yl, hid.2 with
              | [f, x], _ => exact ⟨f, x, rfl⟩
              | [], h => simp at h
              | [_], h => simp at h
              | _ :: _ :: _ :: _, h => simp at h
            have HT : Hid (etaK 2 ix [⟨3, yx, [f, x]⟩] = higT (-1) 0 f) := by unfold Hid; rw [etaK_three, ← idle_three yx, hid]; simp
            have hyl := HYF.out.1
            rw [ShM_cons] at hyl
            have HSF : Hid (ShM [f]) := ShM.at 0 (by simp) hyl.2.1
            have HSZ : Hid (sizeM [f] ≤ 10000 ∧ BndM [f]) := by
              have h1 := HYF.out.2.1
              rw [BndM_cons] at h1
              have h2 : sizeM [f] ≤ sizeM [f, x] := sizeM_take_le [f, x] 1
              have h3 := HYF.out.2.2
              have h4 : sizeM [(⟨3, yx, [f, x]⟩ : Lm)] = 1 + sizeM [f, x] := by simp [sizeM]
              exact ⟨by omega, BndM.at 0 (by simp) h1.2.1⟩
            obtain ⟨a10, c10, e10, hs9⟩ := HX9.out
            simp at e10
            obtain ⟨rfl, rfl⟩ := e10
            obtain ⟨bf, of, af, cf, rfl, f0, f0', f1, hxf⟩ := (hs9.later hb2).get (Below.refl _ _) (fun _ _ h => h) 0 (by simp)
            simp only [Nat.zero_mul, Nat.add_zero, List.getElem_cons_zero, List.length_cons, List.length_nil] at f0 f0' f1 hxf
            have HXF := hide hxf
            have d0 : w2.cell? ⟨b, o, none⟩ = some (.int .i64 3) := cell_later hb2 HD.out.1
            have d0' : w2.cell? ⟨b, o + 1, none⟩ = some (.int .i64 yx) := cell_later hb2 HD.out.2.1
            have d1 : w2.cell? ⟨b, o + 2, none⟩ = some (.slice (some ⟨bf, of, none⟩) 2 c9) := cell_later hb2 HD.out.2.2
            clear hid hyl hs9 hxf
            go_wp2_with fail
            refine (lower_any f HSZ.out.1 HSZ.out.2 HSF.out _ w2 _ HXF.out).mono ?_
            rintro e w3 ⟨v7, rfl, ⟨a7, c7, rfl, hs7⟩, hb3⟩
            have k3 := hb2.trans (hb3.mono hb2.size)
            have HS7 := hide hs7
            clear hs7 r0 r1 r2 rf hRl o0 o1 o2 d0 d0' d1 f0 f0' f1 RY OY
            have RY := hide (XR.out.below k3 XR.out.lt)
            have r0 : w3.cell? ⟨w.heap.size + 1, 0, none⟩ = some (.int .i64 0) := RY.out.cell 0
            have r1 : w3.cell? ⟨w.heap.size + 1, 1, none⟩ = some (.int .i64 0) := RY.out.cell 1
            have r2 : w3.cell? ⟨w.heap.size + 1, 2, none⟩ = some (.slice none 0 0) := RY.out.cell 2
            have rf := RY.out.frozen
            have hRl : w.heap.size + 1 < w3.heap.size := RY.out.lt
            go_wp2_with fail
            refine bodyPost_ret (v := .agg #[.int .i64 (higT (-1) 0 f).kind, .int .i64 (higT (-1) 0 f).idx, .slice a7 (higT (-1) 0 f).subs.length c7]) (by simp [results, Tryz.results24, go_sem, World.cell?_setCell_same, World.cell?_setCell_other, r0, r1, r2, hRl]) rfl ?_
            rw [HTE.out, HT.out]
            refine et_end (t := higT (-1) 0 f) (by omega) (XE.out.trans (k3.mono XE.out.size)) (HS7.out.mono fun b hb _ => ?_)
            have h6 := XE.out.size
            have h7 := hb2.size
            have h8 := XR.out.lt
            exact ⟨by omega, by omega⟩
    case neg =>
      have e2 : (kd == 2) = false := by simpa using k2
      have HT : Hid (etaT ⟨kd, ix, l⟩ = ⟨kd, ix, etaM l⟩) := by unfold Hid etaT etaK; simp [k2]
      go_enter Tryz.func24, Tryz.ntmps24
      go_wp2_with fail
      have T3 := hide (T2.out.alloc (.cells #[.int .i64 kd, .int .i64 ix, .slice none 0 0] 25))
      have R3 := hide (R2.out.alloc (.cells #[.int .i64 kd, .int .i64 ix, .slice none 0 0] 25))
      have O3 := hide (Blk.new ((w.alloc (.cells #[.int .i64 kd, .int .i64 ix, .slice a l.length c] 25)).alloc (.cells #[.int .i64 0, .int .i64 0, .slice none 0 0] 25)) #[.int .i64 kd, .int .i64 ix, .slice none 0 0] 25)
      have B3 := hide (B2.out.alloc B2.out.size (.cells #[.int .i64 kd, .int .i64 ix, .slice none 0 0] 25))
      have eO : ((w.alloc (.cells #[.int .i64 kd, .int .i64 ix, .slice a l.length c] 25)).alloc (.cells #[.int .i64 0, .int .i64 0, .slice none 0 0] 25)).heap.size = w.heap.size + 2 := by simp
      rw [eO] at O3
      clear eO B2 T2 R2
      generalize ((w.alloc (.cells #[.int .i64 kd, .int .i64 ix, .slice a l.length c] 25)).alloc (.cells #[.int .i64 0, .int .i64 0, .slice none 0 0] 25)).alloc (.cells #[.int .i64 kd, .int .i64 ix, .slice none 0 0] 25) = w3 at *
      obtain ⟨O, eO⟩ : ∃ O, O = w.heap.size + 2 := ⟨_, rfl⟩
      rw [← eO] at O3
      simp only [← eO]
      have hO : w.heap.size + 2 ≤ O := by omega
      clear eO
      go_loopw [14] (fun i wr => ∃ (k : Nat) (u : Value), k ≤ l.length ∧ i = .int .i64 (k : Int) ∧ LmSet w (fun _ => False) O kd ix a l.length c u (etaM (l.take k)) wr) (fun i wr => l.length - (intOf i).toNat)
      case atStart => exact ⟨0, .slice none 0 0, Nat.zero_le _, rfl, [], by have h := RowM.start w3 (O + 1) 25 (fun _ => False); simpa [etaM] using h, B3.out, T3.out, R3.out, O3.out, O3.out.lt⟩
      case round =>
        obtain ⟨k, u9, hk, rfl, hset⟩ := hrel
        have SET := hide hset
        obtain ⟨xs, hrow, hbb, hT, hR, hOb, hOl⟩ := hset
        have XE := hide hbb
        have XT := hide hT
        have XR := hide hR
        have XO := hide hOb
        have XW := hide hrow
        clear hrow hbb hR hOb
        have c0 : wr.cell? ⟨w.heap.size, 0, none⟩ = some (.int .i64 kd) := hT.cell 0
        have c1 : wr.cell? ⟨w.heap.size, 1, none⟩ = some (.int .i64 ix) := hT.cell 1
        have c2 : wr.cell? ⟨w.heap.size, 2, none⟩ = some (.slice a l.length c) := hT.cell 2
        have o0 : wr.cell? ⟨O, 0, none⟩ = some (.int .i64 kd) := XO.out.cell 0
        have o1 : wr.cell? ⟨O, 1, none⟩ = some (.int .i64 ix) := XO.out.cell 1
        have o2 : wr.cell? ⟨O, 2, none⟩ = some u9 := XO.out.cell 2
        clear hT
        by_cases hlt : k < l.length
        · obtain ⟨b, o, a', c', rfl, d0, d0', d1, hx⟩ := (HS.out.mono (Y := fun b => X b ∧ b < w.heap.size) fun b h1 h2 => ⟨h1, h2⟩).get XE.out (fun b h _ => h.2) k hlt
          have hlt2 : (k : Int) < (l.length : Int) := by omega
          have hszk : sizeM [l[k]] ≤ sizeM l := by
            have h1 := sizeM_take l k hlt
            have h2 := sizeM_take_le l (k + 1)
            omega
          have HLN : Hid ((etaM (l.take k)).length ≤ 1000000) := by unfold Hid; rw [etaM_map]; simp; omega
          have HBk := hide (BndM.at k hlt HBN.out)
          have HTK := hide (etaM_take l k hlt)
          have BQ : Below wr.heap.size wr (wr.alloc (.cells #[.int .i64 l[k].kind, .int .i64 l[k].idx, .slice a' l[k].subs.length c'] 25)) := (Below.refl _ _).alloc (Nat.le_refl _) _
          have HX := hide (hx.later BQ)
          have HOB : Hid (some wr.heap.size ≠ u9.ownBlock ∧ wr.heap.size ≠ O) := ⟨fun e => by have := (XW.out.own.lt _ e.symm).2; omega, by have := XO.out.lt; omega⟩
          have SET := hide (SET.out.laterE BQ)
          have HS8 : Hid (LmS w.heap.size wr.heap.size 0 kd ix (some ⟨b, o, none⟩) l.length c l[k].kind l[k].idx (.slice a' l[k].subs.length c') (wr.alloc (.cells #[.int .i64 l[k].kind, .int .i64 l[k].idx, .slice a' l[k].subs.length c'] 25))) := ⟨XT.out.alloc _, (Blk.new wr #[.int .i64 l[k].kind, .int .i64 l[k].idx, .slice a' l[k].subs.length c'] 25).cell 0, (Blk.new wr #[.int .i64 l[k].kind, .int .i64 l[k].idx, .slice a' l[k].subs.length c'] 25).cell 1, (Blk.new wr #[.int .i64 l[k].kind, .int .i64 l[k].idx, .slice a' l[k].subs.length c'] 25).cell 2⟩
          have XO := hide (XO.out.alloc (.cells #[.int .i64 l[k].kind, .int .i64 l[k].idx, .slice a' l[k].subs.length c'] 25))
          clear hx c0 c1 o0 o1 o2 BQ
          go_upto_region 5 with fail
          clear d0 d0' d1 XE XT XR XW c2 hOl
          generalize (wr.alloc (.cells #[.int .i64 l[k].kind, .int .i64 l[k].idx, .slice a' l[k].subs.length c'] 25)) = wq at *
          generalize wr.heap.size = Q at *
          have IHQ : Hid (Calls Tryz.prog 24 #[.agg #[.int .i64 l[k].kind, .int .i64 l[k].idx, .slice a' l[k].subs.length c']] wq.drew fun e w'' => ∃ a1 c1, e = .returned (.agg #[.int .i64 (etaT l[k]).kind, .int .i64 (etaT l[k]).idx, .slice a1 (etaT l[k]).subs.length c1]) ∧ SlM w'' (fun b => False ∨ wq.heap.size ≤ b) a1 (etaT l[k]).subs ∧ Below wq.heap.size wq w'') := (IH.out l[k] (List.getElem_mem hlt) _ wq.drew _ (HX.out.later ((Below.refl wq.heap.size wq).drew)) (by omega) HBk.out (ShM.at k hlt HSH.out)).mono fun e w'' hp => by
              obtain ⟨a1, c1, h1, h2, h3⟩ := hp
              exact ⟨a1, c1, h1, h2.mono (fun b hb _ => Or.inr hb), ((Below.refl wq.heap.size wq).drew).trans h3⟩
          have HSd : Hid (LmS w.heap.size Q 0 kd ix (some ⟨b, o, none⟩) l.length c l[k].kind l[k].idx (.slice a' l[k].subs.length c') wq.drew) := HS8.out
          refine wp_region_held_drew (S := LmS w.heap.size Q 0 kd ix (some ⟨b, o, none⟩) l.length c l[k].kind l[k].idx (.slice a' l[k].subs.length c')) (by kernel_rfl) HSd.out (fun hHeld => ?_)
          refine wpAnyH_take (i := 0) (v := ?_) rfl (by kernel_rfl) (by kernel_rfl) (by kernel_rfl) (fun _ _ _ h => h) (Or.inl ⟨by rfl, ?_⟩) (by assumption) ?_
          rotate_left
          · intro w' hSw
            go_simp <;> with_reducible rfl
          try simp only [Act.put, List.setIfInBounds_toArray, List.set_cons_zero, List.set_cons_succ, List.getElem_toArray, List.getElem_cons_succ, List.getElem_cons_zero]
          refine wpAnyH_take (i := 2) (v := ?_) rfl (by kernel_rfl) (by kernel_rfl) (by kernel_rfl) (fun _ _ _ h => h) (Or.inl ⟨by rfl, ?_⟩) (by assumption) ?_
          rotate_left
          · intro w' hSw
            have e0 := hSw.2.1
            have e1 := hSw.2.2.1
            have e2 := hSw.2.2.2
            go_simp <;> with_reducible rfl
          try simp only [Act.put, List.setIfInBounds_toArray, List.set_cons_zero, List.set_cons_succ, List.getElem_toArray, List.getElem_cons_succ, List.getElem_cons_zero]
          have ob4 : wq.drew.cell? ⟨O, 2, none⟩ = some u9 := XO.out.cell 2
          refine wpAnyH_ready (rs := [1, 3]) (by kernel_rfl) (by simp) ?_
          refine AllReadyH.cons rfl (fun K hK => ?_) (AllReadyH.cons rfl (fun K hK => ?_) AllReadyH.nil)
          · go_simp
            refine hK.out _ _ (by exact HSd.out) (fun hHeld => ?_)
            clear hK K
            try simp only [Act.put, List.setIfInBounds_toArray, List.set_cons_zero, List.set_cons_succ, List.getElem_toArray, List.getElem_cons_succ, List.getElem_cons_zero]
            refine wpAnyH_ready (rs := [3]) (by kernel_rfl) (by simp) ?_
            refine AllReadyH.cons rfl (fun K hK => ?_) AllReadyH.nil
            go_simp
            go_at_call 24
            refine IHQ.out.mono ?_
            rintro e w5 ⟨a5, c5, rfl, hs5, hb5⟩
            obtain ⟨g, cap, w3, hrun, S1, S2, S3, o3, of, S4, hset⟩ := lm_roundS (c1 := c5) hO (fun b h => h.elim) HOB.out.1 HOB.out.2 SET.out HS8.out HLN.out hb5 hs5
            have HRUN := hide hrun
            have HSET := hide hset
            have S1h := hide S1
            have S2h := hide S2
            have S3h := hide S3
            have S4h := hide S4
            have ob5 : w5.cell? ⟨O, 2, none⟩ = some u9 := (hb5.cell (p := ⟨O, 2, none⟩) XO.out.lt).trans (XO.out.cell 2)
            have HB5 := hide hb5
            clear hrun hset S1 S2 S3 S4 hs5 hb5
            go_simp
            refine hK.out _ _ (by exact S1h.out) (fun hHeld => ?_)
            clear hK K
            try simp only [Act.put, List.setIfInBounds_toArray, List.set_cons_zero, List.set_cons_succ, List.getElem_toArray, List.getElem_cons_succ, List.getElem_cons_zero]
            refine wpAnyH_ready (rs := [4]) (by kernel_rfl) (by simp) ?_
            refine AllReadyH.cons rfl (fun K hK => ?_) AllReadyH.nil
            go_simp
            refine hK.out _ _ (by exact S2h.out) (fun hHeld => ?_)
            clear hK K
            try simp only [Act.put, List.setIfInBounds_toArray, List.set_cons_zero, List.set_cons_succ, List.getElem_toArray, List.getElem_cons_succ, List.getElem_cons_zero]
            refine wpAnyH_ready (rs := [5]) (by kernel_rfl) (by simp) ?_
            refine AllReadyH.cons rfl (fun K hK => ?_) AllReadyH.nil
            refine step_append_eqM rfl _ _ _ _ rfl rfl rfl HRUN.out ?_
            refine hK.out _ _ (by exact S3h.out) (fun hHeld => ?_)
            clear hK K
            try simp only [Act.put, List.setIfInBounds_toArray, List.set_cons_zero, List.set_cons_succ, List.getElem_toArray, List.getElem_cons_succ, List.getElem_cons_zero]
            refine wpAnyH_take (i := 6) (v := ?_) rfl (by kernel_rfl) (by kernel_rfl) (by kernel_rfl) (fun _ _ _ h => h) (Or.inl ⟨by rfl, ?_⟩) (by assumption) ?_
            rotate_left
            · intro w' hSw
              go_simp <;> with_reducible rfl
            try simp only [Act.put, List.setIfInBounds_toArray, List.set_cons_zero, List.set_cons_succ, List.getElem_toArray, List.getElem_cons_succ, List.getElem_cons_zero]
            refine wpAnyH_ready (rs := [7]) (by kernel_rfl) (by simp) ?_
            refine AllReadyH.cons rfl (fun K hK => ?_) AllReadyH.nil
            go_simp
            refine hK.out _ _ (by exact S4h.out) (fun hHeld => ?_)
            clear hK K
            try simp only [Act.put, List.setIfInBounds_toArray, List.set_cons_zero, List.set_cons_succ, List.getElem_toArray, List.getElem_cons_succ, List.getElem_cons_zero]
            refine wpAnyH_done (by kernel_rfl) ?_ _
            go_wp2_with fail
            go_roundw
            case rel => exact ⟨k + 1, _, by omega, by go_num, by rw [HTK.out]; exact HSET.out⟩
            case measure => simp [intOf]; omega
          · go_simp
            go_at_call 24
            refine IHQ.out.mono ?_
            rintro e w5 ⟨a5, c5, rfl, hs5, hb5⟩
            obtain ⟨g, cap, w3, hrun, S1, S2, S3, o3, of, S4, hset⟩ := lm_roundS (c1 := c5) hO (fun b h => h.elim) HOB.out.1 HOB.out.2 SET.out HS8.out HLN.out hb5 hs5
            have HRUN := hide hrun
            have HSET := hide hset
            have S1h := hide S1
            have S2h := hide S2
            have S3h := hide S3
            have S4h := hide S4
            have ob5 : w5.cell? ⟨O, 2, none⟩ = some u9 := (hb5.cell (p := ⟨O, 2, none⟩) XO.out.lt).trans (XO.out.cell 2)
            have HB5 := hide hb5
            clear hrun hset S1 S2 S3 S4 hs5 hb5
            go_simp
            refine hK.out _ _ (by exact S1h.out) (fun hHeld => ?_)
            clear hK K
            try simp only [Act.put, List.setIfInBounds_toArray, List.set_cons_zero, List.set_cons_succ, List.getElem_toArray, List.getElem_cons_succ, List.getElem_cons_zero]
            refine wpAnyH_ready (rs := [1, 4]) (by kernel_rfl) (by simp) ?_
            refine AllReadyH.cons rfl (fun K hK => ?_) (AllReadyH.cons rfl (fun K hK => ?_) AllReadyH.nil)
            · go_simp
              refine hK.out _ _ (by exact S1h.out) (fun hHeld => ?_)
              clear hK K
              try simp only [Act.put, List.setIfInBounds_toArray, List.set_cons_zero, List.set_cons_succ, List.getElem_toArray, List.getElem_cons_succ, List.getElem_cons_zero]
              refine wpAnyH_ready (rs := [4]) (by kernel_rfl) (by simp) ?_
              refine AllReadyH.cons rfl (fun K hK => ?_) AllReadyH.nil
              go_simp
              refine hK.out _ _ (by exact S2h.out) (fun hHeld => ?_)
              clear hK K
              try simp only [Act.put, List.setIfInBounds_toArray, List.set_cons_zero, List.set_cons_succ, List.getElem_toArray, List.getElem_cons_succ, List.getElem_cons_zero]
              refine wpAnyH_ready (rs := [5]) (by kernel_rfl) (by simp) ?_
              refine AllReadyH.cons rfl (fun K hK => ?_) AllReadyH.nil
              refine step_append_eqM rfl _ _ _ _ rfl rfl rfl HRUN.out ?_
              refine hK.out _ _ (by exact S3h.out) (fun hHeld => ?_)
              clear hK K
              try simp only [Act.put, List.setIfInBounds_toArray, List.set_cons_zero, List.set_cons_succ, List.getElem_toArray, List.getElem_cons_succ, List.getElem_cons_zero]
              refine wpAnyH_take (i := 6) (v := ?_) rfl (by kernel_rfl) (by kernel_rfl) (by kernel_rfl) (fun _ _ _ h => h) (Or.inl ⟨by rfl, ?_⟩) (by assumption) ?_
              rotate_left
              · intro w' hSw
                go_simp <;> with_reducible rfl
              try simp only [Act.put, List.setIfInBounds_toArray, List.set_cons_zero, List.set_cons_succ, List.getElem_toArray, List.getElem_cons_succ, List.getElem_cons_zero]
              refine wpAnyH_ready (rs := [7]) (by kernel_rfl) (by simp) ?_
              refine AllReadyH.cons rfl (fun K hK => ?_) AllReadyH.nil
              go_simp
              refine hK.out _ _ (by exact S4h.out) (fun hHeld => ?_)
              clear hK K
              try simp only [Act.put, List.setIfInBounds_toArray, List.set_cons_zero, List.set_cons_succ, List.getElem_toArray, List.getElem_cons_succ, List.getElem_cons_zero]
              refine wpAnyH_done (by kernel_rfl) ?_ _
              go_wp2_with fail
              go_roundw
              case rel => exact ⟨k + 1, _, by omega, by go_num, by rw [HTK.out]; exact HSET.out⟩
              case measure => simp [intOf]; omega
            · go_simp
              refine hK.out _ _ (by exact S2h.out) (fun hHeld => ?_)
              clear hK K
              try simp only [Act.put, List.setIfInBounds_toArray, List.set_cons_zero, List.set_cons_succ, List.getElem_toArray, List.getElem_cons_succ, List.getElem_cons_zero]
              refine wpAnyH_ready (rs := [1]) (by kernel_rfl) (by simp) ?_
              refine AllReadyH.cons rfl (fun K hK => ?_) AllReadyH.nil
              have ob6 := ((hide (XO.out.below HB5.out XO.out.lt)).out.alloc (.cells #[.int .i64 (etaT l[k]).kind, .int .i64 (etaT l[k]).idx, .slice a5 (etaT l[k]).subs.length c5] 25)).cell 2
              go_simp
              refine hK.out _ _ (by exact S2h.out) (fun hHeld => ?_)
              clear hK K
              try simp only [Act.put, List.setIfInBounds_toArray, List.set_cons_zero, List.set_cons_succ, List.getElem_toArray, List.getElem_cons_succ, List.getElem_cons_zero]
              refine wpAnyH_ready (rs := [5]) (by kernel_rfl) (by simp) ?_
              refine AllReadyH.cons rfl (fun K hK => ?_) AllReadyH.nil
              refine step_append_eqM rfl _ _ _ _ rfl rfl rfl HRUN.out ?_
              refine hK.out _ _ (by exact S3h.out) (fun hHeld => ?_)
              clear hK K
              try simp only [Act.put, List.setIfInBounds_toArray, List.set_cons_zero, List.set_cons_succ, List.getElem_toArray, List.getElem_cons_succ, List.getElem_cons_zero]
              refine wpAnyH_take (i := 6) (v := ?_) rfl (by kernel_rfl) (by kernel_rfl) (by kernel_rfl) (fun _ _ _ h => h) (Or.inl ⟨by rfl, ?_⟩) (by assumption) ?_
              rotate_left
              · intro w' hSw
                go_simp <;> with_reducible rfl
              try simp only [Act.put, List.setIfInBounds_toArray, List.set_cons_zero, List.set_cons_succ, List.getElem_toArray, List.getElem_cons_succ, List.getElem_cons_zero]
              refine wpAnyH_ready (rs := [7]) (by kernel_rfl) (by simp) ?_
              refine AllReadyH.cons rfl (fun K hK => ?_) AllReadyH.nil
              go_simp
              refine hK.out _ _ (by exact S4h.out) (fun hHeld => ?_)
              clear hK K
              try simp only [Act.put, List.setIfInBounds_toArray, List.set_cons_zero, List.set_cons_succ, List.getElem_toArray, List.getElem_cons_succ, List.getElem_cons_zero]
              refine wpAnyH_done (by kernel_rfl) ?_ _
              go_wp2_with fail
              go_roundw
              case rel => exact ⟨k + 1, _, by omega, by go_num, by rw [HTK.out]; exact HSET.out⟩
              case measure => simp [intOf]; omega
        · have hge : ¬ ((k : Int) < (l.length : Int)) := by omega
          have htk : l.take k = l := List.take_of_length_le (by omega)
          rw [htk] at XW
          obtain ⟨ae, ce, rfl, hse⟩ := XW.out.sl
          have HSE := hide hse
          clear hse
          have r0 : wr.cell? ⟨w.heap.size + 1, 0, none⟩ = some (.int .i64 0) := XR.out.cell 0
          have r1 : wr.cell? ⟨w.heap.size + 1, 1, none⟩ = some (.int .i64 0) := XR.out.cell 1
          have r2 : wr.cell? ⟨w.heap.size + 1, 2, none⟩ = some (.slice none 0 0) := XR.out.cell 2
          have rf := XR.out.frozen
          have hRl : w.heap.size + 1 < wr.heap.size := XR.out.lt
          have HEQ : Hid ((etaM l).length = l.length) := by unfold Hid; rw [etaM_map]; simp
          go_wp2_with fail
          refine bodyPost_ret (v := .agg #[.int .i64 kd, .int .i64 ix, .slice ae (etaM l).length ce]) (by simp [results, Tryz.results24, go_sem, World.cell?_setCell_same, World.cell?_setCell_other, r0, r1, r2, hRl]) rfl ?_
          rw [HT.out]
          exact et_end (t := ⟨kd, ix, etaM l⟩) (by omega) XE.out (HSE.out.mono fun b hb _ => by rcases hb with h | h; exact h.elim; omega)
end Go.Proofs.YtfkjejpfhflanaaGreatDoor
