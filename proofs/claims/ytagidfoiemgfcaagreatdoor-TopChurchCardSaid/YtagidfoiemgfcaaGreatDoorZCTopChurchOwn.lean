/- Several texts in one. -/
import Derived.Test.YtagidfoiemgfcaaGreatDoorZBTopChurchOwn
import Derived.Defers
import Derived.Recover
import Derived.Laws.Pointers
import Derived.Test.YtagidfoiemgfcaaGreatDoorZTopChurchOwn
import Derived.Ground.SlgnProg
import Derived.Shelf.SlicesE.Clone
import Derived.Deep.RegionHeld3
import Derived.Deep.RegionLaw
import Derived.Stop.RegionWithIn
/- Walks: reading a text as a lambda term, and what is thrown is caught. -/
namespace Go.Proofs.YtagidfoiemgfcaaGreatDoor
open Go.RowKit
set_option linter.unusedSimpArgs false
set_option linter.unusedVariables false
set_option maxRecDepth 8000

theorem lread_all (N B : Nat) (s : ByteArray) (hs : s.size ≤ 4000) : ∀ F, (∀ F', F' ≤ F → LTerm N B s F' ∧ LPiece N B s F') := by
  intro F
  induction F with
  | zero =>
    intro F' hF'
    have : F' = 0 := by omega
    subst this
    exact ⟨fun nm nv i k w h h1 h2 h3 h4 => by omega, fun nm nv i k w h h1 h2 h3 h4 => by omega⟩
  | succ F ih =>
    intro F' hF'
    by_cases h : F' = F + 1
    · subst h
      exact ⟨lterm_of N B s hs F (ih F (Nat.le_refl _)).1 (fun F' h => (ih F' h).2), lpiece_of N B s hs F (ih F (Nat.le_refl _)).1⟩
    · exact ih F' (by omega)

theorem assertErrnoL (v : Value) (xT : TypeId) (w : World) : (Instr.typeAssert (.iface 28 v) xT 28 false).run Tryz.prog w = .ok v w := by
  simp [Instr.typeAssert, run_underlying Tryz.underlying28, go_sem, Result.andThen]

theorem catchL_panicking (Pt Pe : Nat) (z z0 : Int) (x0 x1 : Int) (x2 : Value) (w : World) (ht : Blk w Pt #[.int .i64 x0, .int .i64 x1, x2] 26) (he : Blk w Pe #[.int .i64 z0] 28) :
    CallsD Tryz.prog 33 #[.pointer (some ⟨Pt, 0, none⟩), .pointer (some ⟨Pe, 0, none⟩)] (.panicking [{ v := .iface 28 (.int .i64 z), recovered := false }]) w fun e u' w' =>
      e = .returned (.tuple #[]) ∧ u' = .panicking [{ v := .iface 28 (.int .i64 z), recovered := true }] ∧ w' = ((((w.setCell ⟨Pt, 0, none⟩ (.int .i64 0)).setCell ⟨Pt, 1, none⟩ (.int .i64 0)).setCell ⟨Pt, 2, none⟩ (.slice none 0 0)).setCell ⟨Pe, 0, none⟩ (.int .i64 z)).drew := by
  refine callsD_of_wpS Tryz.func33 rfl fun c₀ cs hu => ?_
  apply wpS_seq
  apply wpS_region
  simp [wpOpsS, go_sem, recoverD, hu, Tryz.ntmps33, Exit.thenS]
  apply wpS_seq
  apply wpS_region
  simp [wpOpsS, go_sem, Exit.thenS, Array.replicate]
  refine wpS_cond (t := true) (by simp [Act.eval, Array.replicate]) ?_
  simp only [if_true]
  refine wpS_of_wp ?_
  have t0 : w.cell? ⟨Pt, 0, none⟩ = some (.int .i64 x0) := ht.cell 0
  have t1 : w.cell? ⟨Pt, 1, none⟩ = some (.int .i64 x1) := ht.cell 1
  have t2 : w.cell? ⟨Pt, 2, none⟩ = some x2 := ht.cell 2
  have tf := ht.frozen
  have e0 : w.cell? ⟨Pe, 0, none⟩ = some (.int .i64 z0) := he.cell 0
  have ef := he.frozen
  have hne : ¬ Pt = Pe := fun h => by
    subst h
    unfold Blk at ht he
    rw [ht] at he
    simp at he
  have hne2 : ¬ Pe = Pt := fun h => hne h.symm
  have hta := assertErrnoL (.int .i64 z)
  go_region
  exact ⟨rfl, _, rfl, .tuple #[], by simp [results, Tryz.results33, go_sem], rfl, rfl, rfl⟩

theorem catchL_idle (Pt Pe : Nat) (w : World) :
    CallsD Tryz.prog 33 #[.pointer (some ⟨Pt, 0, none⟩), .pointer (some ⟨Pe, 0, none⟩)] .returning w fun e u' w' => e = .returned (.tuple #[]) ∧ u' = .returning ∧ w' = w := by
  refine callsD_of_wpS Tryz.func33 rfl fun c₀ cs hu => ?_
  apply wpS_seq
  apply wpS_region
  simp [wpOpsS, go_sem, recoverD, hu, Tryz.ntmps33, Exit.thenS]
  apply wpS_seq
  apply wpS_region
  simp [wpOpsS, go_sem, Exit.thenS, Array.replicate]
  refine wpS_cond (t := false) (by simp [Act.eval, Array.replicate]) ?_
  simp only [Bool.false_eq_true, if_false]
  refine wpS_of_wp (wp_skip ?_)
  cases c₀
  simp_all [bodyPostS, results, Tryz.results33]

/-- What making a reader does. -/
def NewPostL (w : World) (s : ByteArray) (e : Ending) (w' : World) : Prop :=
  if 4000 < s.size then e = thrownL 3 ∧ Below w.heap.size w w' else e = .returned (.agg #[.string s, .int .i64 0, .int .i64 0]) ∧ Below w.heap.size w w'
theorem new_anyL (s : ByteArray) (w : World) : Calls Tryz.prog 35 #[.string s] w fun e w' => NewPostL w s e w' := by
  by_cases hs : 4000 < s.size
  · have HP : Hid (∀ w', Below w.heap.size w w' → NewPostL w s (thrownL 3) w') := fun w' h => by unfold NewPostL; rw [if_pos hs]; exact ⟨rfl, h⟩
    go_enter Tryz.func35, Tryz.ntmps35
    go_wp2_with fail
    exact ⟨rfl, HP.out _ (by first | exact Below.refl _ _ | exact (Below.refl _ _).alloc (Nat.le_refl _) _)⟩
  · have HP : Hid (∀ w', Below w.heap.size w w' → NewPostL w s (.returned (.agg #[.string s, .int .i64 0, .int .i64 0])) w') := fun w' h => by unfold NewPostL; rw [if_neg hs]; exact ⟨rfl, h⟩
    go_enter Tryz.func35, Tryz.ntmps35
    go_wp2_with fail
    refine bodyPost_ret (v := .agg #[.string s, .int .i64 0, .int .i64 0]) (by simp [results, Tryz.results35, go_sem, World.cell?_setCell_same, World.cell?_setCell_other]) rfl ?_
    exact HP.out _ (by first | exact Below.refl _ _ | exact (Below.refl _ _).alloc (Nat.le_refl _) _)
def EndPostL (w : World) (e : Ending) (w' : World) : Prop := (∃ v, e = .returned v) ∧ ∃ m, w' = w.drewN m
theorem end_yesL {nv : Value} (B i k : Nat) (s : ByteArray) (he : i = s.size) (w : World) (h : Bl nv w B s i k) :
    Calls Tryz.prog 38 #[.pointer (some ⟨B, 0, none⟩)] w fun e w' => EndPostL w e w' := by
  have HA := hide (atEnd_yesL (nv := nv) B i k s he w h)
  clear he h
  go_enter Tryz.func38, Tryz.ntmps38
  go_wp2_with fail
  refine HA.out.mono ?_
  rintro e w' ⟨rfl, m, rfl⟩
  go_wp2_with fail
  refine bodyPost_ret (v := .tuple #[]) (by simp [results, Tryz.results38, go_sem]) rfl ?_
  exact ⟨⟨_, rfl⟩, m, rfl⟩
theorem end_noL {nv : Value} (B i k : Nat) (s : ByteArray) (he : ¬ i = s.size) (w : World) (h : Bl nv w B s i k) :
    Calls Tryz.prog 38 #[.pointer (some ⟨B, 0, none⟩)] w fun e w' => e = thrownL 12 ∧ ∃ m, w' = w.drewN m := by
  have HA := hide (atEnd_noL (nv := nv) B i k s he w h)
  clear he h
  go_enter Tryz.func38, Tryz.ntmps38
  go_wp2_with fail
  refine HA.out.mono ?_
  rintro e w' ⟨rfl, m, rfl⟩
  go_wp2_with fail
  exact ⟨rfl, rfl, m, rfl⟩

/-- What reading a whole text gives. -/
def lrdAll (s : ByteArray) (fr : List ByteArray) : Lrd :=
  if freE fr ≠ 0 then noLr (freE fr)
  else if 4000 < s.size then noLr 3
  else if (lrd s (3 * s.size + 3) .term fr 0 0).err ≠ 0 then noLr (lrd s (3 * s.size + 3) .term fr 0 0).err
  else if (lrd s (3 * s.size + 3) .term fr 0 0).pos = s.size then lrd s (3 * s.size + 3) .term fr 0 0
  else noLr 12
def ParsePostL (w : World) (r : Lrd) (e : Ending) (w' : World) : Prop :=
  ∃ v, e = .returned (.tuple #[v, .int .i64 r.err]) ∧ (r.err = 0 → MV w' (fun b => w.heap.size ≤ b) v r.t) ∧ (r.err ≠ 0 → v = .agg #[.int .i64 0, .int .i64 0, .slice none 0 0]) ∧ Below w.heap.size w w'
theorem parseL_no {w w' : World} {r : Lrd} {z : Int} (h : r = noLr z) (hz : z ≠ 0) (hb : Below w.heap.size w w') : ParsePostL w r (.returned (.tuple #[.agg #[.int .i64 0, .int .i64 0, .slice none 0 0], .int .i64 z])) w' := by
  subst h
  exact ⟨_, rfl, fun h => absurd h hz, fun _ => rfl, hb⟩

/-- A copy of names. -/
theorem cloneN_any (fr : List ByteArray) (fa : Option Addr) (fc : Nat) (w : World) (Y : Nat → Prop) (hl : fr.length ≤ 1000) (h : LV Value.string w Y (.slice fa fr.length fc) fr) :
    Calls Tryz.prog 36 #[.slice fa fr.length fc] w fun e w' => ∃ v', e = .returned v' ∧ w'.ownsRow w.heap.size 9 1 v' fr.length (fr.map Value.string) ∧ Below w.heap.size w w' := by
  obtain ⟨a2, c2, e2, ⟨_, hc2⟩, h3⟩ := h
  simp at e2
  obtain ⟨rfl, rfl⟩ := e2
  cases fa with
  | none =>
    rcases h3 with rfl | ⟨b, o, e, _⟩
    · refine (Tryz.slices_Clone_string_nil _ _ w).mono ?_
      rintro e w' ⟨rfl, rfl⟩
      exact ⟨_, rfl, World.ownsRow_nil _ _ _ _, Below.refl _ _⟩
    · cases e
  | some ad =>
    by_cases h0 : fr = []
    · subst h0
      refine (Tryz.slices_Clone_string_zero ad fc w).mono ?_
      rintro e w' ⟨v', rfl, ho, _, hb⟩
      exact ⟨v', rfl, ho, hb⟩
    · obtain ⟨b, o, e, _, hcl⟩ := h3.resolve_left h0
      cases e
      refine (Tryz.slices_Clone_string b o fr.length fc fr w (Nat.le_refl _) (by omega) (fun j hj => by
        have := hcl j hj
        rw [this]
        simp [List.getD, hj])).mono ?_
      rintro e w' ⟨v', rfl, ho, _, hb⟩
      exact ⟨v', rfl, by simpa using ho, hb⟩

set_option maxHeartbeats 4000000 in
theorem parseL_any (s : ByteArray) (fr : List ByteArray) (fa : Option Addr) (fc : Nat) (w : World) (Y : Nat → Prop) (hf : LV Value.string w Y (.slice fa fr.length fc) fr) (hT : Tb w.heap.size w) (hS : Tse w.heap.size w) :
    Calls Tryz.prog 17 #[.string s, .slice fa fr.length fc] w fun e w' => ParsePostL w (lrdAll s fr) e w' := by
  have hmf : ∀ (fn : Fn) (first cap : Array Value) (w : World), (Instr.makeFunc fn first cap).run Tryz.prog w = .ok (.func fn first cap) w := fun _ _ _ _ => rfl
  have HN := hide hf
  have HT := hide hT
  have HS := hide hS
  obtain ⟨r, hr⟩ : ∃ r, r = lrdAll s fr := ⟨_, rfl⟩
  have HR0 : Hid (r = if freE fr ≠ 0 then noLr (freE fr) else if 4000 < s.size then noLr 3 else if (lrd s (3 * s.size + 3) .term fr 0 0).err ≠ 0 then noLr (lrd s (3 * s.size + 3) .term fr 0 0).err else if (lrd s (3 * s.size + 3) .term fr 0 0).pos = s.size then lrd s (3 * s.size + 3) .term fr 0 0 else noLr 12) := by unfold Hid; rw [hr]; rfl
  rw [← hr]
  clear hr hf hT hS
  go_enter_defers Tryz.func17, Tryz.ntmps17
  go_wp2_with fail
  have PT2 := hide (show Blk ((w.alloc (.cells #[.int .i64 0, .int .i64 0, .slice none 0 0] 26)).alloc (.cells #[.int .i64 0] 28)) w.heap.size #[.int .i64 0, .int .i64 0, .slice none 0 0] 26 from (Blk.new w _ _).alloc _)
  have PE2 : Hid (Blk ((w.alloc (.cells #[.int .i64 0, .int .i64 0, .slice none 0 0] 26)).alloc (.cells #[.int .i64 0] 28)) (w.heap.size + 1) #[.int .i64 0] 28) := by
    have h := Blk.new (w.alloc (.cells #[.int .i64 0, .int .i64 0, .slice none 0 0] 26)) #[.int .i64 0] 28
    have hz : (w.alloc (.cells #[.int .i64 0, .int .i64 0, .slice none 0 0] 26)).heap.size = w.heap.size + 1 := by simp
    rw [hz] at h
    exact h
  have PB2 := hide (show Below w.heap.size w ((w.alloc (.cells #[.int .i64 0, .int .i64 0, .slice none 0 0] 26)).alloc (.cells #[.int .i64 0] 28)) from ((Below.refl _ _).alloc (Nat.le_refl _) _).alloc (by simp) _)
  have hz2 : ((w.alloc (.cells #[.int .i64 0, .int .i64 0, .slice none 0 0] 26)).alloc (.cells #[.int .i64 0] 28)).heap.size = w.heap.size + 2 := by simp
  generalize ((w.alloc (.cells #[.int .i64 0, .int .i64 0, .slice none 0 0] 26)).alloc (.cells #[.int .i64 0] 28)) = w2 at *
  refine (lNames_any fr _ _ Y (by exact HN.out.later PB2.out)).mono ?_
  rintro e w3 ⟨rfl, hb3⟩
  have PT3 := hide (PT2.out.below hb3 PT2.out.lt)
  have PE3 := hide (PE2.out.below hb3 PE2.out.lt)
  have PB3 := hide (PB2.out.trans (hb3.mono PB2.out.size))
  have hz3 := hb3.size
  clear hb3 PT2 PE2 PB2
  by_cases h1 : freE fr = 0
  case neg =>
    have HRF : Hid (r = noLr (freE fr)) := by unfold Hid; rw [HR0.out, if_pos h1]
    have hne : (freE fr == 0) = false := by simpa using h1
    have hne2 : (freE fr != 0) = true := by simpa using h1
    go_wp2_with fail
    refine leaves_cons (f := 33) (args := #[.pointer (some ⟨w.heap.size, 0, none⟩), .pointer (some ⟨w.heap.size + 1, 0, none⟩)]) (by simp) (by simp [go_sem]) ?_
    refine (catchL_panicking w.heap.size (w.heap.size + 1) (freE fr) 0 _ _ _ w3 PT3.out PE3.out).mono ?_
    rintro e u' w'' ⟨rfl, rfl, rfl⟩
    have Q := (lt_set3 PT3.out (.int .i64 0) (.int .i64 0) (.slice none 0 0)).setOther (b' := w.heap.size + 1) 0 (.int .i64 (freE fr)) (by omega)
    have q0 := Q.cell 0
    have q1 := Q.cell 1
    have q2 := Q.cell 2
    have q3 := ((lt_set3o (B := w.heap.size) PE3.out (by omega) (.int .i64 0) (.int .i64 0) (.slice none 0 0)).set 0 (.int .i64 (freE fr))).cell 0
    simp at q0 q1 q2 q3
    simp [Leaves, settle, results, Tryz.results17, go_sem, q0, q1, q2, q3]
    exact parseL_no HRF.out h1 (((((PB3.out).setCell (by simp) _).setCell (by simp) _).setCell (by simp) _).setCell (by simp) _).drew
  have HR1 := hide (show r = _ from (HR0.out).trans (if_neg (by rw [h1]; simp)))
  have h40 := (freE_at h1).1
  rw [h1]
  clear HR0 h1
  go_wp2_with fail
  refine (new_anyL s w3).mono ?_
  intro e w4 hp
  unfold NewPostL at hp
  by_cases hs : 4000 < s.size
  case pos =>
    rw [if_pos hs] at hp
    obtain ⟨he, hb4⟩ := hp
    unfold thrownL at he
    subst he
    have HRF : Hid (r = noLr 3) := by unfold Hid; rw [HR1.out, if_pos hs]
    have PT4 := PT3.out.below hb4 PT3.out.lt
    have PE4 := PE3.out.below hb4 PE3.out.lt
    have PB4 := PB3.out.trans (hb4.mono PB3.out.size)
    refine leaves_cons (f := 33) (args := #[.pointer (some ⟨w.heap.size, 0, none⟩), .pointer (some ⟨w.heap.size + 1, 0, none⟩)]) (by simp) (by simp [go_sem]) ?_
    refine (catchL_panicking w.heap.size (w.heap.size + 1) (3) 0 _ _ _ w4 PT4 PE4).mono ?_
    rintro e u' w'' ⟨rfl, rfl, rfl⟩
    have Q := (lt_set3 PT4 (.int .i64 0) (.int .i64 0) (.slice none 0 0)).setOther (b' := w.heap.size + 1) 0 (.int .i64 (3)) (by omega)
    have q0 := Q.cell 0
    have q1 := Q.cell 1
    have q2 := Q.cell 2
    have q3 := ((lt_set3o (B := w.heap.size) PE4 (by omega) (.int .i64 0) (.int .i64 0) (.slice none 0 0)).set 0 (.int .i64 (3))).cell 0
    simp at q0 q1 q2 q3
    simp [Leaves, settle, results, Tryz.results17, go_sem, q0, q1, q2, q3]
    exact parseL_no HRF.out (by decide) (((((PB4).setCell (by simp) _).setCell (by simp) _).setCell (by simp) _).setCell (by simp) _).drew
  rw [if_neg hs] at hp
  obtain ⟨rfl, hb4⟩ := hp
  have HR2 := hide (show r = _ from (HR1.out).trans (if_neg hs))
  have PT4 := hide (PT3.out.below hb4 PT3.out.lt)
  have PE4 := hide (PE3.out.below hb4 PE3.out.lt)
  have PB4 := hide (PB3.out.trans (hb4.mono PB3.out.size))
  have hz4 := hb4.size
  clear hb4 PT3 PE3 PB3 HR1
  go_wp2_with fail
  refine (cloneN_any fr fa fc w4 Y (by omega) (by exact HN.out.later PB4.out)).mono ?_
  rintro e w5 ⟨nv, rfl, ho5, hb5⟩
  have PT5 := hide ((PT4.out.below hb5 PT4.out.lt).alloc (.cells #[.string s, .int .i64 0, .int .i64 0, nv] 65))
  have PE5 := hide ((PE4.out.below hb5 PE4.out.lt).alloc (.cells #[.string s, .int .i64 0, .int .i64 0, nv] 65))
  have hz5 := hb5.size
  have PB5 := hide ((PB4.out.trans (hb5.mono PB4.out.size)).alloc (by omega) (.cells #[.string s, .int .i64 0, .int .i64 0, nv] 65))
  have ZX : Hid (Rst w4.heap.size w5.heap.size s fr 0 0 nv (w5.alloc (.cells #[.string s, .int .i64 0, .int .i64 0, nv] 65))) := by
    have hbb : Below w.heap.size w (w5.alloc (.cells #[.string s, .int .i64 0, .int .i64 0, nv] 65)) := PB5.out
    exact ⟨Blk.new w5 _ _, ho5.alloc _, hz5, by simp; omega, HT.out.raise hbb (by omega), HS.out.raise hbb (by omega)⟩
  have hnv : ∃ a k c, nv = .slice a k c := by
    rcases ho5.2 with ⟨h, _⟩ | ⟨g, cap, cur, h, _⟩
    · exact ⟨_, _, _, h⟩
    · exact ⟨_, _, _, h⟩
  obtain ⟨na, nl, nc, rfl⟩ := hnv
  have hlast := hide (lread_all w4.heap.size w5.heap.size s (by omega) (3 * s.size + 3) (3 * s.size + 3) (Nat.le_refl _)).1
  clear ho5 hb5 PT4 PE4 PB4
  go_wp2_with fail
  have hz6 : (w5.alloc (.cells #[.string s, .int .i64 0, .int .i64 0, .slice na nl nc] 65)).heap.size = w5.heap.size + 1 := by simp
  generalize (w5.alloc (.cells #[.string s, .int .i64 0, .int .i64 0, .slice na nl nc] 65)) = w6 at *
  refine (hlast.out fr _ 0 0 w6 ZX.out (by omega) (by omega) (by omega) (by omega)).mono ?_
  intro e w7 hp
  generalize lrd s (3 * s.size + 3) .term fr 0 0 = q at *
  have hPT := PT5.out.lt
  have hPE := PE5.out.lt
  have hn0 : Hid (∀ b, b < w4.heap.size → some b ≠ (Value.slice na nl nc).ownBlock) := fun b hb e => by have := (ZX.out.own.lt _ e.symm).1; omega
  rcases hp with ⟨hr0, nv7, a, c, rfl, hs7, hst7, hf7⟩ | ⟨hr0, rfl, nv7, hf7⟩
  case inr =>
    have HRF : Hid (r = noLr q.err) := by unfold Hid; rw [HR2.out, if_pos hr0]
    have PT7 := blk_bfr PT5.out hf7 (by omega) (hn0.out _ (by omega))
    have PE7 := blk_bfr PE5.out hf7 (by omega) (hn0.out _ (by omega))
    have PB7 := PB5.out.trans ((ZX.out.fr hf7).mono (by omega))
    refine leaves_cons (f := 33) (args := #[.pointer (some ⟨w.heap.size, 0, none⟩), .pointer (some ⟨w.heap.size + 1, 0, none⟩)]) (by simp) (by simp [go_sem]) ?_
    refine (catchL_panicking w.heap.size (w.heap.size + 1) (q.err) 0 _ _ _ w7 PT7 PE7).mono ?_
    rintro e u' w'' ⟨rfl, rfl, rfl⟩
    have Q := (lt_set3 PT7 (.int .i64 0) (.int .i64 0) (.slice none 0 0)).setOther (b' := w.heap.size + 1) 0 (.int .i64 (q.err)) (by omega)
    have q0 := Q.cell 0
    have q1 := Q.cell 1
    have q2 := Q.cell 2
    have q3 := ((lt_set3o (B := w.heap.size) PE7 (by omega) (.int .i64 0) (.int .i64 0) (.slice none 0 0)).set 0 (.int .i64 (q.err))).cell 0
    simp at q0 q1 q2 q3
    simp [Leaves, settle, results, Tryz.results17, go_sem, q0, q1, q2, q3]
    exact parseL_no HRF.out hr0 (((((PB7).setCell (by simp) _).setCell (by simp) _).setCell (by simp) _).setCell (by simp) _).drew
  have HR3 := hide (show r = _ from (HR2.out).trans (if_neg (by rw [hr0]; simp)))
  have PT7 := hide (blk_bfr PT5.out hf7 (by omega) (hn0.out _ (by omega)))
  have PE7 := hide (blk_bfr PE5.out hf7 (by omega) (hn0.out _ (by omega)))
  have PB7 := hide (PB5.out.trans ((ZX.out.fr hf7).mono (by omega)))
  have X7 := hide hst7.bx
  have HQ0 := hide hr0
  have S7 := hide (hs7.mono (Y := fun b => w.heap.size + 2 ≤ b) fun b hb _ => by omega)
  clear hs7 hst7 hf7 hr0 PT5 PE5 PB5 ZX HR2 hlast
  have t0 : w7.cell? ⟨w.heap.size, 0, none⟩ = some (.int .i64 0) := PT7.out.cell 0
  have t1 : w7.cell? ⟨w.heap.size, 1, none⟩ = some (.int .i64 0) := PT7.out.cell 1
  have t2 : w7.cell? ⟨w.heap.size, 2, none⟩ = some (.slice none 0 0) := PT7.out.cell 2
  have tf := PT7.out.frozen
  go_wp2_with fail
  have PT8 := hide (lt_set3 PT7.out (.int .i64 q.t.kind) (.int .i64 q.t.idx) (.slice a q.t.subs.length c))
  have PE8 := hide (lt_set3o (B := w.heap.size) PE7.out (by omega) (.int .i64 q.t.kind) (.int .i64 q.t.idx) (.slice a q.t.subs.length c))
  have X8 : Hid (Bl nv7 (((w7.setCell ⟨w.heap.size, 0, none⟩ (.int .i64 q.t.kind)).setCell ⟨w.heap.size, 1, none⟩ (.int .i64 q.t.idx)).setCell ⟨w.heap.size, 2, none⟩ (.slice a q.t.subs.length c)) w5.heap.size s q.pos q.k) := lt_set3o X7.out (by omega) _ _ _
  have PB8 := hide (((PB7.out.setCell (p := ⟨w.heap.size, 0, none⟩) (by simp) (.int .i64 q.t.kind)).setCell (p := ⟨w.heap.size, 1, none⟩) (by simp) (.int .i64 q.t.idx)).setCell (p := ⟨w.heap.size, 2, none⟩) (by simp) (.slice a q.t.subs.length c))
  have S8 : Hid (SlM (((w7.setCell ⟨w.heap.size, 0, none⟩ (.int .i64 q.t.kind)).setCell ⟨w.heap.size, 1, none⟩ (.int .i64 q.t.idx)).setCell ⟨w.heap.size, 2, none⟩ (.slice a q.t.subs.length c)) (fun b => w.heap.size + 2 ≤ b) a q.t.subs) := S7.out.kept fun b hb => by rw [Below.heap_setCell _ _ _ _ (by simp; omega), Below.heap_setCell _ _ _ _ (by simp; omega), Below.heap_setCell _ _ _ _ (by simp; omega)]
  clear t0 t1 t2 tf
  generalize (((w7.setCell ⟨w.heap.size, 0, none⟩ (.int .i64 q.t.kind)).setCell ⟨w.heap.size, 1, none⟩ (.int .i64 q.t.idx)).setCell ⟨w.heap.size, 2, none⟩ (.slice a q.t.subs.length c)) = w8 at *
  clear PT7 PE7 X7 PB7 S7
  by_cases hps : q.pos = s.size
  case neg =>
    refine (end_noL w5.heap.size q.pos q.k s hps _ X8.out).mono ?_
    rintro e w9 ⟨he, n9, rfl⟩
    unfold thrownL at he
    subst he
    have HRF : Hid (r = noLr 12) := by unfold Hid; rw [HR3.out, if_neg hps]
    have PT9 := PT8.out.drewN n9
    have PE9 := PE8.out.drewN n9
    have PB9 := below_drewN PB8.out n9
    generalize w8.drewN n9 = w9 at *
    refine leaves_cons (f := 33) (args := #[.pointer (some ⟨w.heap.size, 0, none⟩), .pointer (some ⟨w.heap.size + 1, 0, none⟩)]) (by simp) (by simp [go_sem]) ?_
    refine (catchL_panicking w.heap.size (w.heap.size + 1) (12) 0 _ _ _ w9 PT9 PE9).mono ?_
    rintro e u' w'' ⟨rfl, rfl, rfl⟩
    have Q := (lt_set3 PT9 (.int .i64 0) (.int .i64 0) (.slice none 0 0)).setOther (b' := w.heap.size + 1) 0 (.int .i64 (12)) (by omega)
    have q0 := Q.cell 0
    have q1 := Q.cell 1
    have q2 := Q.cell 2
    have q3 := ((lt_set3o (B := w.heap.size) PE9 (by omega) (.int .i64 0) (.int .i64 0) (.slice none 0 0)).set 0 (.int .i64 (12))).cell 0
    simp at q0 q1 q2 q3
    simp [Leaves, settle, results, Tryz.results17, go_sem, q0, q1, q2, q3]
    exact parseL_no HRF.out (by decide) (((((PB9).setCell (by simp) _).setCell (by simp) _).setCell (by simp) _).setCell (by simp) _).drew
  refine (end_yesL w5.heap.size q.pos q.k s hps _ X8.out).mono ?_
  rintro e w9 ⟨⟨v9, rfl⟩, n9, rfl⟩
  have PT9 := hide (PT8.out.drewN n9)
  have PE9 := hide (PE8.out.drewN n9)
  have PB9 := hide (below_drewN PB8.out n9)
  have S9 : Hid (SlM (w8.drewN n9) (fun b => w.heap.size + 2 ≤ b) a q.t.subs) := S8.out.kept fun b hb => rfl
  generalize w8.drewN n9 = w9 at *
  clear PT8 PE8 PB8 S8 X8
  have t0 : w9.cell? ⟨w.heap.size, 0, none⟩ = some (.int .i64 q.t.kind) := PT9.out.cell 0
  have t1 : w9.cell? ⟨w.heap.size, 1, none⟩ = some (.int .i64 q.t.idx) := PT9.out.cell 1
  have t2 : w9.cell? ⟨w.heap.size, 2, none⟩ = some (.slice a q.t.subs.length c) := PT9.out.cell 2
  have tf := PT9.out.frozen
  have e0 : w9.cell? ⟨w.heap.size + 1, 0, none⟩ = some (.int .i64 0) := PE9.out.cell 0
  have ef := PE9.out.frozen
  have HRF : Hid (r = q) := by unfold Hid; rw [HR3.out, if_pos hps]
  go_wp2_with fail
  refine leaves_cons (f := 33) (args := #[.pointer (some ⟨w.heap.size, 0, none⟩), .pointer (some ⟨w.heap.size + 1, 0, none⟩)]) (by simp) (by simp [go_sem]) ?_
  refine (catchL_idle w.heap.size (w.heap.size + 1) _).mono ?_
  rintro e u' w'' ⟨rfl, rfl, rfl⟩
  have Q := (lt_set3 PT9.out (.int .i64 q.t.kind) (.int .i64 q.t.idx) (.slice a q.t.subs.length c)).setOther (b' := w.heap.size + 1) 0 (.int .i64 0) (by omega)
  have q0 := Q.cell 0
  have q1 := Q.cell 1
  have q2 := Q.cell 2
  have q3 := ((lt_set3o (B := w.heap.size) PE9.out (by omega) (.int .i64 q.t.kind) (.int .i64 q.t.idx) (.slice a q.t.subs.length c)).set 0 (.int .i64 0)).cell 0
  simp at q0 q1 q2 q3
  simp [Leaves, settle, results, Tryz.results17, go_sem, q0, q1, q2, q3]
  refine ⟨.agg #[.int .i64 q.t.kind, .int .i64 q.t.idx, .slice a q.t.subs.length c], by rw [HRF.out, HQ0.out], fun _ => ?_, fun h => absurd (by rw [HRF.out]; exact HQ0.out) h, (((PB9.out.setCell (by simp) _).setCell (by simp) _).setCell (by simp) _).setCell (by simp) _⟩
  rw [HRF.out]
  exact ⟨a, c, rfl, (S9.out.kept fun b hb => by rw [Below.heap_setCell _ _ _ _ (by simp; omega), Below.heap_setCell _ _ _ _ (by simp; omega), Below.heap_setCell _ _ _ _ (by simp; omega), Below.heap_setCell _ _ _ _ (by simp; omega)]).mono fun b hb _ => by omega⟩
end Go.Proofs.YtagidfoiemgfcaaGreatDoor


/- Walks: a term is put in for what is bound from outside, as the document says. -/
namespace Go.Proofs.YtagidfoiemgfcaaGreatDoor
open Go.RowKit
set_option linter.unusedSimpArgs false
set_option linter.unusedVariables false
set_option maxRecDepth 8000

end Go.Proofs.YtagidfoiemgfcaaGreatDoor


/- Walks: where a lambda term can step; how often what is bound is used. -/
namespace Go.Proofs.YtagidfoiemgfcaaGreatDoor
open Go.RowKit
set_option linter.unusedSimpArgs false
set_option linter.unusedVariables false
set_option maxRecDepth 8000

/-- Each knot has as many below it as its kind asks. -/
def ShM : List Lm → Prop
  | [] => True
  | ⟨k, _, l⟩ :: r => l.length = subsK k ∧ ShM l ∧ ShM r
theorem ShM_nil : ShM [] := by simp [ShM]
theorem ShM_cons (k x : Int) (l r : List Lm) : ShM (⟨k, x, l⟩ :: r) ↔ l.length = subsK k ∧ ShM l ∧ ShM r := by simp [ShM]
theorem ShM.at : ∀ {l : List Lm} (k : Nat) (h : k < l.length), ShM l → ShM [l[k]]
  | [], k, h, _ => by simp at h
  | ⟨s, x, l⟩ :: r, 0, h, hb => by
    rw [ShM_cons] at hb
    exact (ShM_cons s x l []).2 ⟨hb.1, hb.2.1, ShM_nil⟩
  | ⟨s, x, l⟩ :: r, k + 1, h, hb => by
    rw [ShM_cons] at hb
    have := ShM.at (l := r) k (by simpa using h) hb.2.2
    simpa using this
/-- Is there a step at this knot? -/
def rdxT (t : Lm) : Bool := decide (t.kind = 3) && (match t.subs with | [] => false | y :: _ => decide (y.kind = 2))
/-- Is there a step somewhere? -/
def stepM : List Lm → Bool
  | [] => false
  | ⟨k, x, l⟩ :: r => rdxT ⟨k, x, l⟩ || stepM l || stepM r
theorem stepM_append (a b : List Lm) : stepM (a ++ b) = (stepM a || stepM b) := by
  induction a with
  | nil => simp [stepM]
  | cons t r ih => obtain ⟨k, x, l⟩ := t; simp only [List.cons_append, stepM, ih, Bool.or_assoc]
theorem stepM_take (l : List Lm) (k : Nat) (h : k < l.length) : stepM (l.take (k + 1)) = (stepM (l.take k) || stepM [l[k]]) := by
  rw [List.take_succ_eq_append_getElem h, stepM_append]
theorem stepM_of {l : List Lm} {k : Nat} (h : k < l.length) (hs : stepM [l[k]] = true) : stepM l = true := by
  have h1 := stepM_append (l.take (k + 1)) (l.drop (k + 1))
  rw [List.take_append_drop, stepM_take l k h, hs] at h1
  simpa using h1
theorem stepM_one (k x : Int) (l : List Lm) : stepM [⟨k, x, l⟩] = (rdxT ⟨k, x, l⟩ || stepM l) := by simp [stepM]
end Go.Proofs.YtagidfoiemgfcaaGreatDoor

/- Plain: the first step of a lambda term, and what it becomes at last. -/
namespace Go.Proofs.YtagidfoiemgfcaaGreatDoor
open Go.RowKit
set_option linter.unusedSimpArgs false
set_option linter.unusedVariables false
set_option maxRecDepth 8000

/-- What an applied binder becomes. -/
def conT : List Lm → Lm
  | [⟨_, _, [b]⟩, z] => insT z 0 b
  | _ => ⟨0, 0, []⟩
/-- The first that has a step is worked on. -/
def repF (f : Lm → Lm) : List Lm → List Lm
  | [] => []
  | y :: r => if stepM [y] = true then f y :: r else y :: repF f r
/-- Is the step done at this knot? -/
def hereT (inn : Bool) (t : Lm) : Bool := rdxT t && (!inn || !stepM t.subs)
def stpT (inn : Bool) : Nat → Lm → Lm
  | 0, t => t
  | n + 1, ⟨k, x, l⟩ => if hereT inn ⟨k, x, l⟩ = true then conT l else ⟨k, x, repF (stpT inn n) l⟩
/-- What a term becomes at last: an error or none, the term, how many steps. -/
def endM (inn : Bool) : Nat → Lm → Int × Lm × Nat
  | 0, t => if stepM [t] = true then (9, t, 0) else (0, t, 0)
  | k + 1, t => if stepM [t] = true then (if 2000 < sizeM [stpT inn 2001 t] then (8, t, 0) else ((endM inn k (stpT inn 2001 t)).1, (endM inn k (stpT inn 2001 t)).2.1, (endM inn k (stpT inn 2001 t)).2.2 + 1)) else (0, t, 0)
theorem knE_zero {u m k x : Int} {n : Nat} : knE u m k x n = 0 ↔ (1 ≤ k ∧ k ≤ 5) ∧ n = subsK k ∧ 0 ≤ x ∧ x < mostK u m k := by
  unfold knE
  constructor
  · intro h
    split at h
    · cases h
    · split at h
      · cases h
      · split at h
        · cases h
        · omega
  · rintro ⟨h1, h2, h3, h4⟩
    rw [if_neg (by omega), if_neg (by omega), if_neg (by omega)]
theorem err_two0 {u m : Int} {t : Lm} {r : List Lm} : errM u m (t :: r) = 0 ↔ errM u m [t] = 0 ∧ errM u m r = 0 := by
  rw [errM_cons]
  constructor
  · intro h
    split at h
    · rename_i h1; exact ⟨h1, h⟩
    · rename_i h1; exact absurd h h1
  · rintro ⟨h1, h2⟩; rw [if_pos h1]; exact h2
theorem err_one0 {u m k x : Int} {l : List Lm} : errM u m [⟨k, x, l⟩] = 0 ↔ knE u m k x l.length = 0 ∧ errM (deepK u k) m l = 0 := by
  constructor
  · intro h
    by_cases h1 : knE u m k x l.length = 0
    · rw [errM_good h1] at h; exact ⟨h1, h⟩
    · rw [errM_bad h1] at h; exact absurd h h1
  · rintro ⟨h1, h2⟩; rw [errM_good h1]; exact h2
theorem err_all0 {u m : Int} {l : List Lm} : errM u m l = 0 ↔ ∀ t ∈ l, errM u m [t] = 0 := by
  induction l with
  | nil => simp [errM]
  | cons t r ih => rw [err_two0, ih]; simp
theorem hig_len (y d : Int) (l : List Lm) : (higM y d l).length = l.length := by rw [higM_map]; simp
theorem ins_len (z : Lm) (d : Int) (l : List Lm) : (insM z d l).length = l.length := by rw [insM_map]; simp
theorem mostK_ne {u u' m k : Int} (h : k ≠ 1) : mostK u m k = mostK u' m k := by unfold mostK; rw [if_neg h, if_neg h]
/-- What is moved is as good as before. -/
theorem err_hig (m : Int) (l : List Lm) : ∀ u c y : Int, 0 ≤ u → 0 ≤ c → 0 ≤ y → errM (u + c) m l = 0 → errM (u + c + y) m (higM y c l) = 0 := by
  induction l using Lm.indL with
  | h0 => intro u c y _ _ _ _; simp [higM, errM]
  | h k x l r ihl ihr =>
    intro u c y hu hc hy h
    obtain ⟨h1, h2⟩ := err_two0.1 h
    obtain ⟨h3, h4⟩ := err_one0.1 h1
    obtain ⟨a1, a2, a3, a4⟩ := knE_zero.1 h3
    rw [higM]
    refine err_two0.2 ⟨?_, ihr u c y hu hc hy h2⟩
    by_cases hk : k = 1
    · subst hk
      have hl : l = [] := List.length_eq_zero_iff.1 (by rw [a2]; rfl)
      subst hl
      have a5 : x < u + c := by simpa [mostK] using a4
      rw [if_pos rfl]
      split
      · exact err_one0.2 ⟨knE_zero.2 ⟨a1, a2, a3, by show x < mostK _ _ 1; simp [mostK]; omega⟩, by simp [errM]⟩
      · exact err_one0.2 ⟨knE_zero.2 ⟨by omega, rfl, by omega, by show x + y < mostK _ _ 1; simp [mostK]; omega⟩, by simp [errM]⟩
    · rw [if_neg hk]
      refine err_one0.2 ⟨knE_zero.2 ⟨a1, by rw [hig_len]; exact a2, a3, by rw [mostK_ne hk (u' := u + c)]; exact a4⟩, ?_⟩
      by_cases h2 : k = 2
      · subst h2
        have e1 : deepK (u + c + y) 2 = u + (c + 1) + y := by simp [deepK]; omega
        have e2 : deepK c 2 = c + 1 := by simp [deepK]
        have e3 : deepK (u + c) 2 = u + (c + 1) := by simp [deepK]; omega
        rw [e1, e2]
        rw [e3] at h4
        exact ihl u (c + 1) y hu (by omega) hy h4
      · have e1 : ∀ z, deepK z k = z := fun z => by simp [deepK, h2]
        rw [e1, e1]
        rw [e1] at h4
        exact ihl u c y hu hc hy h4
theorem err_higT {m u c y : Int} {t : Lm} (hu : 0 ≤ u) (hc : 0 ≤ c) (hy : 0 ≤ y) (h : errM (u + c) m [t] = 0) : errM (u + c + y) m [higT y c t] = 0 := by
  have := err_hig m [t] u c y hu hc hy h
  rw [higM_map] at this
  exact this
theorem err_ins (m : Int) (z : Lm) (l : List Lm) : ∀ u c : Int, 0 ≤ u → 0 ≤ c → errM u m [z] = 0 → errM (u + c + 1) m l = 0 → errM (u + c) m (insM z c l) = 0 := by
  induction l using Lm.indL with
  | h0 => intro u c _ _ _ _; simp [insM, errM]
  | h k x l r ihl ihr =>
    intro u c hu hc hz h
    obtain ⟨h1, h2⟩ := err_two0.1 h
    obtain ⟨h3, h4⟩ := err_one0.1 h1
    obtain ⟨a1, a2, a3, a4⟩ := knE_zero.1 h3
    rw [insM]
    refine err_two0.2 ⟨?_, ihr u c hu hc hz h2⟩
    by_cases hk : k = 1
    · subst hk
      have hl : l = [] := List.length_eq_zero_iff.1 (by rw [a2]; rfl)
      subst hl
      have a5 : x < u + c + 1 := by simpa [mostK] using a4
      rw [if_pos rfl]
      split
      · exact err_one0.2 ⟨knE_zero.2 ⟨a1, a2, a3, by show x < mostK _ _ 1; simp [mostK]; omega⟩, by simp [errM]⟩
      · split
        · have h9 := err_higT (m := m) (u := u) (c := 0) (y := c) (t := z) hu (by omega) hc (by simpa using hz)
          simpa using h9
        · exact err_one0.2 ⟨knE_zero.2 ⟨by omega, rfl, by omega, by show x - 1 < mostK _ _ 1; simp [mostK]; omega⟩, by simp [errM]⟩
    · rw [if_neg hk]
      refine err_one0.2 ⟨knE_zero.2 ⟨a1, by rw [ins_len]; exact a2, a3, by rw [mostK_ne hk (u' := u + c + 1)]; exact a4⟩, ?_⟩
      by_cases h2 : k = 2
      · subst h2
        have e1 : deepK (u + c) 2 = u + (c + 1) := by simp [deepK]; omega
        have e2 : deepK c 2 = c + 1 := by simp [deepK]
        have e3 : deepK (u + c + 1) 2 = u + (c + 1) + 1 := by simp [deepK]; omega
        rw [e1, e2]
        rw [e3] at h4
        exact ihl u (c + 1) hu (by omega) hz h4
      · have e1 : ∀ z, deepK z k = z := fun z => by simp [deepK, h2]
        rw [e1, e1]
        rw [e1] at h4
        exact ihl u c hu hc hz h4
theorem err_insT {m u : Int} {z t : Lm} (hu : 0 ≤ u) (hz : errM u m [z] = 0) (h : errM (u + 1) m [t] = 0) : errM u m [insT z 0 t] = 0 := by
  have := err_ins m z [t] u 0 hu (by omega) hz (by simpa using h)
  rw [insM_map] at this
  simpa using this
theorem subs_two {t : Lm} {u m : Int} (he : errM u m [t] = 0) (hr : rdxT t = true) : ∃ x i b z, t = ⟨3, x, [⟨2, i, [b]⟩, z]⟩ ∧ errM (u + 1) m [b] = 0 ∧ errM u m [z] = 0 := by
  obtain ⟨k, x, l⟩ := t
  obtain ⟨h3, h4⟩ := err_one0.1 he
  obtain ⟨a1, a2, a3, a4⟩ := knE_zero.1 h3
  unfold rdxT at hr
  simp only [Bool.and_eq_true, decide_eq_true_eq] at hr
  obtain ⟨rfl, hr⟩ := hr
  have a5 : l.length = 2 := by rw [a2]; rfl
  match l, a5 with
  | [⟨k1, i, lb⟩, z], _ =>
    simp only [decide_eq_true_eq] at hr
    subst hr
    have e1 : deepK u 3 = u := by simp [deepK]
    rw [e1] at h4
    obtain ⟨h5, h6⟩ := err_two0.1 h4
    obtain ⟨h7, h8⟩ := err_one0.1 h5
    obtain ⟨b1, b2, b3, b4⟩ := knE_zero.1 h7
    have b5 : lb.length = 1 := by rw [b2]; rfl
    match lb, b5 with
    | [b], _ =>
      have e2 : deepK u 2 = u + 1 := by simp [deepK]
      rw [e2] at h8
      exact ⟨x, i, b, z, rfl, h8, h6⟩
theorem repF_len (f : Lm → Lm) : ∀ l : List Lm, (repF f l).length = l.length
  | [] => rfl
  | y :: r => by
    unfold repF
    split
    · rfl
    · simp [repF_len f r]
/-- What it is, where the first that has a step is the i-th. -/
theorem repF_at (f : Lm → Lm) : ∀ (l : List Lm) (i : Nat) (h : i < l.length), stepM (l.take i) = false → stepM [l[i]] = true → repF f l = l.set i (f l[i])
  | y :: r, 0, h, _, hs => by
    have hs' : stepM [y] = true := hs
    unfold repF
    rw [if_pos hs']; rfl
  | y :: r, i + 1, h, h0, hs => by
    have e : stepM (y :: r.take i) = (stepM [y] || stepM (r.take i)) := stepM_append [y] (r.take i)
    rw [List.take_succ_cons, e, Bool.or_eq_false_iff] at h0
    unfold repF
    rw [if_neg (by rw [h0.1]; simp), repF_at f r i (by simpa using h) h0.2 (by simpa using hs)]
    rfl
theorem repF_mem {f : Lm → Lm} : ∀ {l : List Lm} {y : Lm}, y ∈ repF f l → y ∈ l ∨ ∃ z ∈ l, y = f z
  | [], y, h => by simp [repF] at h
  | z :: r, y, h => by
    unfold repF at h
    split at h
    · rcases List.mem_cons.1 h with rfl | h
      · exact Or.inr ⟨z, by simp, rfl⟩
      · exact Or.inl (by simp [h])
    · rcases List.mem_cons.1 h with rfl | h
      · exact Or.inl (by simp)
      · rcases repF_mem h with h | ⟨q, hq, e⟩
        · exact Or.inl (by simp [h])
        · exact Or.inr ⟨q, by simp [hq], e⟩
/-- A step leaves a term as good as it was. -/
theorem err_stp (inn : Bool) (m : Int) (n : Nat) : ∀ (t : Lm) (u : Int), 0 ≤ u → errM u m [t] = 0 → errM u m [stpT inn n t] = 0 := by
  induction n with
  | zero => intro t u _ h; exact h
  | succ n ih =>
    intro t u hu h
    obtain ⟨k, x, l⟩ := t
    rw [stpT]
    split
    · rename_i hh
      unfold hereT at hh
      simp only [Bool.and_eq_true] at hh
      obtain ⟨x', i, b, z, e, h1, h2⟩ := subs_two h hh.1
      cases e
      exact err_insT hu h2 h1
    · obtain ⟨h3, h4⟩ := err_one0.1 h
      refine err_one0.2 ⟨by rw [repF_len]; exact h3, err_all0.2 fun y hy => ?_⟩
      have hd : 0 ≤ deepK u k := by unfold deepK; split <;> omega
      rcases repF_mem hy with hy | ⟨z, hz, rfl⟩
      · exact err_all0.1 h4 y hy
      · exact ih z _ hd (err_all0.1 h4 z hz)
theorem sizeM_one (k x : Int) (l : List Lm) : sizeM [⟨k, x, l⟩] = 1 + sizeM l := by simp [sizeM]
theorem sizeM_posL (t : Lm) : 0 < sizeM [t] := by obtain ⟨k, x, l⟩ := t; rw [sizeM_one]; omega
theorem sizeM_get (l : List Lm) (i : Nat) (h : i < l.length) : sizeM [l[i]] ≤ sizeM l := by
  have h1 := sizeM_append (l.take (i + 1)) (l.drop (i + 1))
  rw [List.take_append_drop, sizeM_take l i h] at h1
  omega
theorem sizeM_set (l : List Lm) (i : Nat) (h : i < l.length) (y : Lm) : sizeM [y] ≤ sizeM (l.set i y) := by
  have h2 : i < (l.set i y).length := by simpa using h
  have := sizeM_get (l.set i y) i h2
  simpa using this
/-- What is handed over at a step: whether it is small; the term, where it is. -/
def FsOk (inn : Bool) (n : Nat) (t : Lm) (x : Lm) (ok : Bool) : Prop := (ok = true → x = stpT inn n t) ∧ (ok = false → 2000 < sizeM [stpT inn n t])
theorem FsOk.up {inn : Bool} {n : Nat} {k x : Int} {l : List Lm} {i : Nat} (h : i < l.length) (hh : hereT inn ⟨k, x, l⟩ = false) (h0 : stepM (l.take i) = false) (h1 : stepM [l[i]] = true) {y : Lm} {ok : Bool} (hf : FsOk inn n l[i] y ok) : FsOk inn (n + 1) ⟨k, x, l⟩ ⟨k, x, l.set i y⟩ ok := by
  have e : stpT inn (n + 1) ⟨k, x, l⟩ = ⟨k, x, l.set i (stpT inn n l[i])⟩ := by
    rw [stpT, if_neg (by rw [hh]; simp), repF_at _ l i h h0 h1]
  refine ⟨fun hk => by rw [e, hf.1 hk], fun hk => ?_⟩
  have := hf.2 hk
  have h3 := sizeM_set l i h (stpT inn n l[i])
  rw [e, sizeM_one]
  omega
theorem FsOk.at {inn : Bool} {n : Nat} {t : Lm} (hh : hereT inn t = true) {y : Lm} {ok : Bool} (h1 : ok = true → y = conT t.subs) (h2 : ok = false → 2000 < sizeM [conT t.subs]) : FsOk inn (n + 1) t y ok := by
  obtain ⟨k, x, l⟩ := t
  have e : stpT inn (n + 1) ⟨k, x, l⟩ = conT l := by rw [stpT, if_pos hh]
  exact ⟨fun h => by rw [e, h1 h], fun h => by rw [e]; exact h2 h⟩
end Go.Proofs.YtagidfoiemgfcaaGreatDoor

/- The fact that what is applied to itself takes a step: its text is read, its term worked out and written. -/
namespace Go.Proofs.YtagidfoiemgfcaaGreatDoor
open Go.RowKit
set_option linter.unusedSimpArgs false
set_option linter.unusedVariables false
set_option maxRecDepth 8000

/-- The text, its term, and what that becomes. -/
def apS : ByteArray := ⟨#[40, 92, 121, 46, 121, 32, 121, 41, 32, 99, 49]⟩
def apC : Lm := ⟨4, 1, []⟩
def apY : Lm := ⟨1, 0, []⟩
def apB : Lm := ⟨3, 0, [apY, apY]⟩
def apT : Lm := ⟨3, 0, [⟨2, 0, [apB]⟩, apC]⟩
def apE : Lm := ⟨3, 0, [apC, apC]⟩
def apN : ByteArray := ⟨#[121]⟩
def apK : ByteArray := ⟨#[99, 49]⟩

theorem ap_dec : Lib.decDigits 1 = [49] := by rw [Lib.decDigits, dif_pos (by decide)]; rfl
theorem ap_nameY {i : Nat} (h : stopAt apS i = i + 1) (he : apS.extract i (i + 1) = apN) : nameE apS i = 0 := by
  unfold nameE
  rw [h, he, if_neg (by omega), if_neg (by decide)]
theorem ap_y (F k p i : Nat) (h : stopAt apS i = i + 1) (he : apS.extract i (i + 1) = apN) (hb : byteAt apS i = 121) (hk : k < 200) (hp : p = i + 1) : lrd apS (F + 1) .piece [apN] i k = ⟨0, apY, p, k + 1⟩ := by
  subst hp
  rw [lrd, if_neg (by rw [hb]; omega), if_neg (by rw [ap_nameY h he]; simp), if_neg (by omega), h, he]
  have : lastN apN [apN] = some 0 := by simp [lastN]
  unfold namedL
  rw [this]
  rfl
theorem ap_c (F k : Nat) (hk : k < 200) : lrd apS (F + 1) .piece [] 9 k = ⟨0, apC, 11, k + 1⟩ := by
  have h1 : stopAt apS 9 = 11 := by decide
  have h2 : apS.extract 9 11 = apK := by decide
  have hb : byteAt apS 9 = 99 := by decide
  have hn : nameE apS 9 = 0 := by
    unfold nameE
    rw [h1, h2, if_neg (by omega), if_neg (by decide)]
  have hc : conN apK = some 1 := conN_is (by decide) (by rw [ap_dec]; rfl)
  rw [lrd, if_neg (by rw [hb]; omega), if_neg (by rw [hn]; simp), if_neg (by omega), h1, h2]
  unfold namedL
  have : lastN apK [] = none := rfl
  rw [this, hc]
  rfl
/-- The body of the binder. -/
theorem ap_body (F k : Nat) (hk : k < 100) : lrd apS (F + 4) .term [apN] 4 k = ⟨0, apB, 7, k + 3⟩ := by
  have b4 : byteAt apS 4 = 121 := by decide
  have b5 : byteAt apS 5 = 32 := by decide
  have b7 : byteAt apS 7 = 41 := by decide
  rw [lrd, if_neg (by rw [b4]; omega), ap_y (F + 2) k 5 4 (by decide) (by decide) b4 (by omega) rfl]
  simp only [ne_eq, not_true_eq_false, if_false]
  rw [lrd, if_pos ⟨by decide, b5⟩, if_neg (by omega), ap_y (F + 1) (k + 1 + 1) 7 6 (by decide) (by decide) (by decide) (by omega) rfl]
  simp only [ne_eq, not_true_eq_false, if_false]
  rw [lrd, if_neg (by rw [b7]; omega)]
  rfl
theorem ap_fun (F k : Nat) (hk : k < 90) : lrd apS (F + 5) .term [] 1 k = ⟨0, ⟨2, 0, [apB]⟩, 7, k + 4⟩ := by
  have b1 : byteAt apS 1 = 92 := by decide
  have h2 : stopAt apS 2 = 3 := by decide
  have he : apS.extract 2 3 = apN := by decide
  have ha : askE apS 3 46 = 0 := by decide
  rw [lrd, if_pos ⟨by decide, b1⟩, if_neg (by omega), if_neg (by rw [ap_nameY h2 he]; simp), h2, if_neg (by rw [ha]; simp), he]
  have := ap_body F (k + 1) (by omega)
  simp only [List.nil_append, Nat.reduceAdd] at this ⊢
  rw [this]
  simp
theorem ap_all (F : Nat) : lrd apS (F + 8) .term [] 0 0 = ⟨0, apT, 11, 6⟩ := by
  have b0 : byteAt apS 0 = 40 := by decide
  have b8 : byteAt apS 8 = 32 := by decide
  have ha : askE apS 7 41 = 0 := by decide
  have hp : lrd apS (F + 7) .piece [] 0 0 = ⟨0, ⟨2, 0, [apB]⟩, 8, 4⟩ := by
    have := ap_fun (F + 1) 0 (by omega)
    rw [lrd, if_pos ⟨by decide, b0⟩]
    simp only [Nat.zero_add] at this ⊢
    rw [this]
    simp [ha]
  rw [lrd, if_neg (by rw [b0]; omega), hp]
  simp only [ne_eq, not_true_eq_false, if_false]
  rw [lrd, if_pos ⟨by decide, b8⟩, if_neg (by omega), ap_c (F + 5) 5 (by omega)]
  simp only [ne_eq, not_true_eq_false, if_false]
  rw [lrd, if_neg (by rw [show apS.size = 11 from rfl]; omega)]
  rfl
theorem ap_read : (lrdAll apS []).err = 0 ∧ (lrdAll apS []).t = apT := by
  have h := ap_all 28
  have hf : freE [] = 0 := by decide
  unfold lrdAll
  rw [hf, show 3 * apS.size + 3 = 28 + 8 from rfl, h]
  rw [if_neg (by simp), if_neg (by decide)]
  simp [show apS.size = 11 from rfl]
theorem ap_may : lamE 0 0 apT = 0 := by
  unfold lamE
  simp [apT, apB, apY, apC, sizeM, errM, knE, subsK, mostK, deepK]
theorem ap_end : endM false 5 apT = (0, apE, 1) := by
  have h1 : stepM [apT] = true := by simp [apT, stepM, rdxT]
  have h2 : stpT false 2001 apT = apE := by
    show stpT false (2000 + 1) ⟨3, 0, [⟨2, 0, [apB]⟩, apC]⟩ = apE
    rw [stpT, if_pos (by simp [hereT, rdxT])]
    simp [conT, insT, insM, apB, apY, apC, apE, higT, higM, deepK]
  have h3 : stepM [apE] = false := by simp [apE, apC, stepM, rdxT]
  have h4 : sizeM [apE] = 3 := by simp [apE, apC, sizeM]
  rw [endM, if_pos h1, h2, if_neg (by rw [h4]; omega)]
  rw [endM, if_neg (by rw [h3]; simp)]
/-- What is written. -/
theorem ap_text : txE [] apE = 0 ∧ txB [] apE = [99, 49, 32, 99, 49] := by
  have h0 : txE [] apE = 0 := by
    unfold txE
    have hf : freE [] = 0 := by decide
    rw [hf, if_pos rfl]
    unfold lamE
    simp [apE, apC, sizeM, errM, knE, subsK, mostK, deepK]
  refine ⟨h0, ?_⟩
  unfold txB
  rw [if_pos h0]
  show ltx [] 0 ⟨3, 0, [⟨4, 1, []⟩, ⟨4, 1, []⟩]⟩ = _
  rw [ltx_app, ltx_con]
  simp [brk, ap_dec]
end Go.Proofs.YtagidfoiemgfcaaGreatDoor

/- Lambda terms: the library's Clone at their rows; one who takes the first step that he is handed. -/
namespace Go.Proofs.YtagidfoiemgfcaaGreatDoor
open Go.RowKit Go.Shelf
set_option linter.unusedSimpArgs false
set_option linter.unusedVariables false
set_option maxRecDepth 8000

def clm_ren : Go.Shelf.Ren := ⟨fun | 41 => 62 | n => n, fun | 22 => 24 | 23 => 26 | 4 => 4 | n => n, fun | n => n⟩
theorem clm_lays : Go.Proofs.SlLaysE0.n41 Tryz.prog clm_ren := {
  mixed := by kernel_rfl
  f41 := ⟨Tryz.f62.name, by decide, Tryz.func62.trans (congrArg some (by kernel_rfl))⟩
  t4 := Tryz.underlying4
  a4 := Tryz.isAgg4
  z4 := Tryz.sizeOf4
  v4 := Tryz.zeroValue4
  t22 := Tryz.underlying24
  a22 := Tryz.isAgg24
  z22 := Tryz.sizeOf24
  v22 := Tryz.zeroValue24 }
/-- A row of lambda terms cloned: its cells lie in memory of the call's own. -/
theorem cloneM_any (b off n c : Nat) (news : List Value) (w : World) (hl : news.length = n * 3) (hn : n ≤ 1000000) (hc : ∀ j u, news[j]? = some u → w.cell? ⟨b, off + j, none⟩ = some u) (h1 : ∀ u ∈ news, u.oneCell' = true) :
    Calls Tryz.prog 62 #[.slice (some ⟨b, off, none⟩) n c] w fun e w' => ∃ v', e = .returned v' ∧ w'.ownsRow w.heap.size 26 3 v' n news ∧ v' ≠ .slice none 0 0 ∧ Below w.heap.size w w' := by
  obtain ⟨i0, hi, hz0, hz1, hz2⟩ := info_parts Tryz.infoLam
  exact AnyE.slices_Clone clm_lays i0 _ 3 40 hi hz0 hz1 hz2 rfl (by decide) Tryz.sizeOf26 b off n c news w hl (by unfold maxLen; omega) (by omega) hc h1
theorem rowTM_of_lies {w : World} {X : Nat → Prop} : ∀ (l : List Lm) (b o : Nat), LiesM w X b o l → ∃ xs, RowTM w X l xs ∧ ∀ j u, xs[j]? = some u → w.cell? ⟨b, o + j, none⟩ = some u := by
  intro l
  induction l with
  | nil => intro b o _; exact ⟨[], rfl, by simp⟩
  | cons t r ih =>
    intro b o h
    obtain ⟨s, x, k⟩ := t
    simp only [LiesM] at h
    obtain ⟨hx, h1, h1', ⟨a, c, h2, h3, h4⟩, h5⟩ := h
    obtain ⟨xs, hr, hc⟩ := ih b (o + 3) h5
    refine ⟨.int .i64 s :: .int .i64 x :: .slice a k.length c :: xs, ⟨a, c, xs, rfl, ⟨h3, h4⟩, hr⟩, fun j u hj => ?_⟩
    match j, hj with
    | 0, hj => simp at hj; subst hj; exact h1
    | 1, hj => simp at hj; subst hj; exact h1'
    | 2, hj => simp at hj; subst hj; exact h2
    | j + 3, hj => rw [show o + (j + 3) = o + 3 + j by omega]; exact hc j u (by simpa using hj)
theorem RowTM.one {w : World} {X : Nat → Prop} : ∀ {l : List Lm} {xs : List Value}, RowTM w X l xs → ∀ u ∈ xs, u.oneCell' = true
  | [], xs, h, u, hu => by simp [RowTM] at h; subst h; cases hu
  | t :: l, xs, h, u, hu => by
    obtain ⟨a, c, r, rfl, _, h⟩ := h
    rcases List.mem_cons.1 hu with e | hu
    · subst e; rfl
    · rcases List.mem_cons.1 hu with e | hu
      · subst e; rfl
      · rcases List.mem_cons.1 hu with e | hu
        · subst e; rfl
        · exact RowTM.one h u hu
theorem RowTM.put {w : World} {X : Nat → Prop} {y : Lm} {a : Option Addr} {c : Nat} (hy : SlM w X a y.subs) : ∀ {l : List Lm} {xs : List Value} (k : Nat), RowTM w X l xs → k < l.length → RowTM w X (l.set k y) (((xs.set (k * 3) (.int .i64 y.kind)).set (k * 3 + 1) (.int .i64 y.idx)).set (k * 3 + 2) (.slice a y.subs.length c))
  | [], xs, k, h, hk => by simp at hk
  | t :: l, xs, 0, h, _ => by
    obtain ⟨a', c', r, rfl, h1, h2⟩ := h
    exact ⟨a, c, r, by simp, hy, h2⟩
  | t :: l, xs, k + 1, h, hk => by
    obtain ⟨a', c', r, rfl, h1, h2⟩ := h
    refine ⟨a', c', ((r.set (k * 3) (.int .i64 y.kind)).set (k * 3 + 1) (.int .i64 y.idx)).set (k * 3 + 2) (.slice a y.subs.length c), ?_, h1, RowTM.put hy k h2 (by simpa using hk)⟩
    have e : (k + 1) * 3 = k * 3 + 1 + 1 + 1 := by omega
    have e2 : (k + 1) * 3 + 1 = k * 3 + 1 + 1 + 1 + 1 := by omega
    have e3 : (k + 1) * 3 + 2 = k * 3 + 2 + 1 + 1 + 1 := by omega
    rw [e3, e2, e]
    simp
theorem set3_keep {w : World} {b i O : Nat} {v u u' u'' : Value} (h : w.cell? ⟨b, i, none⟩ = some v) (hn : b ≠ O) : (((w.setCell ⟨O, 0, none⟩ u).setCell ⟨O, 1, none⟩ u').setCell ⟨O, 2, none⟩ u'').cell? ⟨b, i, none⟩ = some v := by
  refine cell_sameM ?_ h
  rw [Below.heap_setCell _ _ _ _ (by simpa using hn), Below.heap_setCell _ _ _ _ (by simpa using hn), Below.heap_setCell _ _ _ _ (by simpa using hn)]
theorem owns_monoM {w : World} {N M e z n : Nat} {v : Value} {xs : List Value} (h : w.ownsRow N e z v n xs) (hM : M ≤ N) : w.ownsRow M e z v n xs :=
  ⟨h.1, h.2.imp id fun ⟨g, cap, cur, h1, h2, h3⟩ => ⟨g, cap, cur, h1, Nat.le_trans hM h2, h3⟩⟩
theorem ownsRow_put3 {w : World} {N e z n G cap O : Nat} {u u' u'' : Value} {xs : List Value} (h : w.ownsRow N e z (.slice (some ⟨G, 0, none⟩) n cap) n xs) (hO : O ≠ G) : (((w.setCell ⟨O, 0, none⟩ u).setCell ⟨O, 1, none⟩ u').setCell ⟨O, 2, none⟩ u'').ownsRow N e z (.slice (some ⟨G, 0, none⟩) n cap) n xs := by
  obtain ⟨hl, h1⟩ := h
  refine ⟨hl, ?_⟩
  rcases h1 with h1 | ⟨g, cap', cur, hv, hg, hh, hr⟩
  · exact Or.inl h1
  · refine Or.inr ⟨g, cap', cur, hv, hg, ?_, hr⟩
    have e : g = G := by simp at hv; exact hv.1.symm
    rw [Below.heap_setCell _ _ _ _ (by simp; omega), Below.heap_setCell _ _ _ _ (by simp; omega), Below.heap_setCell _ _ _ _ (by simp; omega)]
    exact hh
/-- What has been laid. -/
def KpL (W : World) (N : Nat) (k x : Int) (n : Nat) (xs : List Value) (o8 : Value) (wc : World) : Prop :=
  ∃ G O cap : Nat, o8 = .pointer (some ⟨O, 0, none⟩) ∧ N ≤ G ∧ N ≤ O ∧ G ≠ O ∧ Blk wc O #[.int .i64 k, .int .i64 x, .slice (some ⟨G, 0, none⟩) n cap] 26 ∧ wc.ownsRow N 26 3 (.slice (some ⟨G, 0, none⟩) n cap) n xs ∧ Below N W wc
theorem kpL_last {W w1 : World} {N n G cap : Nat} {k x : Int} {xs : List Value} (hN : W.heap.size = N) (hown : w1.ownsRow N 26 3 (.slice (some ⟨G, 0, none⟩) n cap) n xs) (hb : Below N W w1) :
    KpL W N k x n xs (.pointer (some ⟨w1.heap.size, 0, none⟩)) (w1.alloc (.cells #[.int .i64 k, .int .i64 x, .slice (some ⟨G, 0, none⟩) n cap] 26)) := by
  have hl := hown.lt G rfl
  have hs := hb.size
  exact ⟨G, w1.heap.size, cap, rfl, hl.1, by omega, by omega, Blk.new _ _ _, hown.alloc _, hb.alloc (by omega) _⟩
theorem kpL_first {W w1 : World} {N n G cap O : Nat} {k x : Int} {xs : List Value} (hO : N ≤ O) (hB : Blk w1 O #[.int .i64 0, .int .i64 0, .slice none 0 0] 26) (hGO : O < G) (hown : w1.ownsRow N 26 3 (.slice (some ⟨G, 0, none⟩) n cap) n xs) (hb : Below N W w1) :
    KpL W N k x n xs (.pointer (some ⟨O, 0, none⟩)) (((w1.setCell ⟨O, 0, none⟩ (.int .i64 k)).setCell ⟨O, 1, none⟩ (.int .i64 x)).setCell ⟨O, 2, none⟩ (.slice (some ⟨G, 0, none⟩) n cap)) := by
  have hl := hown.lt G rfl
  refine ⟨G, O, cap, rfl, hl.1, hO, by omega, ?_, ownsRow_put3 hown (by omega), ((hb.setCell (by simpa using hO) _).setCell (by simpa using hO) _).setCell (by simpa using hO) _⟩
  have := ((hB.set 0 (.int .i64 k)).set 1 (.int .i64 x)).set 2 (.slice (some ⟨G, 0, none⟩) n cap)
  simpa using this
/-- A row with another at a place. -/
theorem kputM_fin {wc : World} {X : Nat → Prop} {l : List Lm} {k G T : Nat} {xs : List Value} {cur : Array Value} {a9 : Option Addr} {c9 : Nat} {y : Lm} (hXG : ∀ b, X b → b ≠ G) (hk : k < l.length) (hl : l.length ≤ 9223372036854775807) (hrt : RowTM wc X l xs) (hcx : cur.toList.take (l.length * 3) = xs) (GB : Blk wc G cur T) (ht : SlM wc X a9 y.subs) :
    SlM (((wc.setCell ⟨G, k * 3, none⟩ (.int .i64 y.kind)).setCell ⟨G, k * 3 + 1, none⟩ (.int .i64 y.idx)).setCell ⟨G, k * 3 + 2, none⟩ (.slice a9 y.subs.length c9)) (fun b => X b ∨ b = G) (some ⟨G, 0, none⟩) (l.set k y) := by
  have keep : ∀ b, b ≠ G → (((wc.setCell ⟨G, k * 3, none⟩ (.int .i64 y.kind)).setCell ⟨G, k * 3 + 1, none⟩ (.int .i64 y.idx)).setCell ⟨G, k * 3 + 2, none⟩ (.slice a9 y.subs.length c9)).heap[b]? = wc.heap[b]? := fun b h1 => by
    rw [Below.heap_setCell _ _ _ _ (by simpa using h1), Below.heap_setCell _ _ _ _ (by simpa using h1), Below.heap_setCell _ _ _ _ (by simpa using h1)]
  generalize hwF : (((wc.setCell ⟨G, k * 3, none⟩ (.int .i64 y.kind)).setCell ⟨G, k * 3 + 1, none⟩ (.int .i64 y.idx)).setCell ⟨G, k * 3 + 2, none⟩ (.slice a9 y.subs.length c9)) = wF at *
  have h1 : RowTM wF (fun b => X b ∨ b = G) l xs := hrt.imp fun a kk hs => (hs.kept fun b hb2 => keep b (hXG b hb2)).mono fun b hb2 _ => Or.inl hb2
  have h2 : SlM wF (fun b => X b ∨ b = G) a9 y.subs := (ht.kept fun b hb2 => keep b (hXG b hb2)).mono fun b hb2 _ => Or.inl hb2
  have h3 := RowTM.put (c := c9) h2 k h1 hk
  have hBF : Blk wF G (((cur.setIfInBounds (k * 3) (.int .i64 y.kind)).setIfInBounds (k * 3 + 1) (.int .i64 y.idx)).setIfInBounds (k * 3 + 2) (.slice a9 y.subs.length c9)) T := by
    rw [← hwF]
    exact ((GB.set (k * 3) (.int .i64 y.kind)).set (k * 3 + 1) (.int .i64 y.idx)).set (k * 3 + 2) (.slice a9 y.subs.length c9)
  refine ⟨by simpa using hl, Or.inr ⟨G, 0, rfl, liesM_of_row G (Or.inr rfl) _ _ 0 h3 (fun _ _ h => h) fun j u hj => ?_⟩⟩
  rw [Nat.zero_add]
  refine (hBF.cell j).trans ?_
  rw [← hcx, ← List.take_set, ← List.take_set, ← List.take_set, List.getElem?_take] at hj
  split at hj
  · rw [← Array.getElem?_toList]
    simpa using hj
  · cases hj

/-- One who takes is called. -/
def TkAt (y v : Value) (ok : Bool) (W : World) (Post : Ending → World → Prop) : Prop :=
  (∃ T I Y : Nat, y = .func (.func 61) #[] #[.pointer (some ⟨T, 0, none⟩), .pointer (some ⟨I, 0, none⟩), .pointer (some ⟨Y, 0, none⟩)] ∧ Calls Tryz.prog 61 #[v, .bool ok, .pointer (some ⟨T, 0, none⟩), .pointer (some ⟨I, 0, none⟩), .pointer (some ⟨Y, 0, none⟩)] W Post) ∨
  (∃ lp : Nat, y = .func (.yield lp) #[] #[] ∧ ∀ n, YieldAt Fence.wide n Tryz.prog lp #[v, .bool ok] W Post)
/-- He wants just the first that he is handed; it lies in blocks that P lets. -/
def StopAt (y : Value) (P : Nat → Prop) (J : World → Prop) (S : Lm → Bool → World → Prop) : Prop :=
  ∀ (W : World) (v : Value) (x : Lm) (ok : Bool) (Z : Nat → Prop), J W → MV W Z v x → (∀ b, Z b → b < W.heap.size ∧ P b) → TkAt y v ok W fun e W' => e = .returned (.bool false) ∧ S x ok W'
def StopTk (y : Value) (P : Nat → Prop) (J : World → Prop) (S : Lm → Bool → World → Prop) : Prop :=
  (∃ T I Y : Nat, y = .func (.func 61) #[] #[.pointer (some ⟨T, 0, none⟩), .pointer (some ⟨I, 0, none⟩), .pointer (some ⟨Y, 0, none⟩)] ∧
    ∀ (W : World) (v : Value) (x : Lm) (ok : Bool) (Z : Nat → Prop), J W → MV W Z v x → (∀ b, Z b → b < W.heap.size ∧ P b) → Calls Tryz.prog 61 #[v, .bool ok, .pointer (some ⟨T, 0, none⟩), .pointer (some ⟨I, 0, none⟩), .pointer (some ⟨Y, 0, none⟩)] W fun e W' => e = .returned (.bool false) ∧ S x ok W') ∨
  (∃ lp : Nat, y = .func (.yield lp) #[] #[] ∧
    ∀ (W : World) (v : Value) (x : Lm) (ok : Bool) (Z : Nat → Prop), J W → MV W Z v x → (∀ b, Z b → b < W.heap.size ∧ P b) → ∀ n, YieldAt Fence.wide n Tryz.prog lp #[v, .bool ok] W fun e W' => e = .returned (.bool false) ∧ S x ok W')
theorem StopTk.at {y : Value} {P : Nat → Prop} {J : World → Prop} {S : Lm → Bool → World → Prop} (h : StopTk y P J S) : StopAt y P J S := by
  intro W v x ok Z h1 h2 h3
  rcases h with ⟨T, I, Y, e, h⟩ | ⟨lp, e, h⟩
  · exact Or.inl ⟨T, I, Y, e, h W v x ok Z h1 h2 h3⟩
  · exact Or.inr ⟨lp, e, h W v x ok Z h1 h2 h3⟩
def StayJ (J : World → Prop) : Prop := ∀ W W' : World, J W → Below W.heap.size W W' → J W'
/-- What the closure has around it. -/
structure BeS (t : Lm) (a : Option Addr) (c T I Y k : Nat) (y : Value) (X : Nat → Prop) (W : World) : Prop where
  bt : Blk W T #[.int .i64 t.kind, .int .i64 t.idx, .slice a t.subs.length c] 26
  bi : Blk W I #[.int .i64 (k : Int)] 3
  by' : Blk W Y #[y] 56
  sl : SlM W X a t.subs
theorem BeS.later {t : Lm} {a : Option Addr} {c T I Y k : Nat} {y : Value} {X : Nat → Prop} {W W' : World} (h : BeS t a c T I Y k y X W) (hb : Below W.heap.size W W') : BeS t a c T I Y k y X W' :=
  ⟨h.bt.below hb h.bt.lt, h.bi.below hb h.bi.lt, h.by'.below hb h.by'.lt, h.sl.later hb⟩
end Go.Proofs.YtagidfoiemgfcaaGreatDoor

/- Walks: the closure that hands on a step below a knot. -/
namespace Go.Proofs.YtagidfoiemgfcaaGreatDoor
open Go.RowKit Go.Shelf
attribute [local go_sem] Oper.semAt_some
set_option linter.unusedSimpArgs false
set_option linter.unusedVariables false
set_option maxRecDepth 8000

set_option maxHeartbeats 4000000 in
theorem below1_any {y : Value} {P : Nat → Prop} {hi : Nat} {J : World → Prop} {S : Lm → Bool → World → Prop} (hP : ∀ b, hi ≤ b → P b) (hT : StopAt y P J S) (hJ : StayJ J) (k xi : Int) (l : List Lm) (i : Nat) (hil : i < l.length) (hlen : l.length ≤ 1000000) (a : Option Addr) (c T I Y : Nat) (X : Nat → Prop) (hTh : hi ≤ T) (W : World) (hjw : J W) (hE : BeS ⟨k, xi, l⟩ a c T I Y i y X W) (hX : ∀ b, X b → b < W.heap.size ∧ P b) (v : Value) (x : Lm) (ok : Bool) (Z : Nat → Prop) (hv : MV W Z v x) (hZ : ∀ b, Z b → b < W.heap.size ∧ P b) :
    Calls Tryz.prog 61 #[v, .bool ok, .pointer (some ⟨T, 0, none⟩), .pointer (some ⟨I, 0, none⟩), .pointer (some ⟨Y, 0, none⟩)] W fun e W' => e = .returned (.bool false) ∧ S ⟨k, xi, l.set i x⟩ ok W' := by
  obtain ⟨va, vc, rfl, hxs⟩ := hv
  have hB1 : Below W.heap.size W (W.alloc (.cells #[.int .i64 x.kind, .int .i64 x.idx, .slice va x.subs.length vc] 26)) := (Below.refl _ _).alloc (Nat.le_refl _) _
  have hsl := hE.sl
  obtain ⟨ba, oa, rfl, hlies⟩ := hsl.2.resolve_left (fun e => by simp only at e; rw [e] at hil; simp at hil)
  obtain ⟨xs, hrt, hxc⟩ := rowTM_of_lies l ba oa hlies
  have hbal : ba < W.heap.size := (hX _ (liesM_get _ _ _ hlies 0 (by show 0 < l.length; omega)).1).1
  have hTW : T < W.heap.size := hE.bt.lt
  have CL : Hid (∀ w', Below W.heap.size W w' → Calls Tryz.prog 62 #[.slice (some ⟨ba, oa, none⟩) l.length c] w' fun e w'' => ∃ G cap, e = .returned (.slice (some ⟨G, 0, none⟩) l.length cap) ∧ w''.ownsRow w'.heap.size 26 3 (.slice (some ⟨G, 0, none⟩) l.length cap) l.length xs ∧ Below w'.heap.size w' w'') := fun w' hb => by
    refine (cloneM_any ba oa l.length c xs w' hrt.len hlen (fun j u hj => (hb.cell (p := ⟨ba, oa + j, none⟩) hbal).trans (hxc j u hj)) hrt.one).mono ?_
    rintro e w'' ⟨v', rfl, ho, hne, hb2⟩
    rcases ho.2 with ⟨h1, _⟩ | ⟨g, cap, cur, hv, _⟩
    · exact absurd h1 hne
    · subst hv
      exact ⟨g, cap, rfl, ho, hb2⟩
  have HRT := hide hrt
  have HE := hide hE
  have HXS := hide hxs
  have HJW := hide hjw
  have HTK := hide hT
  have HX := hide hX
  have HZ := hide hZ
  have hX1 : Blk (W.alloc (.cells #[.int .i64 x.kind, .int .i64 x.idx, .slice va x.subs.length vc] 26)) W.heap.size #[.int .i64 x.kind, .int .i64 x.idx, .slice va x.subs.length vc] 26 := Blk.new _ _ _
  have HX1 := hide hX1
  have HB1 := hide hB1
  clear hrt hE hxs hjw hT hX hZ hsl hlies hxc hX1 hB1
  go_enter Tryz.func61, Tryz.ntmps61
  go_upto_region 1 with fail
  go_cut [8] (fun o8 wc => KpL (W.alloc (.cells #[.int .i64 x.kind, .int .i64 x.idx, .slice va x.subs.length vc] 26)) (W.heap.size + 1) k xi l.length xs o8 wc)
  case first =>
    have hz1 : ((W.alloc (.cells #[.int .i64 x.kind, .int .i64 x.idx, .slice va x.subs.length vc] 26))).heap.size = W.heap.size + 1 := by simp
    have E1 := HE.out.later HB1.out
    generalize (W.alloc (.cells #[.int .i64 x.kind, .int .i64 x.idx, .slice va x.subs.length vc] 26)) = W1 at *
    have t0 : W1.cell? ⟨T, 0, none⟩ = some (.int .i64 k) := E1.bt.cell 0
    have t1 : W1.cell? ⟨T, 1, none⟩ = some (.int .i64 xi) := E1.bt.cell 1
    have t2 : W1.cell? ⟨T, 2, none⟩ = some (.slice (some ⟨ba, oa, none⟩) l.length c) := E1.bt.cell 2
    have HS0 := hide (And.intro t0 (And.intro t1 t2))
    have KP : Hid (∀ w', Below (W.heap.size + 1) W1 w' → w'.cell? ⟨T, 0, none⟩ = some (.int .i64 k) ∧ w'.cell? ⟨T, 1, none⟩ = some (.int .i64 xi) ∧ w'.cell? ⟨T, 2, none⟩ = some (.slice (some ⟨ba, oa, none⟩) l.length c)) := fun w' hb => ⟨(hb.cell (p := ⟨T, 0, none⟩) (by simp; omega)).trans t0, (hb.cell (p := ⟨T, 1, none⟩) (by simp; omega)).trans t1, (hb.cell (p := ⟨T, 2, none⟩) (by simp; omega)).trans t2⟩
    have HD : Hid (Below (W.heap.size + 1) W1 W1.drew) := (Below.refl _ _).drew
    have HA : Hid (∀ o, Below (W.heap.size + 1) W1 (W1.drew.alloc o)) := fun o => ((Below.refl _ _).drew).alloc (by simp; omega) o
    have CL2 : Hid (∀ w', Below (W.heap.size + 1) W1 w' → Calls Tryz.prog 62 #[.slice (some ⟨ba, oa, none⟩) l.length c] w' fun e w'' => ∃ G cap, e = .returned (.slice (some ⟨G, 0, none⟩) l.length cap) ∧ w''.ownsRow w'.heap.size 26 3 (.slice (some ⟨G, 0, none⟩) l.length cap) l.length xs ∧ Below w'.heap.size w' w'' ∧ Below (W.heap.size + 1) W1 w'') := fun w' hb => by
      refine (CL.out w' (HB1.out.trans (hb.mono (by omega)))).mono ?_
      rintro e w'' ⟨G, cap, rfl, h1, h2⟩
      exact ⟨G, cap, rfl, h1, h2, hb.trans (h2.mono (by have := hb.size; omega))⟩
    have HZ1 := hide hz1
    have nW : T ≠ W1.heap.size := by omega
    clear hz1 t0 t1 t2 E1
    go_region_held3 (fun w' => w'.cell? ⟨T, 0, none⟩ = some (.int .i64 k) ∧ w'.cell? ⟨T, 1, none⟩ = some (.int .i64 xi) ∧ w'.cell? ⟨T, 2, none⟩ = some (.slice (some ⟨ba, oa, none⟩) l.length c)) (first | exact hS | exact HS0.out | exact KP.out _ (HA.out _) | exact ⟨set3_keep hS.1 nW, set3_keep hS.2.1 nW, set3_keep hS.2.2 nW⟩ | go_keep)
      (first
        | (go_at_call 62;
            first
              | (refine (CL2.out _ (by first | exact Below.refl _ _ | exact HD.out)).mono ?_; rintro e w5 ⟨G, cap, rfl, ho5, hb5, hB5⟩; have hS := KP.out _ hB5)
              | (refine (CL2.out _ (by exact HA.out (.cells #[.int .i64 0, .int .i64 0, .slice none 0 0] 26))).mono ?_; rintro e w5 ⟨G, cap, rfl, ho5, hb5, hB5⟩; have hS := KP.out _ hB5; have QB : Blk w5 W1.heap.size #[.int .i64 0, .int .i64 0, .slice none 0 0] 26 := (Blk.new W1.drew _ _).below hb5 (by simp); have q0 : w5.cell? ⟨W1.heap.size, 0, none⟩ = some (.int .i64 0) := QB.cell 0; have q1 : w5.cell? ⟨W1.heap.size, 1, none⟩ = some (.int .i64 0) := QB.cell 1; have q2 : w5.cell? ⟨W1.heap.size, 2, none⟩ = some (.slice none 0 0) := QB.cell 2; have qf := QB.frozen)))
    all_goals have hGl := ho5.lt G rfl
    all_goals go_wp2_with fail
    all_goals go_meet
    all_goals first
      | exact kpL_last (by exact HZ1.out) (owns_monoM ho5 (by have := HZ1.out; simp; omega)) hB5
      | (have hz3 := HZ1.out; have e : W1.heap.size = W.heap.size + 1 := hz3; exact kpL_first (by omega) QB (by have := hGl.1; simp at this; omega) (owns_monoM ho5 (by simp; omega)) hB5)
  case rest =>
    obtain ⟨G, O, cap, rfl, hG3, hO3, hGO, hBO, hown, hbw⟩ := hcut
    have hbW : Below W.heap.size W wc := HB1.out.trans (hbw.mono (by omega))
    have XB := HX1.out.below hbw (by omega)
    have E2 := HE.out.later hbW
    obtain ⟨cur, hGb, hcur, hcx, hcap⟩ : ∃ cur : Array Value, Blk wc G cur 26 ∧ cur.size = cap * 3 ∧ cur.toList.take (l.length * 3) = xs ∧ l.length ≤ cap := by
      rcases hown.2 with ⟨h1, _⟩ | ⟨g, cap', cur, hv, _, hh, hnc, _, hz, ht⟩
      · cases h1
      · simp at hv
        obtain ⟨rfl, rfl⟩ := hv
        exact ⟨cur, hh, hz, ht, hnc⟩
    obtain ⟨y0, hy0⟩ : ∃ y, cur[i * 3]? = some y := ⟨_, Array.getElem?_eq_getElem (by omega)⟩
    obtain ⟨y1, hy1⟩ : ∃ y, cur[i * 3 + 1]? = some y := ⟨_, Array.getElem?_eq_getElem (by omega)⟩
    obtain ⟨y2, hy2⟩ : ∃ y, cur[i * 3 + 2]? = some y := ⟨_, Array.getElem?_eq_getElem (by omega)⟩
    have g0 : wc.cell? ⟨G, i * 3, none⟩ = some y0 := (hGb.cell (i * 3)).trans hy0
    have g1 : wc.cell? ⟨G, i * 3 + 1, none⟩ = some y1 := (hGb.cell (i * 3 + 1)).trans hy1
    have g2 : wc.cell? ⟨G, i * 3 + 2, none⟩ = some y2 := (hGb.cell (i * 3 + 2)).trans hy2
    have gf := hGb.frozen
    have hIlt : I < W.heap.size := HE.out.bi.lt
    have hYlt : Y < W.heap.size := HE.out.by'.lt
    have nO : O ≠ G := fun e => hGO e.symm
    have nI : I ≠ G := by omega
    have nY : Y ≠ G := by omega
    have nX : W.heap.size ≠ G := by omega
    have ci : wc.cell? ⟨I, 0, none⟩ = some (.int .i64 (i : Int)) := E2.bi.cell 0
    have x0 : wc.cell? ⟨W.heap.size, 0, none⟩ = some (.int .i64 x.kind) := XB.cell 0
    have x1 : wc.cell? ⟨W.heap.size, 1, none⟩ = some (.int .i64 x.idx) := XB.cell 1
    have x2 : wc.cell? ⟨W.heap.size, 2, none⟩ = some (.slice va x.subs.length vc) := XB.cell 2
    have o2 : wc.cell? ⟨O, 2, none⟩ = some (.slice (some ⟨G, 0, none⟩) l.length cap) := hBO.cell 2
    have hil2 : (i : Int) < (l.length : Int) := by omega
    have hlen9 : l.length ≤ 9223372036854775807 := by omega
    have SLX : SlM wc (fun b => X b ∨ Z b) va x.subs := (HXS.out.later hbW).mono fun b h _ => Or.inr h
    have RTX : RowTM wc (fun b => X b ∨ Z b) l xs := HRT.out.imp fun a kk hs => (hs.later hbW).mono fun b h _ => Or.inl h
    have HXZ : ∀ b, (X b ∨ Z b) → b < W.heap.size := fun b h => h.elim (fun h => (HX.out b h).1) fun h => (HZ.out b h).1
    have FIN := kputM_fin (c9 := vc) (fun b hb => by have := HXZ b hb; omega) hil hlen9 RTX hcx hGb SLX
    have OB := ((hBO.setOther (i * 3) (.int .i64 x.kind) nO).setOther (i * 3 + 1) (.int .i64 x.idx) nO).setOther (i * 3 + 2) (.slice va x.subs.length vc) nO
    have YB := ((E2.by'.setOther (i * 3) (.int .i64 x.kind) nY).setOther (i * 3 + 1) (.int .i64 x.idx) nY).setOther (i * 3 + 2) (.slice va x.subs.length vc) nY
    have hb9 : Below W.heap.size W (((wc.setCell ⟨G, i * 3, none⟩ (.int .i64 x.kind)).setCell ⟨G, i * 3 + 1, none⟩ (.int .i64 x.idx)).setCell ⟨G, i * 3 + 2, none⟩ (.slice va x.subs.length vc)) := ((hbW.setCell (p := ⟨G, i * 3, none⟩) (by simp; omega) _).setCell (p := ⟨G, i * 3 + 1, none⟩) (by simp; omega) _).setCell (p := ⟨G, i * 3 + 2, none⟩) (by simp; omega) _
    have hGw : G < wc.heap.size := hGb.lt
    have hsz9 : (((wc.setCell ⟨G, i * 3, none⟩ (.int .i64 x.kind)).setCell ⟨G, i * 3 + 1, none⟩ (.int .i64 x.idx)).setCell ⟨G, i * 3 + 2, none⟩ (.slice va x.subs.length vc)).heap.size = wc.heap.size := by simp [World.setCell]
    have TK := HTK.out (((wc.setCell ⟨G, i * 3, none⟩ (.int .i64 x.kind)).setCell ⟨G, i * 3 + 1, none⟩ (.int .i64 x.idx)).setCell ⟨G, i * 3 + 2, none⟩ (.slice va x.subs.length vc)) (.agg #[.int .i64 k, .int .i64 xi, .slice (some ⟨G, 0, none⟩) l.length cap]) ⟨k, xi, l.set i x⟩ ok _ (hJ _ _ HJW.out hb9) ⟨some ⟨G, 0, none⟩, cap, by simp, FIN⟩ (fun b hb => by
      rw [hsz9]
      have hWc := hbW.size
      rcases hb with hb | rfl
      · rcases hb with hb | hb
        · have := HX.out b hb; exact ⟨by omega, this.2⟩
        · have := HZ.out b hb; exact ⟨by omega, this.2⟩
      · exact ⟨by omega, hP _ (by omega)⟩)
    clear hsz9 FIN SLX RTX hGb hcx hy0 hy1 hy2 hcur hown hBO
    have u0 := OB.cell 0
    have u1 := OB.cell 1
    have u2 := OB.cell 2
    have yy := YB.cell 0
    simp only [List.getElem?_toArray, List.getElem?_cons_succ, List.getElem?_cons_zero] at u0 u1 u2 yy
    rcases TK with ⟨T', I', Y', rfl, hcall⟩ | ⟨lp, rfl, hyl⟩
    · have HC := hide hcall
      clear hcall OB YB
      go_wp2_with fail
      refine HC.out.mono ?_
      rintro e W' ⟨rfl, hS⟩
      have HS := hide hS
      clear hS
      go_wp2_with fail
      go_ret
      exact ⟨rfl, HS.out⟩
    · obtain ⟨hfn, htmps, hasg, hbody, hyy, hR⟩ := hyl 0
      have HR := hide hR
      clear hR OB YB hyl
      go_upto_region 3 with fail
      refine (wpIn_wide (n := 1)).1 ?_
      gi_wp2
      refine HR.out.mono ?_
      rintro e W' ⟨rfl, hS⟩
      have HS := hide hS
      clear hS hyy
      gi_wp2
      go_wp2_with fail
      go_ret
      exact ⟨rfl, HS.out⟩
end Go.Proofs.YtagidfoiemgfcaaGreatDoor

/- Walks: lambda terms made, counted: what stands beside a row; knots for what is bound from outside. -/
namespace Go.Proofs.YtagidfoiemgfcaaGreatDoor
open Go.RowKit
set_option linter.unusedSimpArgs false
set_option linter.unusedVariables false
set_option maxRecDepth 8000

/-- What is bound has nothing below it. -/
def LfM : List Lm → Prop
  | [] => True
  | ⟨k, _, l⟩ :: r => (k = 1 → l = []) ∧ LfM l ∧ LfM r
theorem LfM_nil : LfM [] := by simp [LfM]
theorem LfM_cons (k x : Int) (l r : List Lm) : LfM (⟨k, x, l⟩ :: r) ↔ (k = 1 → l = []) ∧ LfM l ∧ LfM r := by simp [LfM]
theorem LfM.at : ∀ {l : List Lm} (k : Nat) (h : k < l.length), LfM l → LfM [l[k]]
  | [], k, h, _ => by simp at h
  | ⟨s, x, l⟩ :: r, 0, h, hb => by
    rw [LfM_cons] at hb
    exact (LfM_cons s x l []).2 ⟨hb.1, hb.2.1, LfM_nil⟩
  | ⟨s, x, l⟩ :: r, k + 1, h, hb => by
    rw [LfM_cons] at hb
    have := LfM.at (l := r) k (by simpa using h) hb.2.2
    simpa using this
theorem lf_of_err : ∀ (l : List Lm) (u m : Int), errM u m l = 0 → LfM l := by
  intro l
  induction l using Lm.indL with
  | h0 => intros; exact LfM_nil
  | h k x l r ihl ihr =>
    intro u m he
    rw [errM] at he
    split at he
    · rename_i h1
      split at he
      · rename_i h2
        refine (LfM_cons k x l r).2 ⟨fun hk => ?_, ihl (deepK u k) m h2, ihr u m he⟩
        subst hk
        unfold knE at h1
        split at h1
        · cases h1
        · split at h1
          · cases h1
          · rename_i h3
            exact List.length_eq_zero_iff.1 (by simpa [subsK] using h3)
      · rename_i h2; exact absurd he h2
    · rename_i h1; exact absurd he h1

/-- What a counted making of a lambda term gives: all of it, if it is not too great; else the count is below nought. -/
def MkPost (w : World) (F : Nat) (t : Lm) (n : Nat) (e : Ending) (w' : World) : Prop :=
  ∃ (k' x' : Int) (a' : Option Addr) (l' c' : Nat) (m : Int), e = .returned (.agg #[.int .i64 k', .int .i64 x', .slice a' l' c']) ∧ Blk w' F #[.int .i64 m] 91 ∧ Ex F w w' ∧ (sizeM [t] ≤ n → m = (n : Int) - sizeM [t] ∧ k' = t.kind ∧ x' = t.idx ∧ l' = t.subs.length ∧ SlM w' (fun b => w.heap.size ≤ b) a' t.subs) ∧ (n < sizeM [t] → m = -1)

theorem SlM.ex {w w' : World} {F : Nat} {X : Nat → Prop} {a : Option Addr} {l : List Lm} (h : SlM w X a l) (he : Ex F w w') (hX : ∀ b, X b → b ≠ F) : SlM w' X a l :=
  ((h.mono (Y := fun b => X b ∧ b < w.heap.size) fun b h1 h2 => ⟨h1, h2⟩).kept fun b hb => he.block b hb.2 (hX b hb.1)).mono fun b hb _ => hb.1
theorem RowM.ex {w w' : World} {B N T : Nat} {Y : Nat → Prop} {v : Value} {l : List Lm} {xs : List Value} (h : RowM w N T Y v l xs) (he : Ex B w w') (hB : B < N) (hY : ¬ Y B) : RowM w' N T Y v l xs :=
  ⟨h.own.kept (w' := w') (row := some B) ⟨he.os, he.tape, he.output, he.size, fun j hj hn => he.block j hj (fun e => hn (by rw [e]))⟩ (Or.inr (fun e => by have := (h.own.lt B e).1; omega)),
   h.row.imp fun a l hs => ((hs.mono (Y := fun b => (Y b ∨ (N ≤ b ∧ some b ≠ v.ownBlock)) ∧ b < w.heap.size) fun b h1 h2 => ⟨h1, h2⟩).kept fun b hb => he.block b hb.2 (fun e => by
     rcases hb.1 with h1 | h1
     · rw [e] at h1; exact hY h1
     · omega)).mono fun b hb _ => hb.1⟩

theorem mk_end {w W w9 : World} {F R : Nat} {t : Lm} {n : Nat} {k' x' : Int} {a' : Option Addr} {l' c' : Nat} {m : Int} {v0 v1 v2 : Value} (hF : F < w.heap.size) (hR : w.heap.size ≤ R) (hW : R < W.heap.size) (h1 : Blk w9 F #[.int .i64 m] 91) (hx : Ex F w w9) (hy : sizeM [t] ≤ n → m = (n : Int) - sizeM [t] ∧ k' = t.kind ∧ x' = t.idx ∧ l' = t.subs.length ∧ SlM w9 (fun b => W.heap.size ≤ b) a' t.subs) (hn : n < sizeM [t] → m = -1) :
    MkPost w F t n (.returned (.agg #[.int .i64 k', .int .i64 x', .slice a' l' c'])) (((w9.setCell ⟨R, 0, none⟩ v0).setCell ⟨R, 1, none⟩ v1).setCell ⟨R, 2, none⟩ v2) := by
  refine ⟨k', x', a', l', c', m, rfl, ((h1.setOther _ _ (by omega)).setOther _ _ (by omega)).setOther _ _ (by omega), ((hx.setNew (by omega) _ _).setNew (by omega) _ _).setNew (by omega) _ _, fun h => ?_, hn⟩
  obtain ⟨e1, e2, e3, e4, e5⟩ := hy h
  refine ⟨e1, e2, e3, e4, (e5.kept fun b hb => ?_).mono fun b hb _ => by omega⟩
  rw [Below.heap_setCell _ _ _ _ (by simp; omega), Below.heap_setCell _ _ _ _ (by simp; omega), Below.heap_setCell _ _ _ _ (by simp; omega)]

theorem bound_any (F : Nat) (x : Int) (n : Nat) (w : World) (hn : n ≤ 9223372036854775807) (hF : Blk w F #[.int .i64 (n : Int)] 91) :
    Calls Tryz.prog 77 #[.pointer (some ⟨F, 0, none⟩), .int .i64 x] w fun e w' => MkPost w F ⟨1, x, []⟩ n e w' := by
  have hFl := hF.lt
  have f0 : ∀ o, (w.alloc o).cell? ⟨F, 0, none⟩ = some (.int .i64 (n : Int)) := fun o => (hF.alloc o).cell 0
  have ff : ∀ o, (w.alloc o).frozen? ⟨F, 0, none⟩ = false := fun o => (hF.alloc o).frozen 0
  have f0' : w.cell? ⟨F, 0, none⟩ = some (.int .i64 (n : Int)) := hF.cell 0
  have ff' : w.frozen? ⟨F, 0, none⟩ = false := hF.frozen 0
  have hw1 : IntKind.i64.wrap ((n : Int) - 1) = (n : Int) - 1 := by rw [IntKind.wrap_i64]; omega
  have HF := hide hF
  clear hF
  go_enter Tryz.func77, Tryz.ntmps77
  go_wp2_with fail
  refine bodyPost_ret (v := .agg #[.int .i64 1, .int .i64 x, .slice none 0 0]) (by simp [results, Tryz.results77, go_sem, World.cell?_setCell_same, World.cell?_setCell_other]) rfl ?_
  have e1 : sizeM [(⟨1, x, []⟩ : Lm)] = 1 := by simp [sizeM]
  exact ⟨1, x, none, 0, 0, (n : Int) - 1, rfl, (HF.out.set 0 _).alloc _, ((Ex.refl F w).set 0 _).alloc _, fun h => ⟨by rw [e1]; omega, rfl, rfl, rfl, by simp, Or.inl rfl⟩, fun h => by omega⟩

/-- What stands beside the row. -/
def MnSet (w : World) (F O : Nat) (kd ix : Int) (u : Value) (cF : Array Value) (wr : World) : Prop :=
  Ex F w wr ∧ Blk wr (w.heap.size + 1) #[.int .i64 0, .int .i64 0, .slice none 0 0] 26 ∧ Blk wr O #[.int .i64 kd, .int .i64 ix, u] 26 ∧ Blk wr F cF 91 ∧ O < wr.heap.size

theorem mn_set {w wr w1 w3 : World} {F O : Nat} {kd ix : Int} {u v : Value} {cF cF' : Array Value} {o2 : Obj} (hFw : F < w.heap.size) (hO : w.heap.size + 2 ≤ O) (h : MnSet w F O kd ix u cF wr) (hu : ∀ k, u.ownBlock = some k → O + 1 ≤ k)
    (he1 : Ex F wr w1) (hF1 : Blk w1 F cF' 91) (hg : (w1.alloc o2).grownBy w3 u.ownBlock) : MnSet w F O kd ix v cF' (w3.setCell ⟨O, 2, none⟩ v) := by
  obtain ⟨h1, h2, h3, h4, h5⟩ := h
  have hne : ∀ b, b < O + 1 → some b ≠ u.ownBlock := fun b hb e => by have := hu b e.symm; omega
  have hs1 := he1.size
  have hs3 := hg.size
  simp at hs3
  refine ⟨(((h1.trans he1).alloc o2).grown hg (fun k hk => by have := hu k hk; omega)).setNew (by omega) _ _, ?_, ?_, ?_, by simp [World.setCell]; omega⟩
  · exact (((h2.ex he1 (by omega)).alloc o2).grown hg (hne _ (by omega))).setOther _ _ (by omega)
  · exact (((h3.ex he1 (by omega)).alloc o2).grown hg (hne _ (by omega))).set 2 _
  · exact ((hF1.alloc o2).grown hg (hne _ (by omega))).setOther _ _ (by omega)

theorem mn_row {wr w1 w3 : World} {F O : Nat} {u : Value} {L : List Lm} {xs : List Value} {o2 : Obj} {k1 x1 : Int} {a1 : Option Addr} {n1 c1 g cap : Nat} {t : Lm} (hFO : F < O) (hOr : O < wr.heap.size) (hrow : RowM wr (O + 1) 26 (fun _ => False) u L xs)
    (he1 : Ex F wr w1) (ht : MV w1 (fun b => wr.heap.size ≤ b) (.agg #[.int .i64 k1, .int .i64 x1, .slice a1 n1 c1]) t)
    (hown : w3.ownsRow (O + 1) 26 3 (.slice (some ⟨g, 0, none⟩) (L.length + 1) cap) (L.length + 1) (xs ++ [.int .i64 k1, .int .i64 x1, .slice a1 n1 c1])) (hg : (w1.alloc o2).grownBy w3 u.ownBlock) (hat : u.ownBlock = some g ∨ g = (w1.alloc o2).heap.size) :
    RowM (w3.setCell ⟨O, 2, none⟩ (.slice (some ⟨g, 0, none⟩) (L.length + 1) cap)) (O + 1) 26 (fun _ => False) (.slice (some ⟨g, 0, none⟩) (L.length + 1) cap) (L ++ [t]) (xs ++ [.int .i64 k1, .int .i64 x1, .slice a1 n1 c1]) := by
  obtain ⟨wm, hbm, hsm, hem⟩ := he1.mid
  have hrm := hrow.ex hem (by omega) (fun h => h)
  exact (hrm.push (w1 := w1) (w2 := w1.alloc o2) (w3 := w3) (by omega) (fun _ h => h.elim) hbm (ht.mono fun b h _ => Or.inr (by omega)) o2 rfl hown hg hat).setCell (by omega) (fun h => h) _

def MnInv (w : World) (F O : Nat) (kd ix : Int) (L : List Lm) (n : Nat) (i : Value) (wr : World) : Prop :=
  ∃ (k : Nat) (u : Value), k ≤ L.length ∧ i = .int .i64 (k : Int) ∧
    ((∃ (m : Nat) (xs : List Value), (m : Int) = (n : Int) - 1 - sizeM (L.take k) ∧ MnSet w F O kd ix u #[.int .i64 (m : Int)] wr ∧ RowM wr (O + 1) 26 (fun _ => False) u (L.take k) xs) ∨
     (n < 1 + sizeM L ∧ MnSet w F O kd ix u #[.int .i64 (-1)] wr ∧ ∃ a9 l9 c9, u = .slice a9 l9 c9))
end Go.Proofs.YtagidfoiemgfcaaGreatDoor

/- Walks: lambda terms made, counted: what is bound from outside is moved. -/
namespace Go.Proofs.YtagidfoiemgfcaaGreatDoor
open Go.RowKit
set_option linter.unusedSimpArgs false
set_option linter.unusedVariables false
set_option maxRecDepth 8000

/-- What the moving closure holds. -/
def EnvR (w : World) (B1 B2 F : Nat) (y : Int) : Prop := Blk w B1 #[.pointer (some ⟨F, 0, none⟩)] 107 ∧ Blk w B2 #[.int .i64 y] 3
theorem EnvR.ex {w w' : World} {B1 B2 F : Nat} {y : Int} (h : EnvR w B1 B2 F y) (he : Ex F w w') (h1 : B1 ≠ F) (h2 : B2 ≠ F) : EnvR w' B1 B2 F y := ⟨h.1.ex he h1, h.2.ex he h2⟩
theorem EnvR.later {w w' : World} {B1 B2 F : Nat} {y : Int} (h : EnvR w B1 B2 F y) (hb : Below w.heap.size w w') : EnvR w' B1 B2 F y := ⟨h.1.below hb h.1.lt, h.2.below hb h.2.lt⟩

theorem raise1_any (F B1 B2 : Nat) (y x d : Int) (n : Nat) (w : World) (hn : n ≤ 9223372036854775807) (hx0 : -100000 ≤ x) (hx1 : x ≤ 100000) (hy0 : -100000 ≤ y) (hy1 : y ≤ 100000) (hF : Blk w F #[.int .i64 (n : Int)] 91) (h1F : B1 ≠ F) (h2F : B2 ≠ F) (hE : EnvR w B1 B2 F y) :
    Calls Tryz.prog 76 #[.int .i64 x, .int .i64 d, .pointer (some ⟨B1, 0, none⟩), .pointer (some ⟨B2, 0, none⟩)] w fun e w' => MkPost w F ⟨1, x + y, []⟩ n e w' := by
  have hFl := hF.lt
  have q1 : ∀ o, (w.alloc o).cell? ⟨B1, 0, none⟩ = some (.pointer (some ⟨F, 0, none⟩)) := fun o => (hE.1.alloc o).cell 0
  have q2 : ∀ o, (w.alloc o).cell? ⟨B2, 0, none⟩ = some (.int .i64 y) := fun o => (hE.2.alloc o).cell 0
  have hw1 : IntKind.i64.wrap (x + y) = x + y := by rw [IntKind.wrap_i64]; omega
  have HF := hide hF
  clear hF hE
  go_enter Tryz.func76, Tryz.ntmps76
  go_wp2_with fail
  refine (bound_any F _ n _ hn (HF.out.alloc _)).mono ?_
  rintro e w1 ⟨k', x', a', l', c', m, rfl, hF1, hx1, hy1, hn1⟩
  have R1 : Hid (Blk w1 w.heap.size #[.int .i64 0, .int .i64 0, .slice none 0 0] 26) := (Blk.new w #[.int .i64 0, .int .i64 0, .slice none 0 0] 26).ex hx1 (by omega)
  have HX := hide (((Ex.refl F w).alloc (.cells #[.int .i64 0, .int .i64 0, .slice none 0 0] 26)).trans hx1)
  have HF1 := hide hF1
  have HY := hide hy1
  have HN := hide hn1
  clear hF1 hx1 hy1 hn1
  have r0 : w1.cell? ⟨w.heap.size, 0, none⟩ = some (.int .i64 0) := R1.out.cell 0
  have r1 : w1.cell? ⟨w.heap.size, 1, none⟩ = some (.int .i64 0) := R1.out.cell 1
  have r2 : w1.cell? ⟨w.heap.size, 2, none⟩ = some (.slice none 0 0) := R1.out.cell 2
  have rf := R1.out.frozen
  have hRl := R1.out.lt
  go_wp2_with fail
  refine bodyPost_ret (v := .agg #[.int .i64 k', .int .i64 x', .slice a' l' c']) (by simp [results, Tryz.results76, go_sem, World.cell?_setCell_same, World.cell?_setCell_other, r0, r1, r2, hRl]) rfl ?_
  exact mk_end (W := w.alloc (.cells #[.int .i64 0, .int .i64 0, .slice none 0 0] 26)) hFl (Nat.le_refl _) (by simp) HF1.out HX.out HY.out HN.out
set_option maxHeartbeats 4000000 in
theorem buildR_any (F B1 B2 : Nat) (y : Int) (hy0 : -100000 ≤ y) (hy1 : y ≤ 100000) (h1F : B1 ≠ F) (h2F : B2 ≠ F) (t : Lm) : ∀ (n : Nat) (v : Value) (d : Int) (w : World) (X : Nat → Prop), MV w X v t → (∀ b, X b → b ≠ F) → n ≤ 9223372036854775807 → 0 ≤ d → d + sizeM [t] ≤ 100000 → BndM [t] → LfM [t] → Blk w F #[.int .i64 (n : Int)] 91 → EnvR w B1 B2 F y →
    Calls Tryz.prog 75 #[.pointer (some ⟨F, 0, none⟩), v, .int .i64 d, .func (.func 76) #[] #[.pointer (some ⟨B1, 0, none⟩), .pointer (some ⟨B2, 0, none⟩)]] w fun e w' => MkPost w F (higT y d t) n e w' := by
  induction t using Lm.ind with
  | h kd ix l ih =>
    intro n v d w X hv hXF hn hd0 hd1 hbn hlf hF hE
    obtain ⟨a, c, rfl, hs⟩ := hv
    obtain ⟨i0, hi0, hz0, hz1, hz2⟩ := info_parts Tryz.infoLam
    have IH := hide ih
    have HS := hide hs
    have HXF := hide hXF
    have HF := hide hF
    have HE := hide hE
    have hl := hs.1
    have hz : sizeM [(⟨kd, ix, l⟩ : Lm)] = 1 + sizeM l := by simp [sizeM]
    rw [hz] at hd1
    rw [BndM_cons] at hbn
    rw [LfM_cons] at hlf
    obtain ⟨⟨hx0, hx1⟩, hbn, _⟩ := hbn
    obtain ⟨hl1, hlf, _⟩ := hlf
    have HBN := hide hbn
    have HLF := hide hlf
    have hsml := sizeM_len l
    have hFl : F < w.heap.size := hF.lt
    have f0 : ∀ o, (w.alloc o).cell? ⟨F, 0, none⟩ = some (.int .i64 (n : Int)) := fun o => (HF.out.alloc o).cell 0
    have ff : ∀ o, (w.alloc o).frozen? ⟨F, 0, none⟩ = false := fun o => (HF.out.alloc o).frozen 0
    have f0' : ∀ o o', ((w.alloc o).alloc o').cell? ⟨F, 0, none⟩ = some (.int .i64 (n : Int)) := fun o o' => ((HF.out.alloc o).alloc o').cell 0
    have ff' : ∀ o o', ((w.alloc o).alloc o').frozen? ⟨F, 0, none⟩ = false := fun o o' => ((HF.out.alloc o).alloc o').frozen 0
    have hwn : IntKind.i64.wrap ((n : Int) - 1) = (n : Int) - 1 := by rw [IntKind.wrap_i64]; omega
    clear ih hs hz hbn hlf hXF hF hE
    by_cases k1 : kd = 1
    case pos =>
      subst k1
      have hl0 : l = [] := hl1 rfl
      by_cases hlt : ix < d
      · obtain ⟨L, hLd⟩ : ∃ L, L = higM y d l := ⟨_, rfl⟩
        have HT : Hid (higT y d ⟨1, ix, l⟩ = ⟨1, ix, L⟩) := by unfold Hid higT; rw [hLd, hl0]; simp [hlt, higM]
        have hnge : ¬ (d ≤ ix) := by omega
        clear hl0 hl1
        have HLL : Hid (L.length = l.length) := by unfold Hid; rw [hLd, higM_map]; simp
        have HLG : Hid (∀ k (h : k < l.length) (h' : k < L.length), L[k] = higT y (d) l[k]) := fun k h h' => by subst hLd; simp [higM_map]
        have hzL : sizeM [(⟨1, ix, L⟩ : Lm)] = 1 + sizeM L := by simp [sizeM]
        clear hLd
        go_enter Tryz.func75, Tryz.ntmps75
        go_wp2_with fail
        have E3 : Hid (MnSet w F (w.heap.size + 1 + 1) 1 ix (.slice none 0 0) #[.int .i64 ((n : Int) - 1)] ((((w.setCell ⟨F, 0, none⟩ (.int .i64 ((n : Int) - 1))).alloc (.cells #[.int .i64 1, .int .i64 ix, .slice a l.length c] 26)).alloc (.cells #[.int .i64 0, .int .i64 0, .slice none 0 0] 26)).alloc (.cells #[.int .i64 1, .int .i64 ix, .slice none 0 0] 26))) := by
          refine ⟨((((Ex.refl F w).set 0 _).alloc _).alloc _).alloc _, ?_, ?_, (((HF.out.set 0 _).alloc _).alloc _).alloc _, by simp [World.setCell]⟩
          · have h := (Blk.new ((w.setCell ⟨F, 0, none⟩ (.int .i64 ((n : Int) - 1))).alloc (.cells #[.int .i64 1, .int .i64 ix, .slice a l.length c] 26)) #[.int .i64 0, .int .i64 0, .slice none 0 0] 26).alloc (.cells #[.int .i64 1, .int .i64 ix, .slice none 0 0] 26)
            simpa [World.setCell] using h
          · have h := Blk.new (((w.setCell ⟨F, 0, none⟩ (.int .i64 ((n : Int) - 1))).alloc (.cells #[.int .i64 1, .int .i64 ix, .slice a l.length c] 26)).alloc (.cells #[.int .i64 0, .int .i64 0, .slice none 0 0] 26)) #[.int .i64 1, .int .i64 ix, .slice none 0 0] 26
            simpa [World.setCell] using h
        generalize ((((w.setCell ⟨F, 0, none⟩ (.int .i64 ((n : Int) - 1))).alloc (.cells #[.int .i64 1, .int .i64 ix, .slice a l.length c] 26)).alloc (.cells #[.int .i64 0, .int .i64 0, .slice none 0 0] 26)).alloc (.cells #[.int .i64 1, .int .i64 ix, .slice none 0 0] 26)) = w3 at *
        generalize hOe : w.heap.size + 1 + 1 = O at *
        have hO : w.heap.size + 2 ≤ O := by omega
        clear hOe f0 ff f0' ff'
        go_loopw [46] (fun i wr => MnInv w F O 1 ix L n i wr) (fun i wr => l.length - (intOf i).toNat)
        case atStart =>
          refine ⟨0, .slice none 0 0, Nat.zero_le _, rfl, ?_⟩
          by_cases hn0 : n = 0
          · subst hn0
            exact Or.inr ⟨by omega, E3.out, none, 0, 0, rfl⟩
          · refine Or.inl ⟨n - 1, [], by simp [sizeM]; omega, ?_, RowM.start _ _ _ _⟩
            rw [show ((n - 1 : Nat) : Int) = (n : Int) - 1 by omega]
            exact E3.out
        case round =>
          obtain ⟨k, u, hk, rfl, hcase⟩ := hrel
          have HKL := hide hk
          rw [HLL.out] at hk
          rcases hcase with ⟨m, xs, hm, hset, hrow⟩ | ⟨hbig, hset, a9, l9, c9, rfl⟩
          · have XS := hide hset
            have XW := hide hrow
            have HMM := hide hm
            clear hset hrow
            by_cases hlt : k < l.length
            · have hltL : k < L.length := by rw [HLL.out]; exact hlt
              obtain ⟨b, o, a', c', rfl, d0, d0', d1, hx⟩ := (HS.out.ex XS.out.1 HXF.out).get (Below.refl _ _) (fun _ _ h => h) k hlt
              obtain ⟨av, cv, ev, hsx⟩ := hx
              simp at ev
              obtain ⟨rfl, rfl⟩ := ev
              have hmn : m ≤ 9223372036854775807 := by omega
              have HOF : Hid (O ≠ F) := by unfold Hid; omega
              have HFO1 : Hid (F < O + 1) := by unfold Hid; omega
              have hsk : (L.take k).length = k := by simp; omega
              have hkn : k ≤ 1000000 := by omega
              have HL1 : Hid ((L.take k).length + 1 ≤ maxLen ∧ ((L.take k).length + 1) * 40 ≤ 140737488355328) := by unfold Hid; rw [hsk]; exact ⟨by unfold maxLen; omega, by omega⟩
              clear hsk
              have HLK : Hid (L[k] = higT y (d) l[k]) := HLG.out k hlt hltL
              have hszk : sizeM [l[k]] ≤ sizeM l := by
                have h1 := sizeM_take l k hlt
                have h2 := sizeM_take_le l (k + 1)
                omega
              have IHQ : Hid (Calls Tryz.prog 75 #[.pointer (some ⟨F, 0, none⟩), .agg #[.int .i64 l[k].kind, .int .i64 l[k].idx, .slice a' l[k].subs.length c'], .int .i64 (d), .func (.func 76) #[] #[.pointer (some ⟨B1, 0, none⟩), .pointer (some ⟨B2, 0, none⟩)]] (wr.alloc (.cells #[.int .i64 l[k].kind, .int .i64 l[k].idx, .slice a' l[k].subs.length c'] 26)).drew fun e w'' => MkPost (wr.alloc (.cells #[.int .i64 l[k].kind, .int .i64 l[k].idx, .slice a' l[k].subs.length c'] 26)).drew F (higT y (d) l[k]) m e w'') := (IH.out l[k] (List.getElem_mem hlt) m _ (d) _ X ⟨a', c', rfl, ((hsx.later ((Below.refl _ _).alloc (Nat.le_refl _) (.cells #[.int .i64 l[k].kind, .int .i64 l[k].idx, .slice a' l[k].subs.length c'] 26))).later ((Below.refl _ _).drew))⟩ HXF.out hmn (by omega) (by omega) (BndM.at k hlt HBN.out) (LfM.at k hlt HLF.out) (by exact ((XS.out.2.2.2.1.alloc _).drewN 1)) (HE.out.ex XS.out.1 h1F h2F |>.later ((Below.refl _ _).alloc (Nat.le_refl _) _) |>.later ((Below.refl _ _).drew)))
              have f0 : ∀ o, (wr.alloc o).cell? ⟨F, 0, none⟩ = some (.int .i64 (m : Int)) := fun o => (XS.out.2.2.2.1.alloc o).cell 0
              have o1 : ∀ o, (wr.alloc o).cell? ⟨O, 2, none⟩ = some u := fun o => (XS.out.2.2.1.alloc o).cell 2
              have hm0 : ¬ (m : Int) < 0 := by omega
              rw [← HLK.out] at IHQ
              by_cases hle : sizeM [L[k]] ≤ m
              · have IHG : Hid (Calls Tryz.prog 75 #[.pointer (some ⟨F, 0, none⟩), .agg #[.int .i64 l[k].kind, .int .i64 l[k].idx, .slice a' l[k].subs.length c'], .int .i64 (d), .func (.func 76) #[] #[.pointer (some ⟨B1, 0, none⟩), .pointer (some ⟨B2, 0, none⟩)]] (wr.alloc (.cells #[.int .i64 l[k].kind, .int .i64 l[k].idx, .slice a' l[k].subs.length c'] 26)).drew fun e w'' => ∃ a1 c1, e = .returned (.agg #[.int .i64 L[k].kind, .int .i64 L[k].idx, .slice a1 L[k].subs.length c1]) ∧ Blk w'' F #[.int .i64 ((m : Int) - sizeM [L[k]])] 91 ∧ Ex F wr w'' ∧ SlM w'' (fun b => wr.heap.size ≤ b) a1 L[k].subs) := IHQ.out.mono fun e w'' hp => by
                  obtain ⟨s1, s2, a1, l1, c1, m1, h1, h2, h3, h4, _⟩ := hp
                  obtain ⟨rfl, rfl, rfl, rfl, h5⟩ := h4 hle
                  exact ⟨a1, c1, h1, h2, (((Ex.refl F wr).alloc _).drew).trans h3, h5.mono fun b hb _ => by simp at hb; omega⟩
                clear IHQ
                have HLE := hide hle
                have HLL2 := hide hltL
                clear hle HLK hszk hx0 hx1 hd0 hd1 hsml hkn hmn
                go_wp2_with fail
                go_region_law (first
                  | (go_simp; go_at_call 75; refine IHG.out.mono ?_; rintro e w1 ⟨a1, c1, rfl, hF1, he1, hs1⟩; have hc3 : ∀ o, (w1.alloc o).cell? ⟨O, 2, none⟩ = some u := fun o => ((Blk.ex XS.out.2.2.1 he1 HOF.out).alloc o).cell 2; have hc4 : w1.cell? ⟨O, 2, none⟩ = some u := (Blk.ex XS.out.2.2.1 he1 HOF.out).cell 2)
                  | (refine step_append_lies _ rfl _ _ 24 rfl (O + 1) 26 i0 _ 3 40 Tryz.underlying24 hi0 hz0 hz1 hz2 rfl (by decide) u (L.take k).length xs rfl (by exact (RowM.ex (B := F) XW.out he1 HFO1.out (fun h => h)).own.alloc _) ⟨w1.heap.size, 0, none⟩ 1 1 [.int .i64 L[k].kind, .int .i64 L[k].idx, .slice a1 L[k].subs.length c1] rfl rfl (cell_lam_new _ _ _ _ _) (fun x hx => by simp at hx; rcases hx with rfl | rfl | rfl <;> rfl) (by decide) HL1.out.1 HL1.out.2 (by have := he1.size; have := XS.out.2.2.2.2; simp; omega) _ rfl ?_; intro g cap w3 hown3 hgrow3 hat3 hlt3; have hB3 := hide (((Blk.ex XS.out.2.2.1 he1 HOF.out).alloc _).grown hgrow3 (XW.out.ne (Nat.lt_succ_self _))); have hc5 : w3.cell? ⟨O, 2, none⟩ = some u := hB3.out.cell 2; have hf5 := hB3.out.frozen 2))
                all_goals
                  have HK := hide (mn_set (v := .slice (some ⟨g, 0, none⟩) ((L.take k).length + 1) cap) hFl hO XS.out (fun j hj => (XW.out.own.lt j hj).1) he1 hF1 hgrow3)
                  have HRW := hide (mn_row (t := L[k]) (by omega) XS.out.2.2.2.2 XW.out he1 ⟨a1, c1, rfl, hs1⟩ hown3 hgrow3 hat3)
                  clear hown3 hgrow3 hat3 hc3 hc4 hc5 hf5 hB3 hF1 he1 hs1 hlt3
                  go_wp2_with fail
                  go_roundw
                  case rel =>
                    have hkl : (L.take k).length = k := by simp; omega
                    have hmin : min k L.length = k := Nat.min_eq_left (by have := HKL.out; omega)
                    simp only [hmin]
                    have h1 := HK.out
                    have h2 := HRW.out
                    have hmm := HMM.out
                    have hle := HLE.out
                    simp only [hkl] at h1 h2
                    obtain ⟨m', hm'⟩ : ∃ m' : Nat, (m' : Int) = (m : Int) - sizeM [L[k]] := ⟨m - sizeM [L[k]], by omega⟩
                    refine ⟨k + 1, .slice (some ⟨g, 0, none⟩) (k + 1) cap, by omega, by go_num, Or.inl ⟨m', xs ++ [.int .i64 L[k].kind, .int .i64 L[k].idx, .slice a1 L[k].subs.length c1], by rw [sizeM_take L k hltL]; omega, ?_, ?_⟩⟩
                    · rw [hm']
                      exact h1
                    · rw [List.take_succ_eq_append_getElem hltL]
                      exact h2
                  case measure => simp [intOf]; omega
              · have IHG : Hid (Calls Tryz.prog 75 #[.pointer (some ⟨F, 0, none⟩), .agg #[.int .i64 l[k].kind, .int .i64 l[k].idx, .slice a' l[k].subs.length c'], .int .i64 (d), .func (.func 76) #[] #[.pointer (some ⟨B1, 0, none⟩), .pointer (some ⟨B2, 0, none⟩)]] (wr.alloc (.cells #[.int .i64 l[k].kind, .int .i64 l[k].idx, .slice a' l[k].subs.length c'] 26)).drew fun e w'' => ∃ s1 s2 a1 l1 c1, e = .returned (.agg #[.int .i64 s1, .int .i64 s2, .slice a1 l1 c1]) ∧ Blk w'' F #[.int .i64 (-1)] 91 ∧ Ex F wr w'') := IHQ.out.mono fun e w'' hp => by
                  obtain ⟨s1, s2, a1, l1, c1, m1, h1, h2, h3, _, h4⟩ := hp
                  obtain rfl := h4 (by omega)
                  exact ⟨s1, s2, a1, l1, c1, h1, h2, (((Ex.refl F wr).alloc _).drew).trans h3⟩
                clear IHQ
                have HLE := hide hle
                have HLL2 := hide hltL
                clear hle HLK hszk hx0 hx1 hd0 hd1 hsml hkn hmn
                go_wp2_with fail
                go_region_law (first
                  | (go_simp; go_at_call 75; refine IHG.out.mono ?_; rintro e w1 ⟨s1, s2, a1, l1, c1, rfl, hF1, he1⟩; have hc3 : ∀ o, (w1.alloc o).cell? ⟨O, 2, none⟩ = some u := fun o => ((Blk.ex XS.out.2.2.1 he1 HOF.out).alloc o).cell 2; have hc4 : w1.cell? ⟨O, 2, none⟩ = some u := (Blk.ex XS.out.2.2.1 he1 HOF.out).cell 2)
                  | (refine step_append_lies _ rfl _ _ 24 rfl (O + 1) 26 i0 _ 3 40 Tryz.underlying24 hi0 hz0 hz1 hz2 rfl (by decide) u (L.take k).length xs rfl (by exact (RowM.ex (B := F) XW.out he1 HFO1.out (fun h => h)).own.alloc _) ⟨w1.heap.size, 0, none⟩ 1 1 [.int .i64 s1, .int .i64 s2, .slice a1 l1 c1] rfl rfl (cell_lam_new _ _ _ _ _) (fun x hx => by simp at hx; rcases hx with rfl | rfl | rfl <;> rfl) (by decide) HL1.out.1 HL1.out.2 (by have := he1.size; have := XS.out.2.2.2.2; simp; omega) _ rfl ?_; intro g cap w3 hown3 hgrow3 hat3 hlt3; have hB3 := hide (((Blk.ex XS.out.2.2.1 he1 HOF.out).alloc _).grown hgrow3 (XW.out.ne (Nat.lt_succ_self _))); have hc5 : w3.cell? ⟨O, 2, none⟩ = some u := hB3.out.cell 2; have hf5 := hB3.out.frozen 2))
                all_goals
                  have HK := hide (mn_set (v := .slice (some ⟨g, 0, none⟩) ((L.take k).length + 1) cap) hFl hO XS.out (fun j hj => (XW.out.own.lt j hj).1) he1 hF1 hgrow3)
                  clear hown3 hgrow3 hat3 hc3 hc4 hc5 hf5 hB3 hF1 he1 hlt3
                  go_wp2_with fail
                  go_roundw
                  case rel =>
                    have hkl : (L.take k).length = k := by simp; omega
                    have hmin : min k L.length = k := Nat.min_eq_left (by have := HKL.out; omega)
                    simp only [hmin]
                    have h0 := HK.out
                    have hmm := HMM.out
                    have hle := HLE.out
                    simp only [hkl] at h0
                    refine ⟨k + 1, .slice (some ⟨g, 0, none⟩) (k + 1) cap, by omega, by go_num, Or.inr ⟨?_, h0, _, _, _, rfl⟩⟩
                    have h1 := sizeM_take L k hltL
                    have h2 := sizeM_take_le L (k + 1)
                    omega
                  case measure => simp [intOf]; omega
            · have htk : L.take k = L := List.take_of_length_le (by rw [HLL.out]; omega)
              rw [htk] at XW HMM
              obtain ⟨a9, c9, hu9, hsl9⟩ := XW.out.sl
              subst hu9
              have S9 := hide hsl9
              clear hsl9
              have r0 : wr.cell? ⟨w.heap.size + 1, 0, none⟩ = some (.int .i64 0) := XS.out.2.1.cell 0
              have r1 : wr.cell? ⟨w.heap.size + 1, 1, none⟩ = some (.int .i64 0) := XS.out.2.1.cell 1
              have r2 : wr.cell? ⟨w.heap.size + 1, 2, none⟩ = some (.slice none 0 0) := XS.out.2.1.cell 2
              have rf := XS.out.2.1.frozen
              have hRl : w.heap.size + 1 < wr.heap.size := XS.out.2.1.lt
              have o0 : wr.cell? ⟨O, 0, none⟩ = some (.int .i64 1) := XS.out.2.2.1.cell 0
              have o1 : wr.cell? ⟨O, 1, none⟩ = some (.int .i64 ix) := XS.out.2.2.1.cell 1
              have o2 : wr.cell? ⟨O, 2, none⟩ = some (.slice a9 L.length c9) := XS.out.2.2.1.cell 2
              go_wp2_with fail
              refine bodyPost_ret (v := .agg #[.int .i64 1, .int .i64 ix, .slice a9 L.length c9]) (by simp [results, Tryz.results75, go_sem, World.cell?_setCell_same, World.cell?_setCell_other, r0, r1, r2, hRl]) rfl ?_
              have hmm := HMM.out
              rw [HT.out]
              refine ⟨1, ix, a9, L.length, c9, m, rfl, ((XS.out.2.2.2.1.setOther _ _ (by omega)).setOther _ _ (by omega)).setOther _ _ (by omega), ((XS.out.1.setNew (by omega) _ _).setNew (by omega) _ _).setNew (by omega) _ _, fun h => ⟨by rw [hzL]; omega, rfl, rfl, rfl, (S9.out.kept fun b hb => ?_).mono fun b hb _ => ?_⟩, fun h => by omega⟩
              · have hb' : O + 1 ≤ b := hb.elim False.elim id
                rw [Below.heap_setCell _ _ _ _ (by simp; omega), Below.heap_setCell _ _ _ _ (by simp; omega), Below.heap_setCell _ _ _ _ (by simp; omega)]
              · have hb' : O + 1 ≤ b := hb.elim False.elim id
                omega
          · have XS := hide hset
            clear hset
            have f0 : ∀ o, (wr.alloc o).cell? ⟨F, 0, none⟩ = some (.int .i64 (-1)) := fun o => (XS.out.2.2.2.1.alloc o).cell 0
            have r0 : wr.cell? ⟨w.heap.size + 1, 0, none⟩ = some (.int .i64 0) := XS.out.2.1.cell 0
            have r1 : wr.cell? ⟨w.heap.size + 1, 1, none⟩ = some (.int .i64 0) := XS.out.2.1.cell 1
            have r2 : wr.cell? ⟨w.heap.size + 1, 2, none⟩ = some (.slice none 0 0) := XS.out.2.1.cell 2
            have rf := XS.out.2.1.frozen
            have hRl : w.heap.size + 1 < wr.heap.size := XS.out.2.1.lt
            by_cases hlt : k < l.length
            · obtain ⟨b, o, a', c', rfl, d0, d0', d1, hx⟩ := (HS.out.ex XS.out.1 HXF.out).get (Below.refl _ _) (fun _ _ h => h) k hlt
              clear hx
              have o0 : ∀ o, (wr.alloc o).cell? ⟨O, 0, none⟩ = some (.int .i64 1) := fun o => (XS.out.2.2.1.alloc o).cell 0
              have o1 : ∀ o, (wr.alloc o).cell? ⟨O, 1, none⟩ = some (.int .i64 ix) := fun o => (XS.out.2.2.1.alloc o).cell 1
              have o2 : ∀ o, (wr.alloc o).cell? ⟨O, 2, none⟩ = some (.slice a9 l9 c9) := fun o => (XS.out.2.2.1.alloc o).cell 2
              go_wp2_with fail
              refine bodyPost_ret (v := .agg #[.int .i64 1, .int .i64 ix, .slice a9 l9 c9]) (by simp [results, Tryz.results75, go_sem, World.cell?_setCell_same, World.cell?_setCell_other, r0, r1, r2, hRl, World.cell?_alloc_old]) rfl ?_
              rw [HT.out]
              exact ⟨1, ix, a9, l9, c9, -1, rfl, (((XS.out.2.2.2.1.setOther _ _ (by omega)).setOther _ _ (by omega)).setOther _ _ (by omega)).alloc _, (((XS.out.1.setNew (by omega) _ _).setNew (by omega) _ _).setNew (by omega) _ _).alloc _, fun h => by omega, fun _ => rfl⟩
            · have o0 : wr.cell? ⟨O, 0, none⟩ = some (.int .i64 1) := XS.out.2.2.1.cell 0
              have o1 : wr.cell? ⟨O, 1, none⟩ = some (.int .i64 ix) := XS.out.2.2.1.cell 1
              have o2 : wr.cell? ⟨O, 2, none⟩ = some (.slice a9 l9 c9) := XS.out.2.2.1.cell 2
              go_wp2_with fail
              refine bodyPost_ret (v := .agg #[.int .i64 1, .int .i64 ix, .slice a9 l9 c9]) (by simp [results, Tryz.results75, go_sem, World.cell?_setCell_same, World.cell?_setCell_other, r0, r1, r2, hRl]) rfl ?_
              rw [HT.out]
              exact ⟨1, ix, a9, l9, c9, -1, rfl, ((XS.out.2.2.2.1.setOther _ _ (by omega)).setOther _ _ (by omega)).setOther _ _ (by omega), ((XS.out.1.setNew (by omega) _ _).setNew (by omega) _ _).setNew (by omega) _ _, fun h => by omega, fun _ => rfl⟩
      · have hge : d ≤ ix := by omega
        have HT : Hid (higT y d ⟨1, ix, l⟩ = ⟨1, ix + y, []⟩) := by unfold Hid higT; simp [hlt]
        have HC := hide (raise1_any F B1 B2 y ix d n ((w.alloc (.cells #[.int .i64 1, .int .i64 ix, .slice a l.length c] 26)).alloc (.cells #[.int .i64 0, .int .i64 0, .slice none 0 0] 26)) hn (by omega) (by omega) hy0 hy1 ((HF.out.alloc _).alloc _) h1F h2F ((HE.out.later ((Below.refl _ _).alloc (Nat.le_refl _) _)).later ((Below.refl _ _).alloc (Nat.le_refl _) _)))
        clear hl0 hl1
        go_enter Tryz.func75, Tryz.ntmps75
        go_wp2_with fail
        refine HC.out.mono ?_
        rintro e w1 ⟨k', x', a', l', c', m, rfl, hF1, hx1, hy1, hn1⟩
        have R1 : Hid (Blk w1 (w.heap.size + 1) #[.int .i64 0, .int .i64 0, .slice none 0 0] 26) := by
          have h := (Blk.new (w.alloc (.cells #[.int .i64 1, .int .i64 ix, .slice a l.length c] 26)) #[.int .i64 0, .int .i64 0, .slice none 0 0] 26).ex hx1 (by simp; omega)
          rw [World.size_alloc] at h
          exact h
        have HX := hide ((((Ex.refl F w).alloc (.cells #[.int .i64 1, .int .i64 ix, .slice a l.length c] 26)).alloc (.cells #[.int .i64 0, .int .i64 0, .slice none 0 0] 26)).trans hx1)
        have HF1 := hide hF1
        have HY := hide hy1
        have HN := hide hn1
        clear hF1 hx1 hy1 hn1
        have r0 : w1.cell? ⟨w.heap.size + 1, 0, none⟩ = some (.int .i64 0) := R1.out.cell 0
        have r1 : w1.cell? ⟨w.heap.size + 1, 1, none⟩ = some (.int .i64 0) := R1.out.cell 1
        have r2 : w1.cell? ⟨w.heap.size + 1, 2, none⟩ = some (.slice none 0 0) := R1.out.cell 2
        have rf := R1.out.frozen
        have hRl := R1.out.lt
        go_wp2_with fail
        refine bodyPost_ret (v := .agg #[.int .i64 k', .int .i64 x', .slice a' l' c']) (by simp [results, Tryz.results75, go_sem, World.cell?_setCell_same, World.cell?_setCell_other, r0, r1, r2, hRl]) rfl ?_
        rw [HT.out]
        exact mk_end (W := (w.alloc (.cells #[.int .i64 1, .int .i64 ix, .slice a l.length c] 26)).alloc (.cells #[.int .i64 0, .int .i64 0, .slice none 0 0] 26)) hFl (by omega) (by simp) HF1.out HX.out HY.out HN.out
    case neg =>
      have e1 : (kd == 1) = false := by simpa using k1
      clear hl1
      by_cases k2 : kd = 2
      case pos =>
        subst k2
        obtain ⟨L, hLd⟩ : ∃ L, L = higM y (d + 1) l := ⟨_, rfl⟩
        have hw1 : IntKind.i64.wrap (d + 1) = d + 1 := by rw [IntKind.wrap_i64]; omega
        have HT : Hid (higT y d ⟨2, ix, l⟩ = ⟨2, ix, L⟩) := by unfold Hid higT; rw [hLd]; simp [deepK]
        have HLL : Hid (L.length = l.length) := by unfold Hid; rw [hLd, higM_map]; simp
        have HLG : Hid (∀ k (h : k < l.length) (h' : k < L.length), L[k] = higT y (d + 1) l[k]) := fun k h h' => by subst hLd; simp [higM_map]
        have hzL : sizeM [(⟨2, ix, L⟩ : Lm)] = 1 + sizeM L := by simp [sizeM]
        clear hLd
        go_enter Tryz.func75, Tryz.ntmps75
        go_wp2_with fail
        have E3 : Hid (MnSet w F (w.heap.size + 1 + 1) 2 ix (.slice none 0 0) #[.int .i64 ((n : Int) - 1)] ((((w.setCell ⟨F, 0, none⟩ (.int .i64 ((n : Int) - 1))).alloc (.cells #[.int .i64 2, .int .i64 ix, .slice a l.length c] 26)).alloc (.cells #[.int .i64 0, .int .i64 0, .slice none 0 0] 26)).alloc (.cells #[.int .i64 2, .int .i64 ix, .slice none 0 0] 26))) := by
          refine ⟨((((Ex.refl F w).set 0 _).alloc _).alloc _).alloc _, ?_, ?_, (((HF.out.set 0 _).alloc _).alloc _).alloc _, by simp [World.setCell]⟩
          · have h := (Blk.new ((w.setCell ⟨F, 0, none⟩ (.int .i64 ((n : Int) - 1))).alloc (.cells #[.int .i64 2, .int .i64 ix, .slice a l.length c] 26)) #[.int .i64 0, .int .i64 0, .slice none 0 0] 26).alloc (.cells #[.int .i64 2, .int .i64 ix, .slice none 0 0] 26)
            simpa [World.setCell] using h
          · have h := Blk.new (((w.setCell ⟨F, 0, none⟩ (.int .i64 ((n : Int) - 1))).alloc (.cells #[.int .i64 2, .int .i64 ix, .slice a l.length c] 26)).alloc (.cells #[.int .i64 0, .int .i64 0, .slice none 0 0] 26)) #[.int .i64 2, .int .i64 ix, .slice none 0 0] 26
            simpa [World.setCell] using h
        generalize ((((w.setCell ⟨F, 0, none⟩ (.int .i64 ((n : Int) - 1))).alloc (.cells #[.int .i64 2, .int .i64 ix, .slice a l.length c] 26)).alloc (.cells #[.int .i64 0, .int .i64 0, .slice none 0 0] 26)).alloc (.cells #[.int .i64 2, .int .i64 ix, .slice none 0 0] 26)) = w3 at *
        generalize hOe : w.heap.size + 1 + 1 = O at *
        have hO : w.heap.size + 2 ≤ O := by omega
        clear hOe f0 ff f0' ff'
        go_loopw [46] (fun i wr => MnInv w F O 2 ix L n i wr) (fun i wr => l.length - (intOf i).toNat)
        case atStart =>
          refine ⟨0, .slice none 0 0, Nat.zero_le _, rfl, ?_⟩
          by_cases hn0 : n = 0
          · subst hn0
            exact Or.inr ⟨by omega, E3.out, none, 0, 0, rfl⟩
          · refine Or.inl ⟨n - 1, [], by simp [sizeM]; omega, ?_, RowM.start _ _ _ _⟩
            rw [show ((n - 1 : Nat) : Int) = (n : Int) - 1 by omega]
            exact E3.out
        case round =>
          obtain ⟨k, u, hk, rfl, hcase⟩ := hrel
          have HKL := hide hk
          rw [HLL.out] at hk
          rcases hcase with ⟨m, xs, hm, hset, hrow⟩ | ⟨hbig, hset, a9, l9, c9, rfl⟩
          · have XS := hide hset
            have XW := hide hrow
            have HMM := hide hm
            clear hset hrow
            by_cases hlt : k < l.length
            · have hltL : k < L.length := by rw [HLL.out]; exact hlt
              obtain ⟨b, o, a', c', rfl, d0, d0', d1, hx⟩ := (HS.out.ex XS.out.1 HXF.out).get (Below.refl _ _) (fun _ _ h => h) k hlt
              obtain ⟨av, cv, ev, hsx⟩ := hx
              simp at ev
              obtain ⟨rfl, rfl⟩ := ev
              have hmn : m ≤ 9223372036854775807 := by omega
              have HOF : Hid (O ≠ F) := by unfold Hid; omega
              have HFO1 : Hid (F < O + 1) := by unfold Hid; omega
              have hsk : (L.take k).length = k := by simp; omega
              have hkn : k ≤ 1000000 := by omega
              have HL1 : Hid ((L.take k).length + 1 ≤ maxLen ∧ ((L.take k).length + 1) * 40 ≤ 140737488355328) := by unfold Hid; rw [hsk]; exact ⟨by unfold maxLen; omega, by omega⟩
              clear hsk
              have HLK : Hid (L[k] = higT y (d + 1) l[k]) := HLG.out k hlt hltL
              have hszk : sizeM [l[k]] ≤ sizeM l := by
                have h1 := sizeM_take l k hlt
                have h2 := sizeM_take_le l (k + 1)
                omega
              have IHQ : Hid (Calls Tryz.prog 75 #[.pointer (some ⟨F, 0, none⟩), .agg #[.int .i64 l[k].kind, .int .i64 l[k].idx, .slice a' l[k].subs.length c'], .int .i64 (d + 1), .func (.func 76) #[] #[.pointer (some ⟨B1, 0, none⟩), .pointer (some ⟨B2, 0, none⟩)]] (wr.alloc (.cells #[.int .i64 l[k].kind, .int .i64 l[k].idx, .slice a' l[k].subs.length c'] 26)).drew fun e w'' => MkPost (wr.alloc (.cells #[.int .i64 l[k].kind, .int .i64 l[k].idx, .slice a' l[k].subs.length c'] 26)).drew F (higT y (d + 1) l[k]) m e w'') := (IH.out l[k] (List.getElem_mem hlt) m _ (d + 1) _ X ⟨a', c', rfl, ((hsx.later ((Below.refl _ _).alloc (Nat.le_refl _) (.cells #[.int .i64 l[k].kind, .int .i64 l[k].idx, .slice a' l[k].subs.length c'] 26))).later ((Below.refl _ _).drew))⟩ HXF.out hmn (by omega) (by omega) (BndM.at k hlt HBN.out) (LfM.at k hlt HLF.out) (by exact ((XS.out.2.2.2.1.alloc _).drewN 1)) (HE.out.ex XS.out.1 h1F h2F |>.later ((Below.refl _ _).alloc (Nat.le_refl _) _) |>.later ((Below.refl _ _).drew)))
              have f0 : ∀ o, (wr.alloc o).cell? ⟨F, 0, none⟩ = some (.int .i64 (m : Int)) := fun o => (XS.out.2.2.2.1.alloc o).cell 0
              have o1 : ∀ o, (wr.alloc o).cell? ⟨O, 2, none⟩ = some u := fun o => (XS.out.2.2.1.alloc o).cell 2
              have hm0 : ¬ (m : Int) < 0 := by omega
              rw [← HLK.out] at IHQ
              by_cases hle : sizeM [L[k]] ≤ m
              · have IHG : Hid (Calls Tryz.prog 75 #[.pointer (some ⟨F, 0, none⟩), .agg #[.int .i64 l[k].kind, .int .i64 l[k].idx, .slice a' l[k].subs.length c'], .int .i64 (d + 1), .func (.func 76) #[] #[.pointer (some ⟨B1, 0, none⟩), .pointer (some ⟨B2, 0, none⟩)]] (wr.alloc (.cells #[.int .i64 l[k].kind, .int .i64 l[k].idx, .slice a' l[k].subs.length c'] 26)).drew fun e w'' => ∃ a1 c1, e = .returned (.agg #[.int .i64 L[k].kind, .int .i64 L[k].idx, .slice a1 L[k].subs.length c1]) ∧ Blk w'' F #[.int .i64 ((m : Int) - sizeM [L[k]])] 91 ∧ Ex F wr w'' ∧ SlM w'' (fun b => wr.heap.size ≤ b) a1 L[k].subs) := IHQ.out.mono fun e w'' hp => by
                  obtain ⟨s1, s2, a1, l1, c1, m1, h1, h2, h3, h4, _⟩ := hp
                  obtain ⟨rfl, rfl, rfl, rfl, h5⟩ := h4 hle
                  exact ⟨a1, c1, h1, h2, (((Ex.refl F wr).alloc _).drew).trans h3, h5.mono fun b hb _ => by simp at hb; omega⟩
                clear IHQ
                have HLE := hide hle
                have HLL2 := hide hltL
                clear hle HLK hszk hx0 hx1 hd0 hd1 hsml hkn hmn
                go_wp2_with fail
                go_region_law (first
                  | (go_simp; go_at_call 75; refine IHG.out.mono ?_; rintro e w1 ⟨a1, c1, rfl, hF1, he1, hs1⟩; have hc3 : ∀ o, (w1.alloc o).cell? ⟨O, 2, none⟩ = some u := fun o => ((Blk.ex XS.out.2.2.1 he1 HOF.out).alloc o).cell 2; have hc4 : w1.cell? ⟨O, 2, none⟩ = some u := (Blk.ex XS.out.2.2.1 he1 HOF.out).cell 2)
                  | (refine step_append_lies _ rfl _ _ 24 rfl (O + 1) 26 i0 _ 3 40 Tryz.underlying24 hi0 hz0 hz1 hz2 rfl (by decide) u (L.take k).length xs rfl (by exact (RowM.ex (B := F) XW.out he1 HFO1.out (fun h => h)).own.alloc _) ⟨w1.heap.size, 0, none⟩ 1 1 [.int .i64 L[k].kind, .int .i64 L[k].idx, .slice a1 L[k].subs.length c1] rfl rfl (cell_lam_new _ _ _ _ _) (fun x hx => by simp at hx; rcases hx with rfl | rfl | rfl <;> rfl) (by decide) HL1.out.1 HL1.out.2 (by have := he1.size; have := XS.out.2.2.2.2; simp; omega) _ rfl ?_; intro g cap w3 hown3 hgrow3 hat3 hlt3; have hB3 := hide (((Blk.ex XS.out.2.2.1 he1 HOF.out).alloc _).grown hgrow3 (XW.out.ne (Nat.lt_succ_self _))); have hc5 : w3.cell? ⟨O, 2, none⟩ = some u := hB3.out.cell 2; have hf5 := hB3.out.frozen 2))
                all_goals
                  have HK := hide (mn_set (v := .slice (some ⟨g, 0, none⟩) ((L.take k).length + 1) cap) hFl hO XS.out (fun j hj => (XW.out.own.lt j hj).1) he1 hF1 hgrow3)
                  have HRW := hide (mn_row (t := L[k]) (by omega) XS.out.2.2.2.2 XW.out he1 ⟨a1, c1, rfl, hs1⟩ hown3 hgrow3 hat3)
                  clear hown3 hgrow3 hat3 hc3 hc4 hc5 hf5 hB3 hF1 he1 hs1 hlt3
                  go_wp2_with fail
                  go_roundw
                  case rel =>
                    have hkl : (L.take k).length = k := by simp; omega
                    have hmin : min k L.length = k := Nat.min_eq_left (by have := HKL.out; omega)
                    simp only [hmin]
                    have h1 := HK.out
                    have h2 := HRW.out
                    have hmm := HMM.out
                    have hle := HLE.out
                    simp only [hkl] at h1 h2
                    obtain ⟨m', hm'⟩ : ∃ m' : Nat, (m' : Int) = (m : Int) - sizeM [L[k]] := ⟨m - sizeM [L[k]], by omega⟩
                    refine ⟨k + 1, .slice (some ⟨g, 0, none⟩) (k + 1) cap, by omega, by go_num, Or.inl ⟨m', xs ++ [.int .i64 L[k].kind, .int .i64 L[k].idx, .slice a1 L[k].subs.length c1], by rw [sizeM_take L k hltL]; omega, ?_, ?_⟩⟩
                    · rw [hm']
                      exact h1
                    · rw [List.take_succ_eq_append_getElem hltL]
                      exact h2
                  case measure => simp [intOf]; omega
              · have IHG : Hid (Calls Tryz.prog 75 #[.pointer (some ⟨F, 0, none⟩), .agg #[.int .i64 l[k].kind, .int .i64 l[k].idx, .slice a' l[k].subs.length c'], .int .i64 (d + 1), .func (.func 76) #[] #[.pointer (some ⟨B1, 0, none⟩), .pointer (some ⟨B2, 0, none⟩)]] (wr.alloc (.cells #[.int .i64 l[k].kind, .int .i64 l[k].idx, .slice a' l[k].subs.length c'] 26)).drew fun e w'' => ∃ s1 s2 a1 l1 c1, e = .returned (.agg #[.int .i64 s1, .int .i64 s2, .slice a1 l1 c1]) ∧ Blk w'' F #[.int .i64 (-1)] 91 ∧ Ex F wr w'') := IHQ.out.mono fun e w'' hp => by
                  obtain ⟨s1, s2, a1, l1, c1, m1, h1, h2, h3, _, h4⟩ := hp
                  obtain rfl := h4 (by omega)
                  exact ⟨s1, s2, a1, l1, c1, h1, h2, (((Ex.refl F wr).alloc _).drew).trans h3⟩
                clear IHQ
                have HLE := hide hle
                have HLL2 := hide hltL
                clear hle HLK hszk hx0 hx1 hd0 hd1 hsml hkn hmn
                go_wp2_with fail
                go_region_law (first
                  | (go_simp; go_at_call 75; refine IHG.out.mono ?_; rintro e w1 ⟨s1, s2, a1, l1, c1, rfl, hF1, he1⟩; have hc3 : ∀ o, (w1.alloc o).cell? ⟨O, 2, none⟩ = some u := fun o => ((Blk.ex XS.out.2.2.1 he1 HOF.out).alloc o).cell 2; have hc4 : w1.cell? ⟨O, 2, none⟩ = some u := (Blk.ex XS.out.2.2.1 he1 HOF.out).cell 2)
                  | (refine step_append_lies _ rfl _ _ 24 rfl (O + 1) 26 i0 _ 3 40 Tryz.underlying24 hi0 hz0 hz1 hz2 rfl (by decide) u (L.take k).length xs rfl (by exact (RowM.ex (B := F) XW.out he1 HFO1.out (fun h => h)).own.alloc _) ⟨w1.heap.size, 0, none⟩ 1 1 [.int .i64 s1, .int .i64 s2, .slice a1 l1 c1] rfl rfl (cell_lam_new _ _ _ _ _) (fun x hx => by simp at hx; rcases hx with rfl | rfl | rfl <;> rfl) (by decide) HL1.out.1 HL1.out.2 (by have := he1.size; have := XS.out.2.2.2.2; simp; omega) _ rfl ?_; intro g cap w3 hown3 hgrow3 hat3 hlt3; have hB3 := hide (((Blk.ex XS.out.2.2.1 he1 HOF.out).alloc _).grown hgrow3 (XW.out.ne (Nat.lt_succ_self _))); have hc5 : w3.cell? ⟨O, 2, none⟩ = some u := hB3.out.cell 2; have hf5 := hB3.out.frozen 2))
                all_goals
                  have HK := hide (mn_set (v := .slice (some ⟨g, 0, none⟩) ((L.take k).length + 1) cap) hFl hO XS.out (fun j hj => (XW.out.own.lt j hj).1) he1 hF1 hgrow3)
                  clear hown3 hgrow3 hat3 hc3 hc4 hc5 hf5 hB3 hF1 he1 hlt3
                  go_wp2_with fail
                  go_roundw
                  case rel =>
                    have hkl : (L.take k).length = k := by simp; omega
                    have hmin : min k L.length = k := Nat.min_eq_left (by have := HKL.out; omega)
                    simp only [hmin]
                    have h0 := HK.out
                    have hmm := HMM.out
                    have hle := HLE.out
                    simp only [hkl] at h0
                    refine ⟨k + 1, .slice (some ⟨g, 0, none⟩) (k + 1) cap, by omega, by go_num, Or.inr ⟨?_, h0, _, _, _, rfl⟩⟩
                    have h1 := sizeM_take L k hltL
                    have h2 := sizeM_take_le L (k + 1)
                    omega
                  case measure => simp [intOf]; omega
            · have htk : L.take k = L := List.take_of_length_le (by rw [HLL.out]; omega)
              rw [htk] at XW HMM
              obtain ⟨a9, c9, hu9, hsl9⟩ := XW.out.sl
              subst hu9
              have S9 := hide hsl9
              clear hsl9
              have r0 : wr.cell? ⟨w.heap.size + 1, 0, none⟩ = some (.int .i64 0) := XS.out.2.1.cell 0
              have r1 : wr.cell? ⟨w.heap.size + 1, 1, none⟩ = some (.int .i64 0) := XS.out.2.1.cell 1
              have r2 : wr.cell? ⟨w.heap.size + 1, 2, none⟩ = some (.slice none 0 0) := XS.out.2.1.cell 2
              have rf := XS.out.2.1.frozen
              have hRl : w.heap.size + 1 < wr.heap.size := XS.out.2.1.lt
              have o0 : wr.cell? ⟨O, 0, none⟩ = some (.int .i64 2) := XS.out.2.2.1.cell 0
              have o1 : wr.cell? ⟨O, 1, none⟩ = some (.int .i64 ix) := XS.out.2.2.1.cell 1
              have o2 : wr.cell? ⟨O, 2, none⟩ = some (.slice a9 L.length c9) := XS.out.2.2.1.cell 2
              go_wp2_with fail
              refine bodyPost_ret (v := .agg #[.int .i64 2, .int .i64 ix, .slice a9 L.length c9]) (by simp [results, Tryz.results75, go_sem, World.cell?_setCell_same, World.cell?_setCell_other, r0, r1, r2, hRl]) rfl ?_
              have hmm := HMM.out
              rw [HT.out]
              refine ⟨2, ix, a9, L.length, c9, m, rfl, ((XS.out.2.2.2.1.setOther _ _ (by omega)).setOther _ _ (by omega)).setOther _ _ (by omega), ((XS.out.1.setNew (by omega) _ _).setNew (by omega) _ _).setNew (by omega) _ _, fun h => ⟨by rw [hzL]; omega, rfl, rfl, rfl, (S9.out.kept fun b hb => ?_).mono fun b hb _ => ?_⟩, fun h => by omega⟩
              · have hb' : O + 1 ≤ b := hb.elim False.elim id
                rw [Below.heap_setCell _ _ _ _ (by simp; omega), Below.heap_setCell _ _ _ _ (by simp; omega), Below.heap_setCell _ _ _ _ (by simp; omega)]
              · have hb' : O + 1 ≤ b := hb.elim False.elim id
                omega
          · have XS := hide hset
            clear hset
            have f0 : ∀ o, (wr.alloc o).cell? ⟨F, 0, none⟩ = some (.int .i64 (-1)) := fun o => (XS.out.2.2.2.1.alloc o).cell 0
            have r0 : wr.cell? ⟨w.heap.size + 1, 0, none⟩ = some (.int .i64 0) := XS.out.2.1.cell 0
            have r1 : wr.cell? ⟨w.heap.size + 1, 1, none⟩ = some (.int .i64 0) := XS.out.2.1.cell 1
            have r2 : wr.cell? ⟨w.heap.size + 1, 2, none⟩ = some (.slice none 0 0) := XS.out.2.1.cell 2
            have rf := XS.out.2.1.frozen
            have hRl : w.heap.size + 1 < wr.heap.size := XS.out.2.1.lt
            by_cases hlt : k < l.length
            · obtain ⟨b, o, a', c', rfl, d0, d0', d1, hx⟩ := (HS.out.ex XS.out.1 HXF.out).get (Below.refl _ _) (fun _ _ h => h) k hlt
              clear hx
              have o0 : ∀ o, (wr.alloc o).cell? ⟨O, 0, none⟩ = some (.int .i64 2) := fun o => (XS.out.2.2.1.alloc o).cell 0
              have o1 : ∀ o, (wr.alloc o).cell? ⟨O, 1, none⟩ = some (.int .i64 ix) := fun o => (XS.out.2.2.1.alloc o).cell 1
              have o2 : ∀ o, (wr.alloc o).cell? ⟨O, 2, none⟩ = some (.slice a9 l9 c9) := fun o => (XS.out.2.2.1.alloc o).cell 2
              go_wp2_with fail
              refine bodyPost_ret (v := .agg #[.int .i64 2, .int .i64 ix, .slice a9 l9 c9]) (by simp [results, Tryz.results75, go_sem, World.cell?_setCell_same, World.cell?_setCell_other, r0, r1, r2, hRl, World.cell?_alloc_old]) rfl ?_
              rw [HT.out]
              exact ⟨2, ix, a9, l9, c9, -1, rfl, (((XS.out.2.2.2.1.setOther _ _ (by omega)).setOther _ _ (by omega)).setOther _ _ (by omega)).alloc _, (((XS.out.1.setNew (by omega) _ _).setNew (by omega) _ _).setNew (by omega) _ _).alloc _, fun h => by omega, fun _ => rfl⟩
            · have o0 : wr.cell? ⟨O, 0, none⟩ = some (.int .i64 2) := XS.out.2.2.1.cell 0
              have o1 : wr.cell? ⟨O, 1, none⟩ = some (.int .i64 ix) := XS.out.2.2.1.cell 1
              have o2 : wr.cell? ⟨O, 2, none⟩ = some (.slice a9 l9 c9) := XS.out.2.2.1.cell 2
              go_wp2_with fail
              refine bodyPost_ret (v := .agg #[.int .i64 2, .int .i64 ix, .slice a9 l9 c9]) (by simp [results, Tryz.results75, go_sem, World.cell?_setCell_same, World.cell?_setCell_other, r0, r1, r2, hRl]) rfl ?_
              rw [HT.out]
              exact ⟨2, ix, a9, l9, c9, -1, rfl, ((XS.out.2.2.2.1.setOther _ _ (by omega)).setOther _ _ (by omega)).setOther _ _ (by omega), ((XS.out.1.setNew (by omega) _ _).setNew (by omega) _ _).setNew (by omega) _ _, fun h => by omega, fun _ => rfl⟩
      case neg =>
        have e2 : (kd == 2) = false := by simpa using k2
        obtain ⟨L, hLd⟩ : ∃ L, L = higM y d l := ⟨_, rfl⟩
        have HT : Hid (higT y d ⟨kd, ix, l⟩ = ⟨kd, ix, L⟩) := by unfold Hid higT; rw [hLd]; simp [deepK, k1, k2]
        have HLL : Hid (L.length = l.length) := by unfold Hid; rw [hLd, higM_map]; simp
        have HLG : Hid (∀ k (h : k < l.length) (h' : k < L.length), L[k] = higT y (d) l[k]) := fun k h h' => by subst hLd; simp [higM_map]
        have hzL : sizeM [(⟨kd, ix, L⟩ : Lm)] = 1 + sizeM L := by simp [sizeM]
        clear hLd
        go_enter Tryz.func75, Tryz.ntmps75
        go_wp2_with fail
        have E3 : Hid (MnSet w F (w.heap.size + 1 + 1) kd ix (.slice none 0 0) #[.int .i64 ((n : Int) - 1)] ((((w.setCell ⟨F, 0, none⟩ (.int .i64 ((n : Int) - 1))).alloc (.cells #[.int .i64 kd, .int .i64 ix, .slice a l.length c] 26)).alloc (.cells #[.int .i64 0, .int .i64 0, .slice none 0 0] 26)).alloc (.cells #[.int .i64 kd, .int .i64 ix, .slice none 0 0] 26))) := by
          refine ⟨((((Ex.refl F w).set 0 _).alloc _).alloc _).alloc _, ?_, ?_, (((HF.out.set 0 _).alloc _).alloc _).alloc _, by simp [World.setCell]⟩
          · have h := (Blk.new ((w.setCell ⟨F, 0, none⟩ (.int .i64 ((n : Int) - 1))).alloc (.cells #[.int .i64 kd, .int .i64 ix, .slice a l.length c] 26)) #[.int .i64 0, .int .i64 0, .slice none 0 0] 26).alloc (.cells #[.int .i64 kd, .int .i64 ix, .slice none 0 0] 26)
            simpa [World.setCell] using h
          · have h := Blk.new (((w.setCell ⟨F, 0, none⟩ (.int .i64 ((n : Int) - 1))).alloc (.cells #[.int .i64 kd, .int .i64 ix, .slice a l.length c] 26)).alloc (.cells #[.int .i64 0, .int .i64 0, .slice none 0 0] 26)) #[.int .i64 kd, .int .i64 ix, .slice none 0 0] 26
            simpa [World.setCell] using h
        generalize ((((w.setCell ⟨F, 0, none⟩ (.int .i64 ((n : Int) - 1))).alloc (.cells #[.int .i64 kd, .int .i64 ix, .slice a l.length c] 26)).alloc (.cells #[.int .i64 0, .int .i64 0, .slice none 0 0] 26)).alloc (.cells #[.int .i64 kd, .int .i64 ix, .slice none 0 0] 26)) = w3 at *
        generalize hOe : w.heap.size + 1 + 1 = O at *
        have hO : w.heap.size + 2 ≤ O := by omega
        clear hOe f0 ff f0' ff'
        go_loopw [46] (fun i wr => MnInv w F O kd ix L n i wr) (fun i wr => l.length - (intOf i).toNat)
        case atStart =>
          refine ⟨0, .slice none 0 0, Nat.zero_le _, rfl, ?_⟩
          by_cases hn0 : n = 0
          · subst hn0
            exact Or.inr ⟨by omega, E3.out, none, 0, 0, rfl⟩
          · refine Or.inl ⟨n - 1, [], by simp [sizeM]; omega, ?_, RowM.start _ _ _ _⟩
            rw [show ((n - 1 : Nat) : Int) = (n : Int) - 1 by omega]
            exact E3.out
        case round =>
          obtain ⟨k, u, hk, rfl, hcase⟩ := hrel
          have HKL := hide hk
          rw [HLL.out] at hk
          rcases hcase with ⟨m, xs, hm, hset, hrow⟩ | ⟨hbig, hset, a9, l9, c9, rfl⟩
          · have XS := hide hset
            have XW := hide hrow
            have HMM := hide hm
            clear hset hrow
            by_cases hlt : k < l.length
            · have hltL : k < L.length := by rw [HLL.out]; exact hlt
              obtain ⟨b, o, a', c', rfl, d0, d0', d1, hx⟩ := (HS.out.ex XS.out.1 HXF.out).get (Below.refl _ _) (fun _ _ h => h) k hlt
              obtain ⟨av, cv, ev, hsx⟩ := hx
              simp at ev
              obtain ⟨rfl, rfl⟩ := ev
              have hmn : m ≤ 9223372036854775807 := by omega
              have HOF : Hid (O ≠ F) := by unfold Hid; omega
              have HFO1 : Hid (F < O + 1) := by unfold Hid; omega
              have hsk : (L.take k).length = k := by simp; omega
              have hkn : k ≤ 1000000 := by omega
              have HL1 : Hid ((L.take k).length + 1 ≤ maxLen ∧ ((L.take k).length + 1) * 40 ≤ 140737488355328) := by unfold Hid; rw [hsk]; exact ⟨by unfold maxLen; omega, by omega⟩
              clear hsk
              have HLK : Hid (L[k] = higT y (d) l[k]) := HLG.out k hlt hltL
              have hszk : sizeM [l[k]] ≤ sizeM l := by
                have h1 := sizeM_take l k hlt
                have h2 := sizeM_take_le l (k + 1)
                omega
              have IHQ : Hid (Calls Tryz.prog 75 #[.pointer (some ⟨F, 0, none⟩), .agg #[.int .i64 l[k].kind, .int .i64 l[k].idx, .slice a' l[k].subs.length c'], .int .i64 (d), .func (.func 76) #[] #[.pointer (some ⟨B1, 0, none⟩), .pointer (some ⟨B2, 0, none⟩)]] (wr.alloc (.cells #[.int .i64 l[k].kind, .int .i64 l[k].idx, .slice a' l[k].subs.length c'] 26)).drew fun e w'' => MkPost (wr.alloc (.cells #[.int .i64 l[k].kind, .int .i64 l[k].idx, .slice a' l[k].subs.length c'] 26)).drew F (higT y (d) l[k]) m e w'') := (IH.out l[k] (List.getElem_mem hlt) m _ (d) _ X ⟨a', c', rfl, ((hsx.later ((Below.refl _ _).alloc (Nat.le_refl _) (.cells #[.int .i64 l[k].kind, .int .i64 l[k].idx, .slice a' l[k].subs.length c'] 26))).later ((Below.refl _ _).drew))⟩ HXF.out hmn (by omega) (by omega) (BndM.at k hlt HBN.out) (LfM.at k hlt HLF.out) (by exact ((XS.out.2.2.2.1.alloc _).drewN 1)) (HE.out.ex XS.out.1 h1F h2F |>.later ((Below.refl _ _).alloc (Nat.le_refl _) _) |>.later ((Below.refl _ _).drew)))
              have f0 : ∀ o, (wr.alloc o).cell? ⟨F, 0, none⟩ = some (.int .i64 (m : Int)) := fun o => (XS.out.2.2.2.1.alloc o).cell 0
              have o1 : ∀ o, (wr.alloc o).cell? ⟨O, 2, none⟩ = some u := fun o => (XS.out.2.2.1.alloc o).cell 2
              have hm0 : ¬ (m : Int) < 0 := by omega
              rw [← HLK.out] at IHQ
              by_cases hle : sizeM [L[k]] ≤ m
              · have IHG : Hid (Calls Tryz.prog 75 #[.pointer (some ⟨F, 0, none⟩), .agg #[.int .i64 l[k].kind, .int .i64 l[k].idx, .slice a' l[k].subs.length c'], .int .i64 (d), .func (.func 76) #[] #[.pointer (some ⟨B1, 0, none⟩), .pointer (some ⟨B2, 0, none⟩)]] (wr.alloc (.cells #[.int .i64 l[k].kind, .int .i64 l[k].idx, .slice a' l[k].subs.length c'] 26)).drew fun e w'' => ∃ a1 c1, e = .returned (.agg #[.int .i64 L[k].kind, .int .i64 L[k].idx, .slice a1 L[k].subs.length c1]) ∧ Blk w'' F #[.int .i64 ((m : Int) - sizeM [L[k]])] 91 ∧ Ex F wr w'' ∧ SlM w'' (fun b => wr.heap.size ≤ b) a1 L[k].subs) := IHQ.out.mono fun e w'' hp => by
                  obtain ⟨s1, s2, a1, l1, c1, m1, h1, h2, h3, h4, _⟩ := hp
                  obtain ⟨rfl, rfl, rfl, rfl, h5⟩ := h4 hle
                  exact ⟨a1, c1, h1, h2, (((Ex.refl F wr).alloc _).drew).trans h3, h5.mono fun b hb _ => by simp at hb; omega⟩
                clear IHQ
                have HLE := hide hle
                have HLL2 := hide hltL
                clear hle HLK hszk hx0 hx1 hd0 hd1 hsml hkn hmn
                go_wp2_with fail
                go_region_law (first
                  | (go_simp; go_at_call 75; refine IHG.out.mono ?_; rintro e w1 ⟨a1, c1, rfl, hF1, he1, hs1⟩; have hc3 : ∀ o, (w1.alloc o).cell? ⟨O, 2, none⟩ = some u := fun o => ((Blk.ex XS.out.2.2.1 he1 HOF.out).alloc o).cell 2; have hc4 : w1.cell? ⟨O, 2, none⟩ = some u := (Blk.ex XS.out.2.2.1 he1 HOF.out).cell 2)
                  | (refine step_append_lies _ rfl _ _ 24 rfl (O + 1) 26 i0 _ 3 40 Tryz.underlying24 hi0 hz0 hz1 hz2 rfl (by decide) u (L.take k).length xs rfl (by exact (RowM.ex (B := F) XW.out he1 HFO1.out (fun h => h)).own.alloc _) ⟨w1.heap.size, 0, none⟩ 1 1 [.int .i64 L[k].kind, .int .i64 L[k].idx, .slice a1 L[k].subs.length c1] rfl rfl (cell_lam_new _ _ _ _ _) (fun x hx => by simp at hx; rcases hx with rfl | rfl | rfl <;> rfl) (by decide) HL1.out.1 HL1.out.2 (by have := he1.size; have := XS.out.2.2.2.2; simp; omega) _ rfl ?_; intro g cap w3 hown3 hgrow3 hat3 hlt3; have hB3 := hide (((Blk.ex XS.out.2.2.1 he1 HOF.out).alloc _).grown hgrow3 (XW.out.ne (Nat.lt_succ_self _))); have hc5 : w3.cell? ⟨O, 2, none⟩ = some u := hB3.out.cell 2; have hf5 := hB3.out.frozen 2))
                all_goals
                  have HK := hide (mn_set (v := .slice (some ⟨g, 0, none⟩) ((L.take k).length + 1) cap) hFl hO XS.out (fun j hj => (XW.out.own.lt j hj).1) he1 hF1 hgrow3)
                  have HRW := hide (mn_row (t := L[k]) (by omega) XS.out.2.2.2.2 XW.out he1 ⟨a1, c1, rfl, hs1⟩ hown3 hgrow3 hat3)
                  clear hown3 hgrow3 hat3 hc3 hc4 hc5 hf5 hB3 hF1 he1 hs1 hlt3
                  go_wp2_with fail
                  go_roundw
                  case rel =>
                    have hkl : (L.take k).length = k := by simp; omega
                    have hmin : min k L.length = k := Nat.min_eq_left (by have := HKL.out; omega)
                    simp only [hmin]
                    have h1 := HK.out
                    have h2 := HRW.out
                    have hmm := HMM.out
                    have hle := HLE.out
                    simp only [hkl] at h1 h2
                    obtain ⟨m', hm'⟩ : ∃ m' : Nat, (m' : Int) = (m : Int) - sizeM [L[k]] := ⟨m - sizeM [L[k]], by omega⟩
                    refine ⟨k + 1, .slice (some ⟨g, 0, none⟩) (k + 1) cap, by omega, by go_num, Or.inl ⟨m', xs ++ [.int .i64 L[k].kind, .int .i64 L[k].idx, .slice a1 L[k].subs.length c1], by rw [sizeM_take L k hltL]; omega, ?_, ?_⟩⟩
                    · rw [hm']
                      exact h1
                    · rw [List.take_succ_eq_append_getElem hltL]
                      exact h2
                  case measure => simp [intOf]; omega
              · have IHG : Hid (Calls Tryz.prog 75 #[.pointer (some ⟨F, 0, none⟩), .agg #[.int .i64 l[k].kind, .int .i64 l[k].idx, .slice a' l[k].subs.length c'], .int .i64 (d), .func (.func 76) #[] #[.pointer (some ⟨B1, 0, none⟩), .pointer (some ⟨B2, 0, none⟩)]] (wr.alloc (.cells #[.int .i64 l[k].kind, .int .i64 l[k].idx, .slice a' l[k].subs.length c'] 26)).drew fun e w'' => ∃ s1 s2 a1 l1 c1, e = .returned (.agg #[.int .i64 s1, .int .i64 s2, .slice a1 l1 c1]) ∧ Blk w'' F #[.int .i64 (-1)] 91 ∧ Ex F wr w'') := IHQ.out.mono fun e w'' hp => by
                  obtain ⟨s1, s2, a1, l1, c1, m1, h1, h2, h3, _, h4⟩ := hp
                  obtain rfl := h4 (by omega)
                  exact ⟨s1, s2, a1, l1, c1, h1, h2, (((Ex.refl F wr).alloc _).drew).trans h3⟩
                clear IHQ
                have HLE := hide hle
                have HLL2 := hide hltL
                clear hle HLK hszk hx0 hx1 hd0 hd1 hsml hkn hmn
                go_wp2_with fail
                go_region_law (first
                  | (go_simp; go_at_call 75; refine IHG.out.mono ?_; rintro e w1 ⟨s1, s2, a1, l1, c1, rfl, hF1, he1⟩; have hc3 : ∀ o, (w1.alloc o).cell? ⟨O, 2, none⟩ = some u := fun o => ((Blk.ex XS.out.2.2.1 he1 HOF.out).alloc o).cell 2; have hc4 : w1.cell? ⟨O, 2, none⟩ = some u := (Blk.ex XS.out.2.2.1 he1 HOF.out).cell 2)
                  | (refine step_append_lies _ rfl _ _ 24 rfl (O + 1) 26 i0 _ 3 40 Tryz.underlying24 hi0 hz0 hz1 hz2 rfl (by decide) u (L.take k).length xs rfl (by exact (RowM.ex (B := F) XW.out he1 HFO1.out (fun h => h)).own.alloc _) ⟨w1.heap.size, 0, none⟩ 1 1 [.int .i64 s1, .int .i64 s2, .slice a1 l1 c1] rfl rfl (cell_lam_new _ _ _ _ _) (fun x hx => by simp at hx; rcases hx with rfl | rfl | rfl <;> rfl) (by decide) HL1.out.1 HL1.out.2 (by have := he1.size; have := XS.out.2.2.2.2; simp; omega) _ rfl ?_; intro g cap w3 hown3 hgrow3 hat3 hlt3; have hB3 := hide (((Blk.ex XS.out.2.2.1 he1 HOF.out).alloc _).grown hgrow3 (XW.out.ne (Nat.lt_succ_self _))); have hc5 : w3.cell? ⟨O, 2, none⟩ = some u := hB3.out.cell 2; have hf5 := hB3.out.frozen 2))
                all_goals
                  have HK := hide (mn_set (v := .slice (some ⟨g, 0, none⟩) ((L.take k).length + 1) cap) hFl hO XS.out (fun j hj => (XW.out.own.lt j hj).1) he1 hF1 hgrow3)
                  clear hown3 hgrow3 hat3 hc3 hc4 hc5 hf5 hB3 hF1 he1 hlt3
                  go_wp2_with fail
                  go_roundw
                  case rel =>
                    have hkl : (L.take k).length = k := by simp; omega
                    have hmin : min k L.length = k := Nat.min_eq_left (by have := HKL.out; omega)
                    simp only [hmin]
                    have h0 := HK.out
                    have hmm := HMM.out
                    have hle := HLE.out
                    simp only [hkl] at h0
                    refine ⟨k + 1, .slice (some ⟨g, 0, none⟩) (k + 1) cap, by omega, by go_num, Or.inr ⟨?_, h0, _, _, _, rfl⟩⟩
                    have h1 := sizeM_take L k hltL
                    have h2 := sizeM_take_le L (k + 1)
                    omega
                  case measure => simp [intOf]; omega
            · have htk : L.take k = L := List.take_of_length_le (by rw [HLL.out]; omega)
              rw [htk] at XW HMM
              obtain ⟨a9, c9, hu9, hsl9⟩ := XW.out.sl
              subst hu9
              have S9 := hide hsl9
              clear hsl9
              have r0 : wr.cell? ⟨w.heap.size + 1, 0, none⟩ = some (.int .i64 0) := XS.out.2.1.cell 0
              have r1 : wr.cell? ⟨w.heap.size + 1, 1, none⟩ = some (.int .i64 0) := XS.out.2.1.cell 1
              have r2 : wr.cell? ⟨w.heap.size + 1, 2, none⟩ = some (.slice none 0 0) := XS.out.2.1.cell 2
              have rf := XS.out.2.1.frozen
              have hRl : w.heap.size + 1 < wr.heap.size := XS.out.2.1.lt
              have o0 : wr.cell? ⟨O, 0, none⟩ = some (.int .i64 kd) := XS.out.2.2.1.cell 0
              have o1 : wr.cell? ⟨O, 1, none⟩ = some (.int .i64 ix) := XS.out.2.2.1.cell 1
              have o2 : wr.cell? ⟨O, 2, none⟩ = some (.slice a9 L.length c9) := XS.out.2.2.1.cell 2
              go_wp2_with fail
              refine bodyPost_ret (v := .agg #[.int .i64 kd, .int .i64 ix, .slice a9 L.length c9]) (by simp [results, Tryz.results75, go_sem, World.cell?_setCell_same, World.cell?_setCell_other, r0, r1, r2, hRl]) rfl ?_
              have hmm := HMM.out
              rw [HT.out]
              refine ⟨kd, ix, a9, L.length, c9, m, rfl, ((XS.out.2.2.2.1.setOther _ _ (by omega)).setOther _ _ (by omega)).setOther _ _ (by omega), ((XS.out.1.setNew (by omega) _ _).setNew (by omega) _ _).setNew (by omega) _ _, fun h => ⟨by rw [hzL]; omega, rfl, rfl, rfl, (S9.out.kept fun b hb => ?_).mono fun b hb _ => ?_⟩, fun h => by omega⟩
              · have hb' : O + 1 ≤ b := hb.elim False.elim id
                rw [Below.heap_setCell _ _ _ _ (by simp; omega), Below.heap_setCell _ _ _ _ (by simp; omega), Below.heap_setCell _ _ _ _ (by simp; omega)]
              · have hb' : O + 1 ≤ b := hb.elim False.elim id
                omega
          · have XS := hide hset
            clear hset
            have f0 : ∀ o, (wr.alloc o).cell? ⟨F, 0, none⟩ = some (.int .i64 (-1)) := fun o => (XS.out.2.2.2.1.alloc o).cell 0
            have r0 : wr.cell? ⟨w.heap.size + 1, 0, none⟩ = some (.int .i64 0) := XS.out.2.1.cell 0
            have r1 : wr.cell? ⟨w.heap.size + 1, 1, none⟩ = some (.int .i64 0) := XS.out.2.1.cell 1
            have r2 : wr.cell? ⟨w.heap.size + 1, 2, none⟩ = some (.slice none 0 0) := XS.out.2.1.cell 2
            have rf := XS.out.2.1.frozen
            have hRl : w.heap.size + 1 < wr.heap.size := XS.out.2.1.lt
            by_cases hlt : k < l.length
            · obtain ⟨b, o, a', c', rfl, d0, d0', d1, hx⟩ := (HS.out.ex XS.out.1 HXF.out).get (Below.refl _ _) (fun _ _ h => h) k hlt
              clear hx
              have o0 : ∀ o, (wr.alloc o).cell? ⟨O, 0, none⟩ = some (.int .i64 kd) := fun o => (XS.out.2.2.1.alloc o).cell 0
              have o1 : ∀ o, (wr.alloc o).cell? ⟨O, 1, none⟩ = some (.int .i64 ix) := fun o => (XS.out.2.2.1.alloc o).cell 1
              have o2 : ∀ o, (wr.alloc o).cell? ⟨O, 2, none⟩ = some (.slice a9 l9 c9) := fun o => (XS.out.2.2.1.alloc o).cell 2
              go_wp2_with fail
              refine bodyPost_ret (v := .agg #[.int .i64 kd, .int .i64 ix, .slice a9 l9 c9]) (by simp [results, Tryz.results75, go_sem, World.cell?_setCell_same, World.cell?_setCell_other, r0, r1, r2, hRl, World.cell?_alloc_old]) rfl ?_
              rw [HT.out]
              exact ⟨kd, ix, a9, l9, c9, -1, rfl, (((XS.out.2.2.2.1.setOther _ _ (by omega)).setOther _ _ (by omega)).setOther _ _ (by omega)).alloc _, (((XS.out.1.setNew (by omega) _ _).setNew (by omega) _ _).setNew (by omega) _ _).alloc _, fun h => by omega, fun _ => rfl⟩
            · have o0 : wr.cell? ⟨O, 0, none⟩ = some (.int .i64 kd) := XS.out.2.2.1.cell 0
              have o1 : wr.cell? ⟨O, 1, none⟩ = some (.int .i64 ix) := XS.out.2.2.1.cell 1
              have o2 : wr.cell? ⟨O, 2, none⟩ = some (.slice a9 l9 c9) := XS.out.2.2.1.cell 2
              go_wp2_with fail
              refine bodyPost_ret (v := .agg #[.int .i64 kd, .int .i64 ix, .slice a9 l9 c9]) (by simp [results, Tryz.results75, go_sem, World.cell?_setCell_same, World.cell?_setCell_other, r0, r1, r2, hRl]) rfl ?_
              rw [HT.out]
              exact ⟨kd, ix, a9, l9, c9, -1, rfl, ((XS.out.2.2.2.1.setOther _ _ (by omega)).setOther _ _ (by omega)).setOther _ _ (by omega), ((XS.out.1.setNew (by omega) _ _).setNew (by omega) _ _).setNew (by omega) _ _, fun h => by omega, fun _ => rfl⟩
end Go.Proofs.YtagidfoiemgfcaaGreatDoor

/- Walks: a lambda term moved; what is put for what is bound from outside. -/
namespace Go.Proofs.YtagidfoiemgfcaaGreatDoor
open Go.RowKit
set_option linter.unusedSimpArgs false
set_option linter.unusedVariables false
set_option maxRecDepth 8000

set_option maxHeartbeats 1000000 in
theorem raise_any (F : Nat) (y : Int) (hy0 : -100000 ≤ y) (hy1 : y ≤ 100000) (t : Lm) (n : Nat) (v : Value) (w : World) (X : Nat → Prop) (hv : MV w X v t) (hXF : ∀ b, X b → b ≠ F) (hn : n ≤ 9223372036854775807) (hsz : sizeM [t] ≤ 100000) (hbn : BndM [t]) (hlf : LfM [t]) (hF : Blk w F #[.int .i64 (n : Int)] 91) :
    Calls Tryz.prog 59 #[.pointer (some ⟨F, 0, none⟩), v, .int .i64 y] w fun e w' => MkPost w F (higT y 0 t) n e w' := by
  have hmf : ∀ (fn : Fn) (first cap : Array Value) (w : World), (Instr.makeFunc fn first cap).run Tryz.prog w = .ok (.func fn first cap) w := fun _ _ _ _ => rfl
  obtain ⟨a, c, rfl, hs⟩ := hv
  have HS := hide hs
  have HF := hide hF
  have hFl := hF.lt
  clear hs hF
  go_enter Tryz.func59, Tryz.ntmps59
  go_wp2_with fail
  refine (buildR_any F w.heap.size (w.heap.size + 1 + 1) y hy0 hy1 (by omega) (by omega) t n _ 0 _ (fun b => X b ∧ b < w.heap.size) ⟨a, c, rfl, ((((HS.out.mono (Y := fun b => X b ∧ b < w.heap.size) fun b h1 h2 => ⟨h1, h2⟩).later ((Below.refl _ _).alloc (Nat.le_refl _) _)).later ((Below.refl _ _).alloc (Nat.le_refl _) _)).later ((Below.refl _ _).alloc (Nat.le_refl _) _)).later ((Below.refl _ _).alloc (Nat.le_refl _) _)⟩ (fun b h => hXF b h.1) hn (Int.le_refl 0) (by omega) hbn hlf ((((HF.out.alloc _).alloc _).alloc _).alloc _) ⟨((((Blk.new w _ _).alloc _).alloc _).alloc _), by
    have h := (Blk.new ((w.alloc (.cells #[.pointer (some ⟨F, 0, none⟩)] 107)).alloc (.cells #[.int .i64 t.kind, .int .i64 t.idx, .slice a t.subs.length c] 26)) #[.int .i64 y] 3).alloc (.cells #[.int .i64 0, .int .i64 0, .slice none 0 0] 26)
    simp only [World.size_alloc] at h
    exact h⟩).mono ?_
  rintro e w1 ⟨k', x', a', l', c', m, rfl, hF1, hx1, hy1, hn1⟩
  have R1 : Hid (Blk w1 (w.heap.size + 1 + 1 + 1) #[.int .i64 0, .int .i64 0, .slice none 0 0] 26) := by
    have h := (Blk.new (((w.alloc (.cells #[.pointer (some ⟨F, 0, none⟩)] 107)).alloc (.cells #[.int .i64 t.kind, .int .i64 t.idx, .slice a t.subs.length c] 26)).alloc (.cells #[.int .i64 y] 3)) #[.int .i64 0, .int .i64 0, .slice none 0 0] 26).ex hx1 (by simp; omega)
    simp only [World.size_alloc] at h
    exact h
  have HX := hide ((((((Ex.refl F w).alloc (.cells #[.pointer (some ⟨F, 0, none⟩)] 107)).alloc (.cells #[.int .i64 t.kind, .int .i64 t.idx, .slice a t.subs.length c] 26)).alloc (.cells #[.int .i64 y] 3)).alloc (.cells #[.int .i64 0, .int .i64 0, .slice none 0 0] 26)).trans hx1)
  have HF1 := hide hF1
  have HY := hide hy1
  have HN := hide hn1
  clear hF1 hx1 hy1 hn1
  have r0 : w1.cell? ⟨w.heap.size + 1 + 1 + 1, 0, none⟩ = some (.int .i64 0) := R1.out.cell 0
  have r1 : w1.cell? ⟨w.heap.size + 1 + 1 + 1, 1, none⟩ = some (.int .i64 0) := R1.out.cell 1
  have r2 : w1.cell? ⟨w.heap.size + 1 + 1 + 1, 2, none⟩ = some (.slice none 0 0) := R1.out.cell 2
  have rf := R1.out.frozen
  have hRl := R1.out.lt
  go_wp2_with fail
  refine bodyPost_ret (v := .agg #[.int .i64 k', .int .i64 x', .slice a' l' c']) (by simp [results, Tryz.results59, go_sem, World.cell?_setCell_same, World.cell?_setCell_other, r0, r1, r2, hRl]) rfl ?_
  exact mk_end (W := (((w.alloc (.cells #[.pointer (some ⟨F, 0, none⟩)] 107)).alloc (.cells #[.int .i64 t.kind, .int .i64 t.idx, .slice a t.subs.length c] 26)).alloc (.cells #[.int .i64 y] 3)).alloc (.cells #[.int .i64 0, .int .i64 0, .slice none 0 0] 26)) hFl (by omega) (by simp) HF1.out HX.out HY.out HN.out
/-- What the putting closure holds. -/
def EnvP (w : World) (B F : Nat) (X : Nat → Prop) (z : Lm) : Prop := ∃ a c, Blk w B #[.int .i64 z.kind, .int .i64 z.idx, .slice a z.subs.length c] 26 ∧ SlM w X a z.subs
theorem EnvP.ex {w w' : World} {B F : Nat} {X : Nat → Prop} {z : Lm} (h : EnvP w B F X z) (he : Ex F w w') (h1 : B ≠ F) (hX : ∀ b, X b → b ≠ F) : EnvP w' B F X z := by
  obtain ⟨a, c, h2, h3⟩ := h
  exact ⟨a, c, h2.ex he h1, h3.ex he hX⟩
theorem EnvP.later {w w' : World} {B F : Nat} {X : Nat → Prop} {z : Lm} (h : EnvP w B F X z) (hb : Below w.heap.size w w') : EnvP w' B F X z := by
  obtain ⟨a, c, h2, h3⟩ := h
  exact ⟨a, c, h2.below hb h2.lt, h3.later hb⟩
/-- What comes for what is bound from outside. -/
def putL (z : Lm) (x d : Int) : Lm := if x = d then higT d 0 z else ⟨1, x - 1, []⟩

set_option maxHeartbeats 1000000 in
theorem put1_any (F B : Nat) (z : Lm) (x d : Int) (n : Nat) (w : World) (X : Nat → Prop) (hn : n ≤ 9223372036854775807) (hx0 : -100000 ≤ x) (hx1 : x ≤ 100000) (hd0 : 0 ≤ d) (hd1 : d ≤ 100000) (hzs : sizeM [z] ≤ 100000) (hzb : BndM [z]) (hzl : LfM [z]) (hF : Blk w F #[.int .i64 (n : Int)] 91) (hBF : B ≠ F) (hXF : ∀ b, X b → b ≠ F) (hE : EnvP w B F X z) :
    Calls Tryz.prog 78 #[.int .i64 x, .int .i64 d, .pointer (some ⟨F, 0, none⟩), .pointer (some ⟨B, 0, none⟩)] w fun e w' => MkPost w F (putL z x d) n e w' := by
  have hFl := hF.lt
  have HF := hide hF
  have HE := hide hE
  obtain ⟨az, cz, hB, hsz⟩ := hE
  have HSZ := hide hsz
  have q0 : ∀ o, (w.alloc o).cell? ⟨B, 0, none⟩ = some (.int .i64 z.kind) := fun o => (hB.alloc o).cell 0
  have q1 : ∀ o, (w.alloc o).cell? ⟨B, 1, none⟩ = some (.int .i64 z.idx) := fun o => (hB.alloc o).cell 1
  have q2 : ∀ o, (w.alloc o).cell? ⟨B, 2, none⟩ = some (.slice az z.subs.length cz) := fun o => (hB.alloc o).cell 2
  clear hB hsz hF
  by_cases hxd : x = d
  · subst hxd
    have HT : Hid (putL z x x = higT x 0 z) := by unfold Hid putL; simp
    go_enter Tryz.func78, Tryz.ntmps78
    go_wp2_with fail
    refine (raise_any F x (by omega) (by omega) z n _ _ X ⟨az, cz, rfl, HSZ.out.later ((Below.refl _ _).alloc (Nat.le_refl _) _)⟩ hXF hn hzs hzb hzl (HF.out.alloc _)).mono ?_
    rintro e w1 ⟨k', x', a', l', c', m, rfl, hF1, hx1, hy1, hn1⟩
    have R1 : Hid (Blk w1 (w.heap.size) #[.int .i64 0, .int .i64 0, .slice none 0 0] 26) := by
      have h := (Blk.new w #[.int .i64 0, .int .i64 0, .slice none 0 0] 26).ex hx1 (by simp; omega)
      exact h
    have HX := hide (((Ex.refl F w).alloc (.cells #[.int .i64 0, .int .i64 0, .slice none 0 0] 26)).trans hx1)
    have HF1 := hide hF1
    have HY := hide hy1
    have HN := hide hn1
    clear hF1 hx1 hy1 hn1
    have r0 : w1.cell? ⟨w.heap.size, 0, none⟩ = some (.int .i64 0) := R1.out.cell 0
    have r1 : w1.cell? ⟨w.heap.size, 1, none⟩ = some (.int .i64 0) := R1.out.cell 1
    have r2 : w1.cell? ⟨w.heap.size, 2, none⟩ = some (.slice none 0 0) := R1.out.cell 2
    have rf := R1.out.frozen
    have hRl := R1.out.lt
    go_wp2_with fail
    refine bodyPost_ret (v := .agg #[.int .i64 k', .int .i64 x', .slice a' l' c']) (by simp [results, Tryz.results78, go_sem, World.cell?_setCell_same, World.cell?_setCell_other, r0, r1, r2, hRl]) rfl ?_
    rw [HT.out]
    exact mk_end (W := w.alloc (.cells #[.int .i64 0, .int .i64 0, .slice none 0 0] 26)) hFl (by omega) (by simp) HF1.out HX.out HY.out HN.out
  · have HT : Hid (putL z x d = ⟨1, x - 1, []⟩) := by unfold Hid putL; simp [hxd]
    have hxd2 : (x == d) = false := by simpa using hxd
    have hw1 : IntKind.i64.wrap (x - 1) = x - 1 := by rw [IntKind.wrap_i64]; omega
    go_enter Tryz.func78, Tryz.ntmps78
    go_wp2_with fail
    refine (bound_any F _ n _ hn (HF.out.alloc _)).mono ?_
    rintro e w1 ⟨k', x', a', l', c', m, rfl, hF1, hx1, hy1, hn1⟩
    have R1 : Hid (Blk w1 (w.heap.size) #[.int .i64 0, .int .i64 0, .slice none 0 0] 26) := by
      have h := (Blk.new w #[.int .i64 0, .int .i64 0, .slice none 0 0] 26).ex hx1 (by simp; omega)
      exact h
    have HX := hide (((Ex.refl F w).alloc (.cells #[.int .i64 0, .int .i64 0, .slice none 0 0] 26)).trans hx1)
    have HF1 := hide hF1
    have HY := hide hy1
    have HN := hide hn1
    clear hF1 hx1 hy1 hn1
    have r0 : w1.cell? ⟨w.heap.size, 0, none⟩ = some (.int .i64 0) := R1.out.cell 0
    have r1 : w1.cell? ⟨w.heap.size, 1, none⟩ = some (.int .i64 0) := R1.out.cell 1
    have r2 : w1.cell? ⟨w.heap.size, 2, none⟩ = some (.slice none 0 0) := R1.out.cell 2
    have rf := R1.out.frozen
    have hRl := R1.out.lt
    go_wp2_with fail
    refine bodyPost_ret (v := .agg #[.int .i64 k', .int .i64 x', .slice a' l' c']) (by simp [results, Tryz.results78, go_sem, World.cell?_setCell_same, World.cell?_setCell_other, r0, r1, r2, hRl]) rfl ?_
    rw [HT.out]
    exact mk_end (W := w.alloc (.cells #[.int .i64 0, .int .i64 0, .slice none 0 0] 26)) hFl (by omega) (by simp) HF1.out HX.out HY.out HN.out
end Go.Proofs.YtagidfoiemgfcaaGreatDoor

/- Walks: lambda terms made, counted: a term is put for what is bound from outside. -/
namespace Go.Proofs.YtagidfoiemgfcaaGreatDoor
open Go.RowKit
set_option linter.unusedSimpArgs false
set_option linter.unusedVariables false
set_option maxRecDepth 8000

set_option maxHeartbeats 4000000 in
theorem buildP_any (F B : Nat) (z : Lm) (hzs : sizeM [z] ≤ 100000) (hzb : BndM [z]) (hzl : LfM [z]) (hBF : B ≠ F) (t : Lm) : ∀ (n : Nat) (v : Value) (d : Int) (w : World) (X : Nat → Prop), MV w X v t → (∀ b, X b → b ≠ F) → n ≤ 9223372036854775807 → 0 ≤ d → d + sizeM [t] ≤ 100000 → BndM [t] → LfM [t] → Blk w F #[.int .i64 (n : Int)] 91 → EnvP w B F X z →
    Calls Tryz.prog 75 #[.pointer (some ⟨F, 0, none⟩), v, .int .i64 d, .func (.func 78) #[] #[.pointer (some ⟨F, 0, none⟩), .pointer (some ⟨B, 0, none⟩)]] w fun e w' => MkPost w F (insT z d t) n e w' := by
  induction t using Lm.ind with
  | h kd ix l ih =>
    intro n v d w X hv hXF hn hd0 hd1 hbn hlf hF hE
    obtain ⟨a, c, rfl, hs⟩ := hv
    obtain ⟨i0, hi0, hz0, hz1, hz2⟩ := info_parts Tryz.infoLam
    have IH := hide ih
    have HS := hide hs
    have HXF := hide hXF
    have HF := hide hF
    have HE := hide hE
    have hl := hs.1
    have hz : sizeM [(⟨kd, ix, l⟩ : Lm)] = 1 + sizeM l := by simp [sizeM]
    rw [hz] at hd1
    rw [BndM_cons] at hbn
    rw [LfM_cons] at hlf
    obtain ⟨⟨hx0, hx1⟩, hbn, _⟩ := hbn
    obtain ⟨hl1, hlf, _⟩ := hlf
    have HBN := hide hbn
    have HLF := hide hlf
    have hsml := sizeM_len l
    have hFl : F < w.heap.size := hF.lt
    have f0 : ∀ o, (w.alloc o).cell? ⟨F, 0, none⟩ = some (.int .i64 (n : Int)) := fun o => (HF.out.alloc o).cell 0
    have ff : ∀ o, (w.alloc o).frozen? ⟨F, 0, none⟩ = false := fun o => (HF.out.alloc o).frozen 0
    have f0' : ∀ o o', ((w.alloc o).alloc o').cell? ⟨F, 0, none⟩ = some (.int .i64 (n : Int)) := fun o o' => ((HF.out.alloc o).alloc o').cell 0
    have ff' : ∀ o o', ((w.alloc o).alloc o').frozen? ⟨F, 0, none⟩ = false := fun o o' => ((HF.out.alloc o).alloc o').frozen 0
    have hwn : IntKind.i64.wrap ((n : Int) - 1) = (n : Int) - 1 := by rw [IntKind.wrap_i64]; omega
    clear ih hs hz hbn hlf hXF hF hE
    by_cases k1 : kd = 1
    case pos =>
      subst k1
      have hl0 : l = [] := hl1 rfl
      by_cases hlt : ix < d
      · obtain ⟨L, hLd⟩ : ∃ L, L = insM z d l := ⟨_, rfl⟩
        have HT : Hid (insT z d ⟨1, ix, l⟩ = ⟨1, ix, L⟩) := by unfold Hid insT; rw [hLd, hl0]; simp [hlt, insM]
        have hnge : ¬ (d ≤ ix) := by omega
        clear hl0 hl1
        have HLL : Hid (L.length = l.length) := by unfold Hid; rw [hLd, insM_map]; simp
        have HLG : Hid (∀ k (h : k < l.length) (h' : k < L.length), L[k] = insT z (d) l[k]) := fun k h h' => by subst hLd; simp [insM_map]
        have hzL : sizeM [(⟨1, ix, L⟩ : Lm)] = 1 + sizeM L := by simp [sizeM]
        clear hLd
        go_enter Tryz.func75, Tryz.ntmps75
        go_wp2_with fail
        have E3 : Hid (MnSet w F (w.heap.size + 1 + 1) 1 ix (.slice none 0 0) #[.int .i64 ((n : Int) - 1)] ((((w.setCell ⟨F, 0, none⟩ (.int .i64 ((n : Int) - 1))).alloc (.cells #[.int .i64 1, .int .i64 ix, .slice a l.length c] 26)).alloc (.cells #[.int .i64 0, .int .i64 0, .slice none 0 0] 26)).alloc (.cells #[.int .i64 1, .int .i64 ix, .slice none 0 0] 26))) := by
          refine ⟨((((Ex.refl F w).set 0 _).alloc _).alloc _).alloc _, ?_, ?_, (((HF.out.set 0 _).alloc _).alloc _).alloc _, by simp [World.setCell]⟩
          · have h := (Blk.new ((w.setCell ⟨F, 0, none⟩ (.int .i64 ((n : Int) - 1))).alloc (.cells #[.int .i64 1, .int .i64 ix, .slice a l.length c] 26)) #[.int .i64 0, .int .i64 0, .slice none 0 0] 26).alloc (.cells #[.int .i64 1, .int .i64 ix, .slice none 0 0] 26)
            simpa [World.setCell] using h
          · have h := Blk.new (((w.setCell ⟨F, 0, none⟩ (.int .i64 ((n : Int) - 1))).alloc (.cells #[.int .i64 1, .int .i64 ix, .slice a l.length c] 26)).alloc (.cells #[.int .i64 0, .int .i64 0, .slice none 0 0] 26)) #[.int .i64 1, .int .i64 ix, .slice none 0 0] 26
            simpa [World.setCell] using h
        generalize ((((w.setCell ⟨F, 0, none⟩ (.int .i64 ((n : Int) - 1))).alloc (.cells #[.int .i64 1, .int .i64 ix, .slice a l.length c] 26)).alloc (.cells #[.int .i64 0, .int .i64 0, .slice none 0 0] 26)).alloc (.cells #[.int .i64 1, .int .i64 ix, .slice none 0 0] 26)) = w3 at *
        generalize hOe : w.heap.size + 1 + 1 = O at *
        have hO : w.heap.size + 2 ≤ O := by omega
        clear hOe f0 ff f0' ff'
        go_loopw [46] (fun i wr => MnInv w F O 1 ix L n i wr) (fun i wr => l.length - (intOf i).toNat)
        case atStart =>
          refine ⟨0, .slice none 0 0, Nat.zero_le _, rfl, ?_⟩
          by_cases hn0 : n = 0
          · subst hn0
            exact Or.inr ⟨by omega, E3.out, none, 0, 0, rfl⟩
          · refine Or.inl ⟨n - 1, [], by simp [sizeM]; omega, ?_, RowM.start _ _ _ _⟩
            rw [show ((n - 1 : Nat) : Int) = (n : Int) - 1 by omega]
            exact E3.out
        case round =>
          obtain ⟨k, u, hk, rfl, hcase⟩ := hrel
          have HKL := hide hk
          rw [HLL.out] at hk
          rcases hcase with ⟨m, xs, hm, hset, hrow⟩ | ⟨hbig, hset, a9, l9, c9, rfl⟩
          · have XS := hide hset
            have XW := hide hrow
            have HMM := hide hm
            clear hset hrow
            by_cases hlt : k < l.length
            · have hltL : k < L.length := by rw [HLL.out]; exact hlt
              obtain ⟨b, o, a', c', rfl, d0, d0', d1, hx⟩ := (HS.out.ex XS.out.1 HXF.out).get (Below.refl _ _) (fun _ _ h => h) k hlt
              obtain ⟨av, cv, ev, hsx⟩ := hx
              simp at ev
              obtain ⟨rfl, rfl⟩ := ev
              have hmn : m ≤ 9223372036854775807 := by omega
              have HOF : Hid (O ≠ F) := by unfold Hid; omega
              have HFO1 : Hid (F < O + 1) := by unfold Hid; omega
              have hsk : (L.take k).length = k := by simp; omega
              have hkn : k ≤ 1000000 := by omega
              have HL1 : Hid ((L.take k).length + 1 ≤ maxLen ∧ ((L.take k).length + 1) * 40 ≤ 140737488355328) := by unfold Hid; rw [hsk]; exact ⟨by unfold maxLen; omega, by omega⟩
              clear hsk
              have HLK : Hid (L[k] = insT z (d) l[k]) := HLG.out k hlt hltL
              have hszk : sizeM [l[k]] ≤ sizeM l := by
                have h1 := sizeM_take l k hlt
                have h2 := sizeM_take_le l (k + 1)
                omega
              have IHQ : Hid (Calls Tryz.prog 75 #[.pointer (some ⟨F, 0, none⟩), .agg #[.int .i64 l[k].kind, .int .i64 l[k].idx, .slice a' l[k].subs.length c'], .int .i64 (d), .func (.func 78) #[] #[.pointer (some ⟨F, 0, none⟩), .pointer (some ⟨B, 0, none⟩)]] (wr.alloc (.cells #[.int .i64 l[k].kind, .int .i64 l[k].idx, .slice a' l[k].subs.length c'] 26)).drew fun e w'' => MkPost (wr.alloc (.cells #[.int .i64 l[k].kind, .int .i64 l[k].idx, .slice a' l[k].subs.length c'] 26)).drew F (insT z (d) l[k]) m e w'') := (IH.out l[k] (List.getElem_mem hlt) m _ (d) _ X ⟨a', c', rfl, ((hsx.later ((Below.refl _ _).alloc (Nat.le_refl _) (.cells #[.int .i64 l[k].kind, .int .i64 l[k].idx, .slice a' l[k].subs.length c'] 26))).later ((Below.refl _ _).drew))⟩ HXF.out hmn (by omega) (by omega) (BndM.at k hlt HBN.out) (LfM.at k hlt HLF.out) (by exact ((XS.out.2.2.2.1.alloc _).drewN 1)) (HE.out.ex XS.out.1 hBF HXF.out |>.later ((Below.refl _ _).alloc (Nat.le_refl _) _) |>.later ((Below.refl _ _).drew)))
              have f0 : ∀ o, (wr.alloc o).cell? ⟨F, 0, none⟩ = some (.int .i64 (m : Int)) := fun o => (XS.out.2.2.2.1.alloc o).cell 0
              have o1 : ∀ o, (wr.alloc o).cell? ⟨O, 2, none⟩ = some u := fun o => (XS.out.2.2.1.alloc o).cell 2
              have hm0 : ¬ (m : Int) < 0 := by omega
              rw [← HLK.out] at IHQ
              by_cases hle : sizeM [L[k]] ≤ m
              · have IHG : Hid (Calls Tryz.prog 75 #[.pointer (some ⟨F, 0, none⟩), .agg #[.int .i64 l[k].kind, .int .i64 l[k].idx, .slice a' l[k].subs.length c'], .int .i64 (d), .func (.func 78) #[] #[.pointer (some ⟨F, 0, none⟩), .pointer (some ⟨B, 0, none⟩)]] (wr.alloc (.cells #[.int .i64 l[k].kind, .int .i64 l[k].idx, .slice a' l[k].subs.length c'] 26)).drew fun e w'' => ∃ a1 c1, e = .returned (.agg #[.int .i64 L[k].kind, .int .i64 L[k].idx, .slice a1 L[k].subs.length c1]) ∧ Blk w'' F #[.int .i64 ((m : Int) - sizeM [L[k]])] 91 ∧ Ex F wr w'' ∧ SlM w'' (fun b => wr.heap.size ≤ b) a1 L[k].subs) := IHQ.out.mono fun e w'' hp => by
                  obtain ⟨s1, s2, a1, l1, c1, m1, h1, h2, h3, h4, _⟩ := hp
                  obtain ⟨rfl, rfl, rfl, rfl, h5⟩ := h4 hle
                  exact ⟨a1, c1, h1, h2, (((Ex.refl F wr).alloc _).drew).trans h3, h5.mono fun b hb _ => by simp at hb; omega⟩
                clear IHQ
                have HLE := hide hle
                have HLL2 := hide hltL
                clear hle HLK hszk hx0 hx1 hd0 hd1 hsml hkn hmn
                go_wp2_with fail
                go_region_law (first
                  | (go_simp; go_at_call 75; refine IHG.out.mono ?_; rintro e w1 ⟨a1, c1, rfl, hF1, he1, hs1⟩; have hc3 : ∀ o, (w1.alloc o).cell? ⟨O, 2, none⟩ = some u := fun o => ((Blk.ex XS.out.2.2.1 he1 HOF.out).alloc o).cell 2; have hc4 : w1.cell? ⟨O, 2, none⟩ = some u := (Blk.ex XS.out.2.2.1 he1 HOF.out).cell 2)
                  | (refine step_append_lies _ rfl _ _ 24 rfl (O + 1) 26 i0 _ 3 40 Tryz.underlying24 hi0 hz0 hz1 hz2 rfl (by decide) u (L.take k).length xs rfl (by exact (RowM.ex (B := F) XW.out he1 HFO1.out (fun h => h)).own.alloc _) ⟨w1.heap.size, 0, none⟩ 1 1 [.int .i64 L[k].kind, .int .i64 L[k].idx, .slice a1 L[k].subs.length c1] rfl rfl (cell_lam_new _ _ _ _ _) (fun x hx => by simp at hx; rcases hx with rfl | rfl | rfl <;> rfl) (by decide) HL1.out.1 HL1.out.2 (by have := he1.size; have := XS.out.2.2.2.2; simp; omega) _ rfl ?_; intro g cap w3 hown3 hgrow3 hat3 hlt3; have hB3 := hide (((Blk.ex XS.out.2.2.1 he1 HOF.out).alloc _).grown hgrow3 (XW.out.ne (Nat.lt_succ_self _))); have hc5 : w3.cell? ⟨O, 2, none⟩ = some u := hB3.out.cell 2; have hf5 := hB3.out.frozen 2))
                all_goals
                  have HK := hide (mn_set (v := .slice (some ⟨g, 0, none⟩) ((L.take k).length + 1) cap) hFl hO XS.out (fun j hj => (XW.out.own.lt j hj).1) he1 hF1 hgrow3)
                  have HRW := hide (mn_row (t := L[k]) (by omega) XS.out.2.2.2.2 XW.out he1 ⟨a1, c1, rfl, hs1⟩ hown3 hgrow3 hat3)
                  clear hown3 hgrow3 hat3 hc3 hc4 hc5 hf5 hB3 hF1 he1 hs1 hlt3
                  go_wp2_with fail
                  go_roundw
                  case rel =>
                    have hkl : (L.take k).length = k := by simp; omega
                    have hmin : min k L.length = k := Nat.min_eq_left (by have := HKL.out; omega)
                    simp only [hmin]
                    have h1 := HK.out
                    have h2 := HRW.out
                    have hmm := HMM.out
                    have hle := HLE.out
                    simp only [hkl] at h1 h2
                    obtain ⟨m', hm'⟩ : ∃ m' : Nat, (m' : Int) = (m : Int) - sizeM [L[k]] := ⟨m - sizeM [L[k]], by omega⟩
                    refine ⟨k + 1, .slice (some ⟨g, 0, none⟩) (k + 1) cap, by omega, by go_num, Or.inl ⟨m', xs ++ [.int .i64 L[k].kind, .int .i64 L[k].idx, .slice a1 L[k].subs.length c1], by rw [sizeM_take L k hltL]; omega, ?_, ?_⟩⟩
                    · rw [hm']
                      exact h1
                    · rw [List.take_succ_eq_append_getElem hltL]
                      exact h2
                  case measure => simp [intOf]; omega
              · have IHG : Hid (Calls Tryz.prog 75 #[.pointer (some ⟨F, 0, none⟩), .agg #[.int .i64 l[k].kind, .int .i64 l[k].idx, .slice a' l[k].subs.length c'], .int .i64 (d), .func (.func 78) #[] #[.pointer (some ⟨F, 0, none⟩), .pointer (some ⟨B, 0, none⟩)]] (wr.alloc (.cells #[.int .i64 l[k].kind, .int .i64 l[k].idx, .slice a' l[k].subs.length c'] 26)).drew fun e w'' => ∃ s1 s2 a1 l1 c1, e = .returned (.agg #[.int .i64 s1, .int .i64 s2, .slice a1 l1 c1]) ∧ Blk w'' F #[.int .i64 (-1)] 91 ∧ Ex F wr w'') := IHQ.out.mono fun e w'' hp => by
                  obtain ⟨s1, s2, a1, l1, c1, m1, h1, h2, h3, _, h4⟩ := hp
                  obtain rfl := h4 (by omega)
                  exact ⟨s1, s2, a1, l1, c1, h1, h2, (((Ex.refl F wr).alloc _).drew).trans h3⟩
                clear IHQ
                have HLE := hide hle
                have HLL2 := hide hltL
                clear hle HLK hszk hx0 hx1 hd0 hd1 hsml hkn hmn
                go_wp2_with fail
                go_region_law (first
                  | (go_simp; go_at_call 75; refine IHG.out.mono ?_; rintro e w1 ⟨s1, s2, a1, l1, c1, rfl, hF1, he1⟩; have hc3 : ∀ o, (w1.alloc o).cell? ⟨O, 2, none⟩ = some u := fun o => ((Blk.ex XS.out.2.2.1 he1 HOF.out).alloc o).cell 2; have hc4 : w1.cell? ⟨O, 2, none⟩ = some u := (Blk.ex XS.out.2.2.1 he1 HOF.out).cell 2)
                  | (refine step_append_lies _ rfl _ _ 24 rfl (O + 1) 26 i0 _ 3 40 Tryz.underlying24 hi0 hz0 hz1 hz2 rfl (by decide) u (L.take k).length xs rfl (by exact (RowM.ex (B := F) XW.out he1 HFO1.out (fun h => h)).own.alloc _) ⟨w1.heap.size, 0, none⟩ 1 1 [.int .i64 s1, .int .i64 s2, .slice a1 l1 c1] rfl rfl (cell_lam_new _ _ _ _ _) (fun x hx => by simp at hx; rcases hx with rfl | rfl | rfl <;> rfl) (by decide) HL1.out.1 HL1.out.2 (by have := he1.size; have := XS.out.2.2.2.2; simp; omega) _ rfl ?_; intro g cap w3 hown3 hgrow3 hat3 hlt3; have hB3 := hide (((Blk.ex XS.out.2.2.1 he1 HOF.out).alloc _).grown hgrow3 (XW.out.ne (Nat.lt_succ_self _))); have hc5 : w3.cell? ⟨O, 2, none⟩ = some u := hB3.out.cell 2; have hf5 := hB3.out.frozen 2))
                all_goals
                  have HK := hide (mn_set (v := .slice (some ⟨g, 0, none⟩) ((L.take k).length + 1) cap) hFl hO XS.out (fun j hj => (XW.out.own.lt j hj).1) he1 hF1 hgrow3)
                  clear hown3 hgrow3 hat3 hc3 hc4 hc5 hf5 hB3 hF1 he1 hlt3
                  go_wp2_with fail
                  go_roundw
                  case rel =>
                    have hkl : (L.take k).length = k := by simp; omega
                    have hmin : min k L.length = k := Nat.min_eq_left (by have := HKL.out; omega)
                    simp only [hmin]
                    have h0 := HK.out
                    have hmm := HMM.out
                    have hle := HLE.out
                    simp only [hkl] at h0
                    refine ⟨k + 1, .slice (some ⟨g, 0, none⟩) (k + 1) cap, by omega, by go_num, Or.inr ⟨?_, h0, _, _, _, rfl⟩⟩
                    have h1 := sizeM_take L k hltL
                    have h2 := sizeM_take_le L (k + 1)
                    omega
                  case measure => simp [intOf]; omega
            · have htk : L.take k = L := List.take_of_length_le (by rw [HLL.out]; omega)
              rw [htk] at XW HMM
              obtain ⟨a9, c9, hu9, hsl9⟩ := XW.out.sl
              subst hu9
              have S9 := hide hsl9
              clear hsl9
              have r0 : wr.cell? ⟨w.heap.size + 1, 0, none⟩ = some (.int .i64 0) := XS.out.2.1.cell 0
              have r1 : wr.cell? ⟨w.heap.size + 1, 1, none⟩ = some (.int .i64 0) := XS.out.2.1.cell 1
              have r2 : wr.cell? ⟨w.heap.size + 1, 2, none⟩ = some (.slice none 0 0) := XS.out.2.1.cell 2
              have rf := XS.out.2.1.frozen
              have hRl : w.heap.size + 1 < wr.heap.size := XS.out.2.1.lt
              have o0 : wr.cell? ⟨O, 0, none⟩ = some (.int .i64 1) := XS.out.2.2.1.cell 0
              have o1 : wr.cell? ⟨O, 1, none⟩ = some (.int .i64 ix) := XS.out.2.2.1.cell 1
              have o2 : wr.cell? ⟨O, 2, none⟩ = some (.slice a9 L.length c9) := XS.out.2.2.1.cell 2
              go_wp2_with fail
              refine bodyPost_ret (v := .agg #[.int .i64 1, .int .i64 ix, .slice a9 L.length c9]) (by simp [results, Tryz.results75, go_sem, World.cell?_setCell_same, World.cell?_setCell_other, r0, r1, r2, hRl]) rfl ?_
              have hmm := HMM.out
              rw [HT.out]
              refine ⟨1, ix, a9, L.length, c9, m, rfl, ((XS.out.2.2.2.1.setOther _ _ (by omega)).setOther _ _ (by omega)).setOther _ _ (by omega), ((XS.out.1.setNew (by omega) _ _).setNew (by omega) _ _).setNew (by omega) _ _, fun h => ⟨by rw [hzL]; omega, rfl, rfl, rfl, (S9.out.kept fun b hb => ?_).mono fun b hb _ => ?_⟩, fun h => by omega⟩
              · have hb' : O + 1 ≤ b := hb.elim False.elim id
                rw [Below.heap_setCell _ _ _ _ (by simp; omega), Below.heap_setCell _ _ _ _ (by simp; omega), Below.heap_setCell _ _ _ _ (by simp; omega)]
              · have hb' : O + 1 ≤ b := hb.elim False.elim id
                omega
          · have XS := hide hset
            clear hset
            have f0 : ∀ o, (wr.alloc o).cell? ⟨F, 0, none⟩ = some (.int .i64 (-1)) := fun o => (XS.out.2.2.2.1.alloc o).cell 0
            have r0 : wr.cell? ⟨w.heap.size + 1, 0, none⟩ = some (.int .i64 0) := XS.out.2.1.cell 0
            have r1 : wr.cell? ⟨w.heap.size + 1, 1, none⟩ = some (.int .i64 0) := XS.out.2.1.cell 1
            have r2 : wr.cell? ⟨w.heap.size + 1, 2, none⟩ = some (.slice none 0 0) := XS.out.2.1.cell 2
            have rf := XS.out.2.1.frozen
            have hRl : w.heap.size + 1 < wr.heap.size := XS.out.2.1.lt
            by_cases hlt : k < l.length
            · obtain ⟨b, o, a', c', rfl, d0, d0', d1, hx⟩ := (HS.out.ex XS.out.1 HXF.out).get (Below.refl _ _) (fun _ _ h => h) k hlt
              clear hx
              have o0 : ∀ o, (wr.alloc o).cell? ⟨O, 0, none⟩ = some (.int .i64 1) := fun o => (XS.out.2.2.1.alloc o).cell 0
              have o1 : ∀ o, (wr.alloc o).cell? ⟨O, 1, none⟩ = some (.int .i64 ix) := fun o => (XS.out.2.2.1.alloc o).cell 1
              have o2 : ∀ o, (wr.alloc o).cell? ⟨O, 2, none⟩ = some (.slice a9 l9 c9) := fun o => (XS.out.2.2.1.alloc o).cell 2
              go_wp2_with fail
              refine bodyPost_ret (v := .agg #[.int .i64 1, .int .i64 ix, .slice a9 l9 c9]) (by simp [results, Tryz.results75, go_sem, World.cell?_setCell_same, World.cell?_setCell_other, r0, r1, r2, hRl, World.cell?_alloc_old]) rfl ?_
              rw [HT.out]
              exact ⟨1, ix, a9, l9, c9, -1, rfl, (((XS.out.2.2.2.1.setOther _ _ (by omega)).setOther _ _ (by omega)).setOther _ _ (by omega)).alloc _, (((XS.out.1.setNew (by omega) _ _).setNew (by omega) _ _).setNew (by omega) _ _).alloc _, fun h => by omega, fun _ => rfl⟩
            · have o0 : wr.cell? ⟨O, 0, none⟩ = some (.int .i64 1) := XS.out.2.2.1.cell 0
              have o1 : wr.cell? ⟨O, 1, none⟩ = some (.int .i64 ix) := XS.out.2.2.1.cell 1
              have o2 : wr.cell? ⟨O, 2, none⟩ = some (.slice a9 l9 c9) := XS.out.2.2.1.cell 2
              go_wp2_with fail
              refine bodyPost_ret (v := .agg #[.int .i64 1, .int .i64 ix, .slice a9 l9 c9]) (by simp [results, Tryz.results75, go_sem, World.cell?_setCell_same, World.cell?_setCell_other, r0, r1, r2, hRl]) rfl ?_
              rw [HT.out]
              exact ⟨1, ix, a9, l9, c9, -1, rfl, ((XS.out.2.2.2.1.setOther _ _ (by omega)).setOther _ _ (by omega)).setOther _ _ (by omega), ((XS.out.1.setNew (by omega) _ _).setNew (by omega) _ _).setNew (by omega) _ _, fun h => by omega, fun _ => rfl⟩
      · have hge : d ≤ ix := by omega
        have HT : Hid (insT z d ⟨1, ix, l⟩ = putL z ix d) := by unfold Hid insT putL; simp [hlt]
        have HC := hide (put1_any F B z ix d n ((w.alloc (.cells #[.int .i64 1, .int .i64 ix, .slice a l.length c] 26)).alloc (.cells #[.int .i64 0, .int .i64 0, .slice none 0 0] 26)) X hn (by omega) (by omega) hd0 (by omega) hzs hzb hzl ((HF.out.alloc _).alloc _) hBF HXF.out ((HE.out.later ((Below.refl _ _).alloc (Nat.le_refl _) _)).later ((Below.refl _ _).alloc (Nat.le_refl _) _)))
        clear hl0 hl1
        go_enter Tryz.func75, Tryz.ntmps75
        go_wp2_with fail
        refine HC.out.mono ?_
        rintro e w1 ⟨k', x', a', l', c', m, rfl, hF1, hx1, hy1, hn1⟩
        have R1 : Hid (Blk w1 (w.heap.size + 1) #[.int .i64 0, .int .i64 0, .slice none 0 0] 26) := by
          have h := (Blk.new (w.alloc (.cells #[.int .i64 1, .int .i64 ix, .slice a l.length c] 26)) #[.int .i64 0, .int .i64 0, .slice none 0 0] 26).ex hx1 (by simp; omega)
          rw [World.size_alloc] at h
          exact h
        have HX := hide ((((Ex.refl F w).alloc (.cells #[.int .i64 1, .int .i64 ix, .slice a l.length c] 26)).alloc (.cells #[.int .i64 0, .int .i64 0, .slice none 0 0] 26)).trans hx1)
        have HF1 := hide hF1
        have HY := hide hy1
        have HN := hide hn1
        clear hF1 hx1 hy1 hn1
        have r0 : w1.cell? ⟨w.heap.size + 1, 0, none⟩ = some (.int .i64 0) := R1.out.cell 0
        have r1 : w1.cell? ⟨w.heap.size + 1, 1, none⟩ = some (.int .i64 0) := R1.out.cell 1
        have r2 : w1.cell? ⟨w.heap.size + 1, 2, none⟩ = some (.slice none 0 0) := R1.out.cell 2
        have rf := R1.out.frozen
        have hRl := R1.out.lt
        go_wp2_with fail
        refine bodyPost_ret (v := .agg #[.int .i64 k', .int .i64 x', .slice a' l' c']) (by simp [results, Tryz.results75, go_sem, World.cell?_setCell_same, World.cell?_setCell_other, r0, r1, r2, hRl]) rfl ?_
        rw [HT.out]
        exact mk_end (W := (w.alloc (.cells #[.int .i64 1, .int .i64 ix, .slice a l.length c] 26)).alloc (.cells #[.int .i64 0, .int .i64 0, .slice none 0 0] 26)) hFl (by omega) (by simp) HF1.out HX.out HY.out HN.out
    case neg =>
      have e1 : (kd == 1) = false := by simpa using k1
      clear hl1
      by_cases k2 : kd = 2
      case pos =>
        subst k2
        obtain ⟨L, hLd⟩ : ∃ L, L = insM z (d + 1) l := ⟨_, rfl⟩
        have hw1 : IntKind.i64.wrap (d + 1) = d + 1 := by rw [IntKind.wrap_i64]; omega
        have HT : Hid (insT z d ⟨2, ix, l⟩ = ⟨2, ix, L⟩) := by unfold Hid insT; rw [hLd]; simp [deepK]
        have HLL : Hid (L.length = l.length) := by unfold Hid; rw [hLd, insM_map]; simp
        have HLG : Hid (∀ k (h : k < l.length) (h' : k < L.length), L[k] = insT z (d + 1) l[k]) := fun k h h' => by subst hLd; simp [insM_map]
        have hzL : sizeM [(⟨2, ix, L⟩ : Lm)] = 1 + sizeM L := by simp [sizeM]
        clear hLd
        go_enter Tryz.func75, Tryz.ntmps75
        go_wp2_with fail
        have E3 : Hid (MnSet w F (w.heap.size + 1 + 1) 2 ix (.slice none 0 0) #[.int .i64 ((n : Int) - 1)] ((((w.setCell ⟨F, 0, none⟩ (.int .i64 ((n : Int) - 1))).alloc (.cells #[.int .i64 2, .int .i64 ix, .slice a l.length c] 26)).alloc (.cells #[.int .i64 0, .int .i64 0, .slice none 0 0] 26)).alloc (.cells #[.int .i64 2, .int .i64 ix, .slice none 0 0] 26))) := by
          refine ⟨((((Ex.refl F w).set 0 _).alloc _).alloc _).alloc _, ?_, ?_, (((HF.out.set 0 _).alloc _).alloc _).alloc _, by simp [World.setCell]⟩
          · have h := (Blk.new ((w.setCell ⟨F, 0, none⟩ (.int .i64 ((n : Int) - 1))).alloc (.cells #[.int .i64 2, .int .i64 ix, .slice a l.length c] 26)) #[.int .i64 0, .int .i64 0, .slice none 0 0] 26).alloc (.cells #[.int .i64 2, .int .i64 ix, .slice none 0 0] 26)
            simpa [World.setCell] using h
          · have h := Blk.new (((w.setCell ⟨F, 0, none⟩ (.int .i64 ((n : Int) - 1))).alloc (.cells #[.int .i64 2, .int .i64 ix, .slice a l.length c] 26)).alloc (.cells #[.int .i64 0, .int .i64 0, .slice none 0 0] 26)) #[.int .i64 2, .int .i64 ix, .slice none 0 0] 26
            simpa [World.setCell] using h
        generalize ((((w.setCell ⟨F, 0, none⟩ (.int .i64 ((n : Int) - 1))).alloc (.cells #[.int .i64 2, .int .i64 ix, .slice a l.length c] 26)).alloc (.cells #[.int .i64 0, .int .i64 0, .slice none 0 0] 26)).alloc (.cells #[.int .i64 2, .int .i64 ix, .slice none 0 0] 26)) = w3 at *
        generalize hOe : w.heap.size + 1 + 1 = O at *
        have hO : w.heap.size + 2 ≤ O := by omega
        clear hOe f0 ff f0' ff'
        go_loopw [46] (fun i wr => MnInv w F O 2 ix L n i wr) (fun i wr => l.length - (intOf i).toNat)
        case atStart =>
          refine ⟨0, .slice none 0 0, Nat.zero_le _, rfl, ?_⟩
          by_cases hn0 : n = 0
          · subst hn0
            exact Or.inr ⟨by omega, E3.out, none, 0, 0, rfl⟩
          · refine Or.inl ⟨n - 1, [], by simp [sizeM]; omega, ?_, RowM.start _ _ _ _⟩
            rw [show ((n - 1 : Nat) : Int) = (n : Int) - 1 by omega]
            exact E3.out
        case round =>
          obtain ⟨k, u, hk, rfl, hcase⟩ := hrel
          have HKL := hide hk
          rw [HLL.out] at hk
          rcases hcase with ⟨m, xs, hm, hset, hrow⟩ | ⟨hbig, hset, a9, l9, c9, rfl⟩
          · have XS := hide hset
            have XW := hide hrow
            have HMM := hide hm
            clear hset hrow
            by_cases hlt : k < l.length
            · have hltL : k < L.length := by rw [HLL.out]; exact hlt
              obtain ⟨b, o, a', c', rfl, d0, d0', d1, hx⟩ := (HS.out.ex XS.out.1 HXF.out).get (Below.refl _ _) (fun _ _ h => h) k hlt
              obtain ⟨av, cv, ev, hsx⟩ := hx
              simp at ev
              obtain ⟨rfl, rfl⟩ := ev
              have hmn : m ≤ 9223372036854775807 := by omega
              have HOF : Hid (O ≠ F) := by unfold Hid; omega
              have HFO1 : Hid (F < O + 1) := by unfold Hid; omega
              have hsk : (L.take k).length = k := by simp; omega
              have hkn : k ≤ 1000000 := by omega
              have HL1 : Hid ((L.take k).length + 1 ≤ maxLen ∧ ((L.take k).length + 1) * 40 ≤ 140737488355328) := by unfold Hid; rw [hsk]; exact ⟨by unfold maxLen; omega, by omega⟩
              clear hsk
              have HLK : Hid (L[k] = insT z (d + 1) l[k]) := HLG.out k hlt hltL
              have hszk : sizeM [l[k]] ≤ sizeM l := by
                have h1 := sizeM_take l k hlt
                have h2 := sizeM_take_le l (k + 1)
                omega
              have IHQ : Hid (Calls Tryz.prog 75 #[.pointer (some ⟨F, 0, none⟩), .agg #[.int .i64 l[k].kind, .int .i64 l[k].idx, .slice a' l[k].subs.length c'], .int .i64 (d + 1), .func (.func 78) #[] #[.pointer (some ⟨F, 0, none⟩), .pointer (some ⟨B, 0, none⟩)]] (wr.alloc (.cells #[.int .i64 l[k].kind, .int .i64 l[k].idx, .slice a' l[k].subs.length c'] 26)).drew fun e w'' => MkPost (wr.alloc (.cells #[.int .i64 l[k].kind, .int .i64 l[k].idx, .slice a' l[k].subs.length c'] 26)).drew F (insT z (d + 1) l[k]) m e w'') := (IH.out l[k] (List.getElem_mem hlt) m _ (d + 1) _ X ⟨a', c', rfl, ((hsx.later ((Below.refl _ _).alloc (Nat.le_refl _) (.cells #[.int .i64 l[k].kind, .int .i64 l[k].idx, .slice a' l[k].subs.length c'] 26))).later ((Below.refl _ _).drew))⟩ HXF.out hmn (by omega) (by omega) (BndM.at k hlt HBN.out) (LfM.at k hlt HLF.out) (by exact ((XS.out.2.2.2.1.alloc _).drewN 1)) (HE.out.ex XS.out.1 hBF HXF.out |>.later ((Below.refl _ _).alloc (Nat.le_refl _) _) |>.later ((Below.refl _ _).drew)))
              have f0 : ∀ o, (wr.alloc o).cell? ⟨F, 0, none⟩ = some (.int .i64 (m : Int)) := fun o => (XS.out.2.2.2.1.alloc o).cell 0
              have o1 : ∀ o, (wr.alloc o).cell? ⟨O, 2, none⟩ = some u := fun o => (XS.out.2.2.1.alloc o).cell 2
              have hm0 : ¬ (m : Int) < 0 := by omega
              rw [← HLK.out] at IHQ
              by_cases hle : sizeM [L[k]] ≤ m
              · have IHG : Hid (Calls Tryz.prog 75 #[.pointer (some ⟨F, 0, none⟩), .agg #[.int .i64 l[k].kind, .int .i64 l[k].idx, .slice a' l[k].subs.length c'], .int .i64 (d + 1), .func (.func 78) #[] #[.pointer (some ⟨F, 0, none⟩), .pointer (some ⟨B, 0, none⟩)]] (wr.alloc (.cells #[.int .i64 l[k].kind, .int .i64 l[k].idx, .slice a' l[k].subs.length c'] 26)).drew fun e w'' => ∃ a1 c1, e = .returned (.agg #[.int .i64 L[k].kind, .int .i64 L[k].idx, .slice a1 L[k].subs.length c1]) ∧ Blk w'' F #[.int .i64 ((m : Int) - sizeM [L[k]])] 91 ∧ Ex F wr w'' ∧ SlM w'' (fun b => wr.heap.size ≤ b) a1 L[k].subs) := IHQ.out.mono fun e w'' hp => by
                  obtain ⟨s1, s2, a1, l1, c1, m1, h1, h2, h3, h4, _⟩ := hp
                  obtain ⟨rfl, rfl, rfl, rfl, h5⟩ := h4 hle
                  exact ⟨a1, c1, h1, h2, (((Ex.refl F wr).alloc _).drew).trans h3, h5.mono fun b hb _ => by simp at hb; omega⟩
                clear IHQ
                have HLE := hide hle
                have HLL2 := hide hltL
                clear hle HLK hszk hx0 hx1 hd0 hd1 hsml hkn hmn
                go_wp2_with fail
                go_region_law (first
                  | (go_simp; go_at_call 75; refine IHG.out.mono ?_; rintro e w1 ⟨a1, c1, rfl, hF1, he1, hs1⟩; have hc3 : ∀ o, (w1.alloc o).cell? ⟨O, 2, none⟩ = some u := fun o => ((Blk.ex XS.out.2.2.1 he1 HOF.out).alloc o).cell 2; have hc4 : w1.cell? ⟨O, 2, none⟩ = some u := (Blk.ex XS.out.2.2.1 he1 HOF.out).cell 2)
                  | (refine step_append_lies _ rfl _ _ 24 rfl (O + 1) 26 i0 _ 3 40 Tryz.underlying24 hi0 hz0 hz1 hz2 rfl (by decide) u (L.take k).length xs rfl (by exact (RowM.ex (B := F) XW.out he1 HFO1.out (fun h => h)).own.alloc _) ⟨w1.heap.size, 0, none⟩ 1 1 [.int .i64 L[k].kind, .int .i64 L[k].idx, .slice a1 L[k].subs.length c1] rfl rfl (cell_lam_new _ _ _ _ _) (fun x hx => by simp at hx; rcases hx with rfl | rfl | rfl <;> rfl) (by decide) HL1.out.1 HL1.out.2 (by have := he1.size; have := XS.out.2.2.2.2; simp; omega) _ rfl ?_; intro g cap w3 hown3 hgrow3 hat3 hlt3; have hB3 := hide (((Blk.ex XS.out.2.2.1 he1 HOF.out).alloc _).grown hgrow3 (XW.out.ne (Nat.lt_succ_self _))); have hc5 : w3.cell? ⟨O, 2, none⟩ = some u := hB3.out.cell 2; have hf5 := hB3.out.frozen 2))
                all_goals
                  have HK := hide (mn_set (v := .slice (some ⟨g, 0, none⟩) ((L.take k).length + 1) cap) hFl hO XS.out (fun j hj => (XW.out.own.lt j hj).1) he1 hF1 hgrow3)
                  have HRW := hide (mn_row (t := L[k]) (by omega) XS.out.2.2.2.2 XW.out he1 ⟨a1, c1, rfl, hs1⟩ hown3 hgrow3 hat3)
                  clear hown3 hgrow3 hat3 hc3 hc4 hc5 hf5 hB3 hF1 he1 hs1 hlt3
                  go_wp2_with fail
                  go_roundw
                  case rel =>
                    have hkl : (L.take k).length = k := by simp; omega
                    have hmin : min k L.length = k := Nat.min_eq_left (by have := HKL.out; omega)
                    simp only [hmin]
                    have h1 := HK.out
                    have h2 := HRW.out
                    have hmm := HMM.out
                    have hle := HLE.out
                    simp only [hkl] at h1 h2
                    obtain ⟨m', hm'⟩ : ∃ m' : Nat, (m' : Int) = (m : Int) - sizeM [L[k]] := ⟨m - sizeM [L[k]], by omega⟩
                    refine ⟨k + 1, .slice (some ⟨g, 0, none⟩) (k + 1) cap, by omega, by go_num, Or.inl ⟨m', xs ++ [.int .i64 L[k].kind, .int .i64 L[k].idx, .slice a1 L[k].subs.length c1], by rw [sizeM_take L k hltL]; omega, ?_, ?_⟩⟩
                    · rw [hm']
                      exact h1
                    · rw [List.take_succ_eq_append_getElem hltL]
                      exact h2
                  case measure => simp [intOf]; omega
              · have IHG : Hid (Calls Tryz.prog 75 #[.pointer (some ⟨F, 0, none⟩), .agg #[.int .i64 l[k].kind, .int .i64 l[k].idx, .slice a' l[k].subs.length c'], .int .i64 (d + 1), .func (.func 78) #[] #[.pointer (some ⟨F, 0, none⟩), .pointer (some ⟨B, 0, none⟩)]] (wr.alloc (.cells #[.int .i64 l[k].kind, .int .i64 l[k].idx, .slice a' l[k].subs.length c'] 26)).drew fun e w'' => ∃ s1 s2 a1 l1 c1, e = .returned (.agg #[.int .i64 s1, .int .i64 s2, .slice a1 l1 c1]) ∧ Blk w'' F #[.int .i64 (-1)] 91 ∧ Ex F wr w'') := IHQ.out.mono fun e w'' hp => by
                  obtain ⟨s1, s2, a1, l1, c1, m1, h1, h2, h3, _, h4⟩ := hp
                  obtain rfl := h4 (by omega)
                  exact ⟨s1, s2, a1, l1, c1, h1, h2, (((Ex.refl F wr).alloc _).drew).trans h3⟩
                clear IHQ
                have HLE := hide hle
                have HLL2 := hide hltL
                clear hle HLK hszk hx0 hx1 hd0 hd1 hsml hkn hmn
                go_wp2_with fail
                go_region_law (first
                  | (go_simp; go_at_call 75; refine IHG.out.mono ?_; rintro e w1 ⟨s1, s2, a1, l1, c1, rfl, hF1, he1⟩; have hc3 : ∀ o, (w1.alloc o).cell? ⟨O, 2, none⟩ = some u := fun o => ((Blk.ex XS.out.2.2.1 he1 HOF.out).alloc o).cell 2; have hc4 : w1.cell? ⟨O, 2, none⟩ = some u := (Blk.ex XS.out.2.2.1 he1 HOF.out).cell 2)
                  | (refine step_append_lies _ rfl _ _ 24 rfl (O + 1) 26 i0 _ 3 40 Tryz.underlying24 hi0 hz0 hz1 hz2 rfl (by decide) u (L.take k).length xs rfl (by exact (RowM.ex (B := F) XW.out he1 HFO1.out (fun h => h)).own.alloc _) ⟨w1.heap.size, 0, none⟩ 1 1 [.int .i64 s1, .int .i64 s2, .slice a1 l1 c1] rfl rfl (cell_lam_new _ _ _ _ _) (fun x hx => by simp at hx; rcases hx with rfl | rfl | rfl <;> rfl) (by decide) HL1.out.1 HL1.out.2 (by have := he1.size; have := XS.out.2.2.2.2; simp; omega) _ rfl ?_; intro g cap w3 hown3 hgrow3 hat3 hlt3; have hB3 := hide (((Blk.ex XS.out.2.2.1 he1 HOF.out).alloc _).grown hgrow3 (XW.out.ne (Nat.lt_succ_self _))); have hc5 : w3.cell? ⟨O, 2, none⟩ = some u := hB3.out.cell 2; have hf5 := hB3.out.frozen 2))
                all_goals
                  have HK := hide (mn_set (v := .slice (some ⟨g, 0, none⟩) ((L.take k).length + 1) cap) hFl hO XS.out (fun j hj => (XW.out.own.lt j hj).1) he1 hF1 hgrow3)
                  clear hown3 hgrow3 hat3 hc3 hc4 hc5 hf5 hB3 hF1 he1 hlt3
                  go_wp2_with fail
                  go_roundw
                  case rel =>
                    have hkl : (L.take k).length = k := by simp; omega
                    have hmin : min k L.length = k := Nat.min_eq_left (by have := HKL.out; omega)
                    simp only [hmin]
                    have h0 := HK.out
                    have hmm := HMM.out
                    have hle := HLE.out
                    simp only [hkl] at h0
                    refine ⟨k + 1, .slice (some ⟨g, 0, none⟩) (k + 1) cap, by omega, by go_num, Or.inr ⟨?_, h0, _, _, _, rfl⟩⟩
                    have h1 := sizeM_take L k hltL
                    have h2 := sizeM_take_le L (k + 1)
                    omega
                  case measure => simp [intOf]; omega
            · have htk : L.take k = L := List.take_of_length_le (by rw [HLL.out]; omega)
              rw [htk] at XW HMM
              obtain ⟨a9, c9, hu9, hsl9⟩ := XW.out.sl
              subst hu9
              have S9 := hide hsl9
              clear hsl9
              have r0 : wr.cell? ⟨w.heap.size + 1, 0, none⟩ = some (.int .i64 0) := XS.out.2.1.cell 0
              have r1 : wr.cell? ⟨w.heap.size + 1, 1, none⟩ = some (.int .i64 0) := XS.out.2.1.cell 1
              have r2 : wr.cell? ⟨w.heap.size + 1, 2, none⟩ = some (.slice none 0 0) := XS.out.2.1.cell 2
              have rf := XS.out.2.1.frozen
              have hRl : w.heap.size + 1 < wr.heap.size := XS.out.2.1.lt
              have o0 : wr.cell? ⟨O, 0, none⟩ = some (.int .i64 2) := XS.out.2.2.1.cell 0
              have o1 : wr.cell? ⟨O, 1, none⟩ = some (.int .i64 ix) := XS.out.2.2.1.cell 1
              have o2 : wr.cell? ⟨O, 2, none⟩ = some (.slice a9 L.length c9) := XS.out.2.2.1.cell 2
              go_wp2_with fail
              refine bodyPost_ret (v := .agg #[.int .i64 2, .int .i64 ix, .slice a9 L.length c9]) (by simp [results, Tryz.results75, go_sem, World.cell?_setCell_same, World.cell?_setCell_other, r0, r1, r2, hRl]) rfl ?_
              have hmm := HMM.out
              rw [HT.out]
              refine ⟨2, ix, a9, L.length, c9, m, rfl, ((XS.out.2.2.2.1.setOther _ _ (by omega)).setOther _ _ (by omega)).setOther _ _ (by omega), ((XS.out.1.setNew (by omega) _ _).setNew (by omega) _ _).setNew (by omega) _ _, fun h => ⟨by rw [hzL]; omega, rfl, rfl, rfl, (S9.out.kept fun b hb => ?_).mono fun b hb _ => ?_⟩, fun h => by omega⟩
              · have hb' : O + 1 ≤ b := hb.elim False.elim id
                rw [Below.heap_setCell _ _ _ _ (by simp; omega), Below.heap_setCell _ _ _ _ (by simp; omega), Below.heap_setCell _ _ _ _ (by simp; omega)]
              · have hb' : O + 1 ≤ b := hb.elim False.elim id
                omega
          · have XS := hide hset
            clear hset
            have f0 : ∀ o, (wr.alloc o).cell? ⟨F, 0, none⟩ = some (.int .i64 (-1)) := fun o => (XS.out.2.2.2.1.alloc o).cell 0
            have r0 : wr.cell? ⟨w.heap.size + 1, 0, none⟩ = some (.int .i64 0) := XS.out.2.1.cell 0
            have r1 : wr.cell? ⟨w.heap.size + 1, 1, none⟩ = some (.int .i64 0) := XS.out.2.1.cell 1
            have r2 : wr.cell? ⟨w.heap.size + 1, 2, none⟩ = some (.slice none 0 0) := XS.out.2.1.cell 2
            have rf := XS.out.2.1.frozen
            have hRl : w.heap.size + 1 < wr.heap.size := XS.out.2.1.lt
            by_cases hlt : k < l.length
            · obtain ⟨b, o, a', c', rfl, d0, d0', d1, hx⟩ := (HS.out.ex XS.out.1 HXF.out).get (Below.refl _ _) (fun _ _ h => h) k hlt
              clear hx
              have o0 : ∀ o, (wr.alloc o).cell? ⟨O, 0, none⟩ = some (.int .i64 2) := fun o => (XS.out.2.2.1.alloc o).cell 0
              have o1 : ∀ o, (wr.alloc o).cell? ⟨O, 1, none⟩ = some (.int .i64 ix) := fun o => (XS.out.2.2.1.alloc o).cell 1
              have o2 : ∀ o, (wr.alloc o).cell? ⟨O, 2, none⟩ = some (.slice a9 l9 c9) := fun o => (XS.out.2.2.1.alloc o).cell 2
              go_wp2_with fail
              refine bodyPost_ret (v := .agg #[.int .i64 2, .int .i64 ix, .slice a9 l9 c9]) (by simp [results, Tryz.results75, go_sem, World.cell?_setCell_same, World.cell?_setCell_other, r0, r1, r2, hRl, World.cell?_alloc_old]) rfl ?_
              rw [HT.out]
              exact ⟨2, ix, a9, l9, c9, -1, rfl, (((XS.out.2.2.2.1.setOther _ _ (by omega)).setOther _ _ (by omega)).setOther _ _ (by omega)).alloc _, (((XS.out.1.setNew (by omega) _ _).setNew (by omega) _ _).setNew (by omega) _ _).alloc _, fun h => by omega, fun _ => rfl⟩
            · have o0 : wr.cell? ⟨O, 0, none⟩ = some (.int .i64 2) := XS.out.2.2.1.cell 0
              have o1 : wr.cell? ⟨O, 1, none⟩ = some (.int .i64 ix) := XS.out.2.2.1.cell 1
              have o2 : wr.cell? ⟨O, 2, none⟩ = some (.slice a9 l9 c9) := XS.out.2.2.1.cell 2
              go_wp2_with fail
              refine bodyPost_ret (v := .agg #[.int .i64 2, .int .i64 ix, .slice a9 l9 c9]) (by simp [results, Tryz.results75, go_sem, World.cell?_setCell_same, World.cell?_setCell_other, r0, r1, r2, hRl]) rfl ?_
              rw [HT.out]
              exact ⟨2, ix, a9, l9, c9, -1, rfl, ((XS.out.2.2.2.1.setOther _ _ (by omega)).setOther _ _ (by omega)).setOther _ _ (by omega), ((XS.out.1.setNew (by omega) _ _).setNew (by omega) _ _).setNew (by omega) _ _, fun h => by omega, fun _ => rfl⟩
      case neg =>
        have e2 : (kd == 2) = false := by simpa using k2
        obtain ⟨L, hLd⟩ : ∃ L, L = insM z d l := ⟨_, rfl⟩
        have HT : Hid (insT z d ⟨kd, ix, l⟩ = ⟨kd, ix, L⟩) := by unfold Hid insT; rw [hLd]; simp [deepK, k1, k2]
        have HLL : Hid (L.length = l.length) := by unfold Hid; rw [hLd, insM_map]; simp
        have HLG : Hid (∀ k (h : k < l.length) (h' : k < L.length), L[k] = insT z (d) l[k]) := fun k h h' => by subst hLd; simp [insM_map]
        have hzL : sizeM [(⟨kd, ix, L⟩ : Lm)] = 1 + sizeM L := by simp [sizeM]
        clear hLd
        go_enter Tryz.func75, Tryz.ntmps75
        go_wp2_with fail
        have E3 : Hid (MnSet w F (w.heap.size + 1 + 1) kd ix (.slice none 0 0) #[.int .i64 ((n : Int) - 1)] ((((w.setCell ⟨F, 0, none⟩ (.int .i64 ((n : Int) - 1))).alloc (.cells #[.int .i64 kd, .int .i64 ix, .slice a l.length c] 26)).alloc (.cells #[.int .i64 0, .int .i64 0, .slice none 0 0] 26)).alloc (.cells #[.int .i64 kd, .int .i64 ix, .slice none 0 0] 26))) := by
          refine ⟨((((Ex.refl F w).set 0 _).alloc _).alloc _).alloc _, ?_, ?_, (((HF.out.set 0 _).alloc _).alloc _).alloc _, by simp [World.setCell]⟩
          · have h := (Blk.new ((w.setCell ⟨F, 0, none⟩ (.int .i64 ((n : Int) - 1))).alloc (.cells #[.int .i64 kd, .int .i64 ix, .slice a l.length c] 26)) #[.int .i64 0, .int .i64 0, .slice none 0 0] 26).alloc (.cells #[.int .i64 kd, .int .i64 ix, .slice none 0 0] 26)
            simpa [World.setCell] using h
          · have h := Blk.new (((w.setCell ⟨F, 0, none⟩ (.int .i64 ((n : Int) - 1))).alloc (.cells #[.int .i64 kd, .int .i64 ix, .slice a l.length c] 26)).alloc (.cells #[.int .i64 0, .int .i64 0, .slice none 0 0] 26)) #[.int .i64 kd, .int .i64 ix, .slice none 0 0] 26
            simpa [World.setCell] using h
        generalize ((((w.setCell ⟨F, 0, none⟩ (.int .i64 ((n : Int) - 1))).alloc (.cells #[.int .i64 kd, .int .i64 ix, .slice a l.length c] 26)).alloc (.cells #[.int .i64 0, .int .i64 0, .slice none 0 0] 26)).alloc (.cells #[.int .i64 kd, .int .i64 ix, .slice none 0 0] 26)) = w3 at *
        generalize hOe : w.heap.size + 1 + 1 = O at *
        have hO : w.heap.size + 2 ≤ O := by omega
        clear hOe f0 ff f0' ff'
        go_loopw [46] (fun i wr => MnInv w F O kd ix L n i wr) (fun i wr => l.length - (intOf i).toNat)
        case atStart =>
          refine ⟨0, .slice none 0 0, Nat.zero_le _, rfl, ?_⟩
          by_cases hn0 : n = 0
          · subst hn0
            exact Or.inr ⟨by omega, E3.out, none, 0, 0, rfl⟩
          · refine Or.inl ⟨n - 1, [], by simp [sizeM]; omega, ?_, RowM.start _ _ _ _⟩
            rw [show ((n - 1 : Nat) : Int) = (n : Int) - 1 by omega]
            exact E3.out
        case round =>
          obtain ⟨k, u, hk, rfl, hcase⟩ := hrel
          have HKL := hide hk
          rw [HLL.out] at hk
          rcases hcase with ⟨m, xs, hm, hset, hrow⟩ | ⟨hbig, hset, a9, l9, c9, rfl⟩
          · have XS := hide hset
            have XW := hide hrow
            have HMM := hide hm
            clear hset hrow
            by_cases hlt : k < l.length
            · have hltL : k < L.length := by rw [HLL.out]; exact hlt
              obtain ⟨b, o, a', c', rfl, d0, d0', d1, hx⟩ := (HS.out.ex XS.out.1 HXF.out).get (Below.refl _ _) (fun _ _ h => h) k hlt
              obtain ⟨av, cv, ev, hsx⟩ := hx
              simp at ev
              obtain ⟨rfl, rfl⟩ := ev
              have hmn : m ≤ 9223372036854775807 := by omega
              have HOF : Hid (O ≠ F) := by unfold Hid; omega
              have HFO1 : Hid (F < O + 1) := by unfold Hid; omega
              have hsk : (L.take k).length = k := by simp; omega
              have hkn : k ≤ 1000000 := by omega
              have HL1 : Hid ((L.take k).length + 1 ≤ maxLen ∧ ((L.take k).length + 1) * 40 ≤ 140737488355328) := by unfold Hid; rw [hsk]; exact ⟨by unfold maxLen; omega, by omega⟩
              clear hsk
              have HLK : Hid (L[k] = insT z (d) l[k]) := HLG.out k hlt hltL
              have hszk : sizeM [l[k]] ≤ sizeM l := by
                have h1 := sizeM_take l k hlt
                have h2 := sizeM_take_le l (k + 1)
                omega
              have IHQ : Hid (Calls Tryz.prog 75 #[.pointer (some ⟨F, 0, none⟩), .agg #[.int .i64 l[k].kind, .int .i64 l[k].idx, .slice a' l[k].subs.length c'], .int .i64 (d), .func (.func 78) #[] #[.pointer (some ⟨F, 0, none⟩), .pointer (some ⟨B, 0, none⟩)]] (wr.alloc (.cells #[.int .i64 l[k].kind, .int .i64 l[k].idx, .slice a' l[k].subs.length c'] 26)).drew fun e w'' => MkPost (wr.alloc (.cells #[.int .i64 l[k].kind, .int .i64 l[k].idx, .slice a' l[k].subs.length c'] 26)).drew F (insT z (d) l[k]) m e w'') := (IH.out l[k] (List.getElem_mem hlt) m _ (d) _ X ⟨a', c', rfl, ((hsx.later ((Below.refl _ _).alloc (Nat.le_refl _) (.cells #[.int .i64 l[k].kind, .int .i64 l[k].idx, .slice a' l[k].subs.length c'] 26))).later ((Below.refl _ _).drew))⟩ HXF.out hmn (by omega) (by omega) (BndM.at k hlt HBN.out) (LfM.at k hlt HLF.out) (by exact ((XS.out.2.2.2.1.alloc _).drewN 1)) (HE.out.ex XS.out.1 hBF HXF.out |>.later ((Below.refl _ _).alloc (Nat.le_refl _) _) |>.later ((Below.refl _ _).drew)))
              have f0 : ∀ o, (wr.alloc o).cell? ⟨F, 0, none⟩ = some (.int .i64 (m : Int)) := fun o => (XS.out.2.2.2.1.alloc o).cell 0
              have o1 : ∀ o, (wr.alloc o).cell? ⟨O, 2, none⟩ = some u := fun o => (XS.out.2.2.1.alloc o).cell 2
              have hm0 : ¬ (m : Int) < 0 := by omega
              rw [← HLK.out] at IHQ
              by_cases hle : sizeM [L[k]] ≤ m
              · have IHG : Hid (Calls Tryz.prog 75 #[.pointer (some ⟨F, 0, none⟩), .agg #[.int .i64 l[k].kind, .int .i64 l[k].idx, .slice a' l[k].subs.length c'], .int .i64 (d), .func (.func 78) #[] #[.pointer (some ⟨F, 0, none⟩), .pointer (some ⟨B, 0, none⟩)]] (wr.alloc (.cells #[.int .i64 l[k].kind, .int .i64 l[k].idx, .slice a' l[k].subs.length c'] 26)).drew fun e w'' => ∃ a1 c1, e = .returned (.agg #[.int .i64 L[k].kind, .int .i64 L[k].idx, .slice a1 L[k].subs.length c1]) ∧ Blk w'' F #[.int .i64 ((m : Int) - sizeM [L[k]])] 91 ∧ Ex F wr w'' ∧ SlM w'' (fun b => wr.heap.size ≤ b) a1 L[k].subs) := IHQ.out.mono fun e w'' hp => by
                  obtain ⟨s1, s2, a1, l1, c1, m1, h1, h2, h3, h4, _⟩ := hp
                  obtain ⟨rfl, rfl, rfl, rfl, h5⟩ := h4 hle
                  exact ⟨a1, c1, h1, h2, (((Ex.refl F wr).alloc _).drew).trans h3, h5.mono fun b hb _ => by simp at hb; omega⟩
                clear IHQ
                have HLE := hide hle
                have HLL2 := hide hltL
                clear hle HLK hszk hx0 hx1 hd0 hd1 hsml hkn hmn
                go_wp2_with fail
                go_region_law (first
                  | (go_simp; go_at_call 75; refine IHG.out.mono ?_; rintro e w1 ⟨a1, c1, rfl, hF1, he1, hs1⟩; have hc3 : ∀ o, (w1.alloc o).cell? ⟨O, 2, none⟩ = some u := fun o => ((Blk.ex XS.out.2.2.1 he1 HOF.out).alloc o).cell 2; have hc4 : w1.cell? ⟨O, 2, none⟩ = some u := (Blk.ex XS.out.2.2.1 he1 HOF.out).cell 2)
                  | (refine step_append_lies _ rfl _ _ 24 rfl (O + 1) 26 i0 _ 3 40 Tryz.underlying24 hi0 hz0 hz1 hz2 rfl (by decide) u (L.take k).length xs rfl (by exact (RowM.ex (B := F) XW.out he1 HFO1.out (fun h => h)).own.alloc _) ⟨w1.heap.size, 0, none⟩ 1 1 [.int .i64 L[k].kind, .int .i64 L[k].idx, .slice a1 L[k].subs.length c1] rfl rfl (cell_lam_new _ _ _ _ _) (fun x hx => by simp at hx; rcases hx with rfl | rfl | rfl <;> rfl) (by decide) HL1.out.1 HL1.out.2 (by have := he1.size; have := XS.out.2.2.2.2; simp; omega) _ rfl ?_; intro g cap w3 hown3 hgrow3 hat3 hlt3; have hB3 := hide (((Blk.ex XS.out.2.2.1 he1 HOF.out).alloc _).grown hgrow3 (XW.out.ne (Nat.lt_succ_self _))); have hc5 : w3.cell? ⟨O, 2, none⟩ = some u := hB3.out.cell 2; have hf5 := hB3.out.frozen 2))
                all_goals
                  have HK := hide (mn_set (v := .slice (some ⟨g, 0, none⟩) ((L.take k).length + 1) cap) hFl hO XS.out (fun j hj => (XW.out.own.lt j hj).1) he1 hF1 hgrow3)
                  have HRW := hide (mn_row (t := L[k]) (by omega) XS.out.2.2.2.2 XW.out he1 ⟨a1, c1, rfl, hs1⟩ hown3 hgrow3 hat3)
                  clear hown3 hgrow3 hat3 hc3 hc4 hc5 hf5 hB3 hF1 he1 hs1 hlt3
                  go_wp2_with fail
                  go_roundw
                  case rel =>
                    have hkl : (L.take k).length = k := by simp; omega
                    have hmin : min k L.length = k := Nat.min_eq_left (by have := HKL.out; omega)
                    simp only [hmin]
                    have h1 := HK.out
                    have h2 := HRW.out
                    have hmm := HMM.out
                    have hle := HLE.out
                    simp only [hkl] at h1 h2
                    obtain ⟨m', hm'⟩ : ∃ m' : Nat, (m' : Int) = (m : Int) - sizeM [L[k]] := ⟨m - sizeM [L[k]], by omega⟩
                    refine ⟨k + 1, .slice (some ⟨g, 0, none⟩) (k + 1) cap, by omega, by go_num, Or.inl ⟨m', xs ++ [.int .i64 L[k].kind, .int .i64 L[k].idx, .slice a1 L[k].subs.length c1], by rw [sizeM_take L k hltL]; omega, ?_, ?_⟩⟩
                    · rw [hm']
                      exact h1
                    · rw [List.take_succ_eq_append_getElem hltL]
                      exact h2
                  case measure => simp [intOf]; omega
              · have IHG : Hid (Calls Tryz.prog 75 #[.pointer (some ⟨F, 0, none⟩), .agg #[.int .i64 l[k].kind, .int .i64 l[k].idx, .slice a' l[k].subs.length c'], .int .i64 (d), .func (.func 78) #[] #[.pointer (some ⟨F, 0, none⟩), .pointer (some ⟨B, 0, none⟩)]] (wr.alloc (.cells #[.int .i64 l[k].kind, .int .i64 l[k].idx, .slice a' l[k].subs.length c'] 26)).drew fun e w'' => ∃ s1 s2 a1 l1 c1, e = .returned (.agg #[.int .i64 s1, .int .i64 s2, .slice a1 l1 c1]) ∧ Blk w'' F #[.int .i64 (-1)] 91 ∧ Ex F wr w'') := IHQ.out.mono fun e w'' hp => by
                  obtain ⟨s1, s2, a1, l1, c1, m1, h1, h2, h3, _, h4⟩ := hp
                  obtain rfl := h4 (by omega)
                  exact ⟨s1, s2, a1, l1, c1, h1, h2, (((Ex.refl F wr).alloc _).drew).trans h3⟩
                clear IHQ
                have HLE := hide hle
                have HLL2 := hide hltL
                clear hle HLK hszk hx0 hx1 hd0 hd1 hsml hkn hmn
                go_wp2_with fail
                go_region_law (first
                  | (go_simp; go_at_call 75; refine IHG.out.mono ?_; rintro e w1 ⟨s1, s2, a1, l1, c1, rfl, hF1, he1⟩; have hc3 : ∀ o, (w1.alloc o).cell? ⟨O, 2, none⟩ = some u := fun o => ((Blk.ex XS.out.2.2.1 he1 HOF.out).alloc o).cell 2; have hc4 : w1.cell? ⟨O, 2, none⟩ = some u := (Blk.ex XS.out.2.2.1 he1 HOF.out).cell 2)
                  | (refine step_append_lies _ rfl _ _ 24 rfl (O + 1) 26 i0 _ 3 40 Tryz.underlying24 hi0 hz0 hz1 hz2 rfl (by decide) u (L.take k).length xs rfl (by exact (RowM.ex (B := F) XW.out he1 HFO1.out (fun h => h)).own.alloc _) ⟨w1.heap.size, 0, none⟩ 1 1 [.int .i64 s1, .int .i64 s2, .slice a1 l1 c1] rfl rfl (cell_lam_new _ _ _ _ _) (fun x hx => by simp at hx; rcases hx with rfl | rfl | rfl <;> rfl) (by decide) HL1.out.1 HL1.out.2 (by have := he1.size; have := XS.out.2.2.2.2; simp; omega) _ rfl ?_; intro g cap w3 hown3 hgrow3 hat3 hlt3; have hB3 := hide (((Blk.ex XS.out.2.2.1 he1 HOF.out).alloc _).grown hgrow3 (XW.out.ne (Nat.lt_succ_self _))); have hc5 : w3.cell? ⟨O, 2, none⟩ = some u := hB3.out.cell 2; have hf5 := hB3.out.frozen 2))
                all_goals
                  have HK := hide (mn_set (v := .slice (some ⟨g, 0, none⟩) ((L.take k).length + 1) cap) hFl hO XS.out (fun j hj => (XW.out.own.lt j hj).1) he1 hF1 hgrow3)
                  clear hown3 hgrow3 hat3 hc3 hc4 hc5 hf5 hB3 hF1 he1 hlt3
                  go_wp2_with fail
                  go_roundw
                  case rel =>
                    have hkl : (L.take k).length = k := by simp; omega
                    have hmin : min k L.length = k := Nat.min_eq_left (by have := HKL.out; omega)
                    simp only [hmin]
                    have h0 := HK.out
                    have hmm := HMM.out
                    have hle := HLE.out
                    simp only [hkl] at h0
                    refine ⟨k + 1, .slice (some ⟨g, 0, none⟩) (k + 1) cap, by omega, by go_num, Or.inr ⟨?_, h0, _, _, _, rfl⟩⟩
                    have h1 := sizeM_take L k hltL
                    have h2 := sizeM_take_le L (k + 1)
                    omega
                  case measure => simp [intOf]; omega
            · have htk : L.take k = L := List.take_of_length_le (by rw [HLL.out]; omega)
              rw [htk] at XW HMM
              obtain ⟨a9, c9, hu9, hsl9⟩ := XW.out.sl
              subst hu9
              have S9 := hide hsl9
              clear hsl9
              have r0 : wr.cell? ⟨w.heap.size + 1, 0, none⟩ = some (.int .i64 0) := XS.out.2.1.cell 0
              have r1 : wr.cell? ⟨w.heap.size + 1, 1, none⟩ = some (.int .i64 0) := XS.out.2.1.cell 1
              have r2 : wr.cell? ⟨w.heap.size + 1, 2, none⟩ = some (.slice none 0 0) := XS.out.2.1.cell 2
              have rf := XS.out.2.1.frozen
              have hRl : w.heap.size + 1 < wr.heap.size := XS.out.2.1.lt
              have o0 : wr.cell? ⟨O, 0, none⟩ = some (.int .i64 kd) := XS.out.2.2.1.cell 0
              have o1 : wr.cell? ⟨O, 1, none⟩ = some (.int .i64 ix) := XS.out.2.2.1.cell 1
              have o2 : wr.cell? ⟨O, 2, none⟩ = some (.slice a9 L.length c9) := XS.out.2.2.1.cell 2
              go_wp2_with fail
              refine bodyPost_ret (v := .agg #[.int .i64 kd, .int .i64 ix, .slice a9 L.length c9]) (by simp [results, Tryz.results75, go_sem, World.cell?_setCell_same, World.cell?_setCell_other, r0, r1, r2, hRl]) rfl ?_
              have hmm := HMM.out
              rw [HT.out]
              refine ⟨kd, ix, a9, L.length, c9, m, rfl, ((XS.out.2.2.2.1.setOther _ _ (by omega)).setOther _ _ (by omega)).setOther _ _ (by omega), ((XS.out.1.setNew (by omega) _ _).setNew (by omega) _ _).setNew (by omega) _ _, fun h => ⟨by rw [hzL]; omega, rfl, rfl, rfl, (S9.out.kept fun b hb => ?_).mono fun b hb _ => ?_⟩, fun h => by omega⟩
              · have hb' : O + 1 ≤ b := hb.elim False.elim id
                rw [Below.heap_setCell _ _ _ _ (by simp; omega), Below.heap_setCell _ _ _ _ (by simp; omega), Below.heap_setCell _ _ _ _ (by simp; omega)]
              · have hb' : O + 1 ≤ b := hb.elim False.elim id
                omega
          · have XS := hide hset
            clear hset
            have f0 : ∀ o, (wr.alloc o).cell? ⟨F, 0, none⟩ = some (.int .i64 (-1)) := fun o => (XS.out.2.2.2.1.alloc o).cell 0
            have r0 : wr.cell? ⟨w.heap.size + 1, 0, none⟩ = some (.int .i64 0) := XS.out.2.1.cell 0
            have r1 : wr.cell? ⟨w.heap.size + 1, 1, none⟩ = some (.int .i64 0) := XS.out.2.1.cell 1
            have r2 : wr.cell? ⟨w.heap.size + 1, 2, none⟩ = some (.slice none 0 0) := XS.out.2.1.cell 2
            have rf := XS.out.2.1.frozen
            have hRl : w.heap.size + 1 < wr.heap.size := XS.out.2.1.lt
            by_cases hlt : k < l.length
            · obtain ⟨b, o, a', c', rfl, d0, d0', d1, hx⟩ := (HS.out.ex XS.out.1 HXF.out).get (Below.refl _ _) (fun _ _ h => h) k hlt
              clear hx
              have o0 : ∀ o, (wr.alloc o).cell? ⟨O, 0, none⟩ = some (.int .i64 kd) := fun o => (XS.out.2.2.1.alloc o).cell 0
              have o1 : ∀ o, (wr.alloc o).cell? ⟨O, 1, none⟩ = some (.int .i64 ix) := fun o => (XS.out.2.2.1.alloc o).cell 1
              have o2 : ∀ o, (wr.alloc o).cell? ⟨O, 2, none⟩ = some (.slice a9 l9 c9) := fun o => (XS.out.2.2.1.alloc o).cell 2
              go_wp2_with fail
              refine bodyPost_ret (v := .agg #[.int .i64 kd, .int .i64 ix, .slice a9 l9 c9]) (by simp [results, Tryz.results75, go_sem, World.cell?_setCell_same, World.cell?_setCell_other, r0, r1, r2, hRl, World.cell?_alloc_old]) rfl ?_
              rw [HT.out]
              exact ⟨kd, ix, a9, l9, c9, -1, rfl, (((XS.out.2.2.2.1.setOther _ _ (by omega)).setOther _ _ (by omega)).setOther _ _ (by omega)).alloc _, (((XS.out.1.setNew (by omega) _ _).setNew (by omega) _ _).setNew (by omega) _ _).alloc _, fun h => by omega, fun _ => rfl⟩
            · have o0 : wr.cell? ⟨O, 0, none⟩ = some (.int .i64 kd) := XS.out.2.2.1.cell 0
              have o1 : wr.cell? ⟨O, 1, none⟩ = some (.int .i64 ix) := XS.out.2.2.1.cell 1
              have o2 : wr.cell? ⟨O, 2, none⟩ = some (.slice a9 l9 c9) := XS.out.2.2.1.cell 2
              go_wp2_with fail
              refine bodyPost_ret (v := .agg #[.int .i64 kd, .int .i64 ix, .slice a9 l9 c9]) (by simp [results, Tryz.results75, go_sem, World.cell?_setCell_same, World.cell?_setCell_other, r0, r1, r2, hRl]) rfl ?_
              rw [HT.out]
              exact ⟨kd, ix, a9, l9, c9, -1, rfl, ((XS.out.2.2.2.1.setOther _ _ (by omega)).setOther _ _ (by omega)).setOther _ _ (by omega), ((XS.out.1.setNew (by omega) _ _).setNew (by omega) _ _).setNew (by omega) _ _, fun h => by omega, fun _ => rfl⟩
end Go.Proofs.YtagidfoiemgfcaaGreatDoor

/- Walks: binders.Put. -/
namespace Go.Proofs.YtagidfoiemgfcaaGreatDoor
open Go.RowKit
set_option linter.unusedSimpArgs false
set_option linter.unusedVariables false
set_option maxRecDepth 8000

set_option maxHeartbeats 1000000 in
theorem bPut_any (t z : Lm) (v u : Value) (w : World) (X : Nat → Prop) (hv : MV w X v t) (hu : MV w X u z) (hts : sizeM [t] ≤ 10000) (htb : BndM [t]) (htl : LfM [t]) (hzs : sizeM [z] ≤ 10000) (hzb : BndM [z]) (hzl : LfM [z]) :
    Calls Tryz.prog 60 #[v, u, .int .i64 2000] w fun e w' => Below w.heap.size w w' ∧ ((sizeM [insT z 0 t] ≤ 2000 ∧ ∃ a c, e = .returned (.tuple #[.agg #[.int .i64 (insT z 0 t).kind, .int .i64 (insT z 0 t).idx, .slice a (insT z 0 t).subs.length c], .bool true]) ∧ SlM w' (fun b => w.heap.size ≤ b) a (insT z 0 t).subs) ∨ (2000 < sizeM [insT z 0 t] ∧ e = .returned (.tuple #[.agg #[.int .i64 0, .int .i64 0, .slice none 0 0], .bool false]))) := by
  have hmf : ∀ (fn : Fn) (first cap : Array Value) (w : World), (Instr.makeFunc fn first cap).run Tryz.prog w = .ok (.func fn first cap) w := fun _ _ _ _ => rfl
  obtain ⟨a, c, rfl, hs⟩ := hv
  obtain ⟨az, cz, rfl, hsz⟩ := hu
  have HS := hide hs
  have HZ := hide hsz
  clear hs hsz
  go_enter Tryz.func60, Tryz.ntmps60
  go_wp2_with fail
  refine (buildP_any (w.heap.size + 1 + 1 + 1) (w.heap.size + 1) z (by omega) hzb hzl (by omega) t 2000 _ 0 _ (fun b => X b ∧ b < w.heap.size) ⟨a, c, rfl, ((((HS.out.mono (Y := fun b => X b ∧ b < w.heap.size) fun b h1 h2 => ⟨h1, h2⟩).later ((Below.refl _ _).alloc (Nat.le_refl _) _)).later ((Below.refl _ _).alloc (Nat.le_refl _) _)).later ((Below.refl _ _).alloc (Nat.le_refl _) _)).later ((Below.refl _ _).alloc (Nat.le_refl _) _)⟩ (fun b h => by have := h.2; omega) (by omega) (Int.le_refl 0) (by omega) htb htl ?_ ⟨az, cz, ?_, ((((HZ.out.mono (Y := fun b => X b ∧ b < w.heap.size) fun b h1 h2 => ⟨h1, h2⟩).later ((Below.refl _ _).alloc (Nat.le_refl _) _)).later ((Below.refl _ _).alloc (Nat.le_refl _) _)).later ((Below.refl _ _).alloc (Nat.le_refl _) _)).later ((Below.refl _ _).alloc (Nat.le_refl _) _)⟩).mono ?_
  · have h := Blk.new (((w.alloc (.cells #[.int .i64 t.kind, .int .i64 t.idx, .slice a t.subs.length c] 26)).alloc (.cells #[.int .i64 z.kind, .int .i64 z.idx, .slice az z.subs.length cz] 26)).alloc (.cells #[.int .i64 0, .int .i64 0, .slice none 0 0] 26)) #[.int .i64 2000] 91
    simp only [World.size_alloc] at h
    exact h
  · have h := ((Blk.new (w.alloc (.cells #[.int .i64 t.kind, .int .i64 t.idx, .slice a t.subs.length c] 26)) #[.int .i64 z.kind, .int .i64 z.idx, .slice az z.subs.length cz] 26).alloc (.cells #[.int .i64 0, .int .i64 0, .slice none 0 0] 26)).alloc (.cells #[.int .i64 2000] 91)
    simp only [World.size_alloc] at h
    exact h
  rintro e w1 ⟨k', x', a', l', c', m, rfl, hF1, hx1, hy1, hn1⟩
  have R1 : Hid (Blk w1 (w.heap.size + 1 + 1) #[.int .i64 0, .int .i64 0, .slice none 0 0] 26) := by
    have h := ((Blk.new ((w.alloc (.cells #[.int .i64 t.kind, .int .i64 t.idx, .slice a t.subs.length c] 26)).alloc (.cells #[.int .i64 z.kind, .int .i64 z.idx, .slice az z.subs.length cz] 26)) #[.int .i64 0, .int .i64 0, .slice none 0 0] 26).alloc (.cells #[.int .i64 2000] 91)).ex hx1 (by simp)
    simp only [World.size_alloc] at h
    exact h
  have HB : Hid (Below w.heap.size w w1) := by
    have h2 : Below w.heap.size ((((w.alloc (.cells #[.int .i64 t.kind, .int .i64 t.idx, .slice a t.subs.length c] 26)).alloc (.cells #[.int .i64 z.kind, .int .i64 z.idx, .slice az z.subs.length cz] 26)).alloc (.cells #[.int .i64 0, .int .i64 0, .slice none 0 0] 26)).alloc (.cells #[.int .i64 2000] 91)) w1 := ⟨hx1.os, hx1.tape, hx1.output, hx1.size, fun k hk => hx1.block k (by simp; omega) (by omega)⟩
    exact (((((Below.refl w.heap.size w).alloc (Nat.le_refl _) (.cells #[.int .i64 t.kind, .int .i64 t.idx, .slice a t.subs.length c] 26)).alloc (by simp) (.cells #[.int .i64 z.kind, .int .i64 z.idx, .slice az z.subs.length cz] 26)).alloc (by simp; omega) (.cells #[.int .i64 0, .int .i64 0, .slice none 0 0] 26)).alloc (by simp; omega) (.cells #[.int .i64 2000] 91)).trans h2
  have HF1 := hide hF1
  have m0 : ∀ o, (w1.alloc o).cell? ⟨w.heap.size + 1 + 1 + 1, 0, none⟩ = some (.int .i64 m) := fun o => (HF1.out.alloc o).cell 0
  have r0 : w1.cell? ⟨w.heap.size + 1 + 1, 0, none⟩ = some (.int .i64 0) := R1.out.cell 0
  have r1 : w1.cell? ⟨w.heap.size + 1 + 1, 1, none⟩ = some (.int .i64 0) := R1.out.cell 1
  have r2 : w1.cell? ⟨w.heap.size + 1 + 1, 2, none⟩ = some (.slice none 0 0) := R1.out.cell 2
  have rf := R1.out.frozen
  have hRl := R1.out.lt
  clear hF1 hx1
  by_cases hle : sizeM [insT z 0 t] ≤ 2000
  · obtain ⟨rfl, rfl, rfl, rfl, hs1⟩ := hy1 hle
    have S1 := hide hs1
    have HLE := hide hle
    have hm0 : ¬ (((2000 : Nat) : Int) - sizeM [insT z 0 t] < 0) := by omega
    clear hy1 hn1 hs1 hle
    go_wp2_with fail
    refine bodyPost_ret (v := .tuple #[.agg #[.int .i64 (insT z 0 t).kind, .int .i64 (insT z 0 t).idx, .slice a' (insT z 0 t).subs.length c'], .bool true]) (by simp [results, Tryz.results60, go_sem, World.cell?_setCell_same, World.cell?_setCell_other, World.cell?_alloc_old, r0, r1, r2, hRl]) rfl ?_
    refine ⟨(((HB.out.setCell (by simp; omega) _).setCell (by simp; omega) _).setCell (by simp; omega) _).alloc (by have := HB.out.size; simpa [World.setCell] using this) _, Or.inl ⟨HLE.out, a', c', rfl, ((S1.out.mono (Y := fun b => w.heap.size + 4 ≤ b ∧ b < w1.heap.size) fun b h1 h2 => ⟨by simp at h1; omega, h2⟩).kept fun b hb => ?_).mono fun b hb _ => by omega⟩⟩
    have hbl := hb.2
    rw [Below.heap_alloc _ _ _ (by simpa [World.setCell] using hbl), Below.heap_setCell _ _ _ _ (by simp; omega), Below.heap_setCell _ _ _ _ (by simp; omega), Below.heap_setCell _ _ _ _ (by simp; omega)]
  · obtain rfl := hn1 (by omega)
    have HLE := hide hle
    clear hy1 hn1 hle
    go_wp2_with fail
    refine bodyPost_ret (v := .tuple #[.agg #[.int .i64 0, .int .i64 0, .slice none 0 0], .bool false]) (by simp [results, Tryz.results60, go_sem, World.cell?_setCell_same, World.cell?_setCell_other, World.cell?_alloc_old, r0, r1, r2, hRl]) rfl ?_
    exact ⟨(((HB.out.setCell (by simp; omega) _).setCell (by simp; omega) _).setCell (by simp; omega) _).alloc (by have := HB.out.size; simpa [World.setCell] using this) _, Or.inr ⟨by have := HLE.out; omega, rfl⟩⟩
end Go.Proofs.YtagidfoiemgfcaaGreatDoor

/- Walks: a step at a knot is handed on. -/
namespace Go.Proofs.YtagidfoiemgfcaaGreatDoor
open Go.RowKit Go.Shelf
attribute [local go_sem] Oper.semAt_some
set_option linter.unusedSimpArgs false
set_option linter.unusedVariables false
set_option maxRecDepth 8000

/-- A lambda term that may be, under u binders, not too great. -/
def GdM (u : Int) (t : Lm) : Prop := 0 ≤ u ∧ u + sizeM [t] ≤ 45000 ∧ errM u 0 [t] = 0 ∧ sizeM [t] ≤ 2000
def HrPost (w : World) (t : Lm) (S : Lm → Bool → World → Prop) (e : Ending) (w' : World) : Prop :=
  (rdxT t = false ∧ e = .returned (.bool true) ∧ Below w.heap.size w w') ∨ (rdxT t = true ∧ e = .returned (.bool false) ∧ ∃ x ok, (ok = true → x = conT t.subs) ∧ (ok = false → 2000 < sizeM [conT t.subs]) ∧ S x ok w')
theorem put_say {t z : Lm} {u : Int} (ht : GdM (u + 1) t) (hz : GdM u z) (v x : Value) (w : World) (X : Nat → Prop) (hv : MV w X v t) (hx : MV w X x z) :
    Calls Tryz.prog 60 #[v, x, .int .i64 2000] w fun e w' => ∃ q ok a c, e = .returned (.tuple #[.agg #[.int .i64 q.kind, .int .i64 q.idx, .slice a q.subs.length c], .bool ok]) ∧ SlM w' (fun b => w.heap.size ≤ b) a q.subs ∧ Below w.heap.size w w' ∧ (ok = true → q = insT z 0 t) ∧ (ok = false → 2000 < sizeM [insT z 0 t]) := by
  obtain ⟨h1, h2, h3, h4⟩ := ht
  obtain ⟨k1, k2, k3, k4⟩ := hz
  refine (bPut_any t z v x w X hv hx (by omega) (bnd_of_err _ _ _ h1 (by omega) (by omega) h3) (lf_of_err _ _ _ h3) (by omega) (bnd_of_err _ _ _ k1 (by omega) (by omega) k3) (lf_of_err _ _ _ k3)).mono ?_
  rintro e w' ⟨hb, ⟨hs, a, c, rfl, hsl⟩ | ⟨hs, rfl⟩⟩
  · exact ⟨_, true, a, c, rfl, hsl, hb, fun _ => rfl, by simp⟩
  · exact ⟨⟨0, 0, []⟩, false, none, 0, rfl, ⟨by simp, Or.inl rfl⟩, hb, by simp, fun _ => hs⟩
theorem GdM.subs {u k x : Int} {l : List Lm} (h : GdM u ⟨k, x, l⟩) {y : Lm} (hy : y ∈ l) : GdM (deepK u k) y := by
  obtain ⟨h1, h2, h3, h4⟩ := h
  rw [sizeM_one] at h2 h4
  obtain ⟨i, hi, rfl⟩ := List.mem_iff_getElem.1 hy
  have := sizeM_get l i hi
  have hd : u ≤ deepK u k ∧ deepK u k ≤ u + 1 := by unfold deepK; split <;> omega
  exact ⟨by omega, by omega, err_all0.1 (err_one0.1 h3).2 _ hy, by omega⟩
theorem slM_cells {w : World} {X : Nat → Prop} {a : Option Addr} {f z : Lm} (h : SlM w X a [f, z]) : ∃ B o a1 c1 a2 c2, a = some ⟨B, o, none⟩ ∧ X B ∧ w.cell? ⟨B, o, none⟩ = some (.int .i64 f.kind) ∧ w.cell? ⟨B, o + 1, none⟩ = some (.int .i64 f.idx) ∧ w.cell? ⟨B, o + 2, none⟩ = some (.slice a1 f.subs.length c1) ∧ w.cell? ⟨B, o + 3, none⟩ = some (.int .i64 z.kind) ∧ w.cell? ⟨B, o + 4, none⟩ = some (.int .i64 z.idx) ∧ w.cell? ⟨B, o + 5, none⟩ = some (.slice a2 z.subs.length c2) ∧ SlM w X a1 f.subs ∧ SlM w X a2 z.subs := by
  obtain ⟨_, h | ⟨B, o, rfl, h⟩⟩ := h
  · cases h
  · have h0 := liesM_get _ _ _ h 0 (by simp)
    have h1 := liesM_get _ _ _ h 1 (by simp)
    simp only [List.getElem_cons_zero, List.getElem_cons_succ, Nat.zero_mul, Nat.one_mul, Nat.add_zero] at h0 h1
    obtain ⟨hx, p1, p2, a1, c1, p3, p4⟩ := h0
    obtain ⟨_, q1, q2, a2, c2, q3, q4⟩ := h1
    exact ⟨B, o, a1, c1, a2, c2, rfl, hx, p1, p2, p3, q1, q2, q3, p4, q4⟩
theorem slM_one {w : World} {X : Nat → Prop} {a : Option Addr} {f : Lm} (h : SlM w X a [f]) : ∃ B o a1 c1, a = some ⟨B, o, none⟩ ∧ X B ∧ w.cell? ⟨B, o, none⟩ = some (.int .i64 f.kind) ∧ w.cell? ⟨B, o + 1, none⟩ = some (.int .i64 f.idx) ∧ w.cell? ⟨B, o + 2, none⟩ = some (.slice a1 f.subs.length c1) ∧ SlM w X a1 f.subs := by
  obtain ⟨_, h | ⟨B, o, rfl, h⟩⟩ := h
  · cases h
  · have h0 := liesM_get _ _ _ h 0 (by simp)
    simp only [List.getElem_cons_zero, Nat.zero_mul, Nat.add_zero] at h0
    obtain ⟨hx, p1, p2, a1, c1, p3, p4⟩ := h0
    exact ⟨B, o, a1, c1, rfl, hx, p1, p2, p3, p4⟩

set_option maxHeartbeats 8000000 in
theorem here_any {y : Value} {P : Nat → Prop} {hi : Nat} {J : World → Prop} {S : Lm → Bool → World → Prop} (hP : ∀ b, hi ≤ b → P b) (hT : StopTk y P J S) (hJ : StayJ J) (t : Lm) (u : Int) (hg : GdM u t) (v : Value) (w : World) (X : Nat → Prop) (hv : MV w X v t) (hX : ∀ b, X b → b < w.heap.size ∧ P b) (hhi : hi ≤ w.heap.size) (hjw : J w) :
    Calls Tryz.prog 46 #[v, y] w fun e w' => HrPost w t S e w' := by
  obtain ⟨k, xi, l⟩ := t
  obtain ⟨a, c, rfl, hs⟩ := hv
  dsimp only at hs ⊢
  by_cases h3 : k = 3
  case neg =>
    have HR : Hid (rdxT ⟨k, xi, l⟩ = false) := by unfold Hid rdxT; simp [h3]
    have e3 : (k == 3) = false := beq_eq_false_iff_ne.2 h3
    have e4 : (k != 3) = true := by simp [bne, e3]
    clear hs
    go_enter Tryz.func46, Tryz.ntmps46
    go_wp2_with fail
    go_ret
    exact Or.inl ⟨HR.out, rfl, (Below.refl _ _).alloc (Nat.le_refl _) _⟩
  subst h3
  have hl : l.length = 2 := by
    have := (knE_zero.1 (err_one0.1 hg.2.2.1).1).2.1
    rw [this]; rfl
  obtain ⟨f, z, rfl⟩ : ∃ f z, l = [f, z] := by
    match l, hl with
    | [f, z], _ => exact ⟨f, z, rfl⟩
  obtain ⟨B, o, a1, c1, a2, c2, rfl, hXB, d0, d1, d2, d3, d4, d5, hs1, hs2⟩ := slM_cells hs
  have hBw : B < w.heap.size := (hX B hXB).1
  by_cases h2 : f.kind = 2
  case neg =>
    have HR : Hid (rdxT ⟨3, xi, [f, z]⟩ = false) := by unfold Hid rdxT; simp [h2]
    have e3 : (f.kind == 2) = false := beq_eq_false_iff_ne.2 h2
    have e4 : (f.kind != 2) = true := by simp [bne, e3]
    clear hs
    go_enter Tryz.func46, Tryz.ntmps46
    go_wp2_with fail
    go_ret
    exact Or.inl ⟨HR.out, rfl, (Below.refl _ _).alloc (Nat.le_refl _) _⟩
  have HRD : Hid (rdxT ⟨3, xi, [f, z]⟩ = true) := by unfold Hid rdxT; simp [h2]
  obtain ⟨kf, fi, lf⟩ := f
  simp only at h2
  subst h2
  have hgf : GdM u ⟨2, fi, lf⟩ := by have := hg.subs (y := ⟨2, fi, lf⟩) (by simp); simpa [deepK] using this
  have hgz : GdM u z := by have := hg.subs (y := z) (by simp); simpa [deepK] using this
  have hlf : lf.length = 1 := by
    have := (knE_zero.1 (err_one0.1 hgf.2.2.1).1).2.1
    rw [this]; rfl
  obtain ⟨b, rfl⟩ : ∃ b, lf = [b] := by
    match lf, hlf with
    | [b], _ => exact ⟨b, rfl⟩
  have hgb : GdM (u + 1) b := by have := hgf.subs (y := b) (by simp); simpa [deepK] using this
  obtain ⟨B1, o1, a3, c3, rfl, hXB1, g0, g1, g2, hs3⟩ := slM_one hs1
  have hB1w : B1 < w.heap.size := (hX B1 hXB1).1
  have hbB : Below w.heap.size w (w.alloc (.cells #[.int .i64 3, .int .i64 xi, .slice (some ⟨B, o, none⟩) 2 c] 26)) := (Below.refl _ _).alloc (Nat.le_refl _) _
  have hbD : Below w.heap.size w ((w.alloc (.cells #[.int .i64 3, .int .i64 xi, .slice (some ⟨B, o, none⟩) 2 c] 26))).drew := hbB.drew
  have PUT : Hid (∀ w', Below w.heap.size w w' → Calls Tryz.prog 60 #[.agg #[.int .i64 b.kind, .int .i64 b.idx, .slice a3 b.subs.length c3], .agg #[.int .i64 z.kind, .int .i64 z.idx, .slice a2 z.subs.length c2], .int .i64 2000] w' fun e w'' => ∃ q ok a5 c5, e = .returned (.tuple #[.agg #[.int .i64 q.kind, .int .i64 q.idx, .slice a5 q.subs.length c5], .bool ok]) ∧ SlM w'' (fun b => w.heap.size ≤ b ∧ b < w''.heap.size) a5 q.subs ∧ Below w.heap.size w w'' ∧ (ok = true → q = conT [⟨2, fi, [b]⟩, z]) ∧ (ok = false → 2000 < sizeM [conT [⟨2, fi, [b]⟩, z]])) := fun w' hb => by
    refine (put_say hgb hgz _ _ w' X ⟨a3, c3, rfl, hs3.later hb⟩ ⟨a2, c2, rfl, hs2.later hb⟩).mono ?_
    rintro e w'' ⟨q, ok, a5, c5, rfl, h5, h6, h7, h8⟩
    exact ⟨q, ok, a5, c5, rfl, h5.mono fun b h1 h2 => ⟨Nat.le_trans hb.size h1, h2⟩, hb.trans (h6.mono hb.size), h7, h8⟩
  have HD := hide hbD
  have HJs : Hid (∀ w5, Below w.heap.size w w5 → J w5) := fun w5 hb => hJ _ _ hjw hb
  have HZs : Hid (∀ w5, Below w.heap.size w w5 → ∀ b, (w.heap.size ≤ b ∧ b < w5.heap.size) → b < w5.heap.size ∧ P b) := fun w5 hb b h => ⟨h.2, hP b (by omega)⟩
  have hf1 : Fence.wide.fn 60 := trivial
  have hf2 : Fence.wide.fn 61 := trivial
  clear hs hs1 hs2 hs3 hg hgf hgz hgb hX hbB hbD hlf hl hjw
  rcases hT with ⟨T, I, Y, rfl, hT⟩ | ⟨lp, rfl, hT⟩
  · have HTK := hide hT
    clear hT
    go_enter Tryz.func46, Tryz.ntmps46
    refine (wpIn_wide (n := 1)).1 ?_
    gi_wp2
    gi_region_with (first
        | (gi_at_call 60; refine (callsIn_wide.2 (PUT.out _ (by first | exact Below.refl _ _ | exact HD.out))).mono ?_; rintro e w5 ⟨q, ok, a5, c5, rfl, hs5, hb5, h1, h2⟩; have TKC := HTK.out w5 _ q ok _ (by exact HJs.out w5 hb5) ⟨a5, c5, rfl, hs5⟩ (by exact HZs.out w5 hb5))
        | (gi_at_call 61; refine (callsIn_wide.2 TKC).mono ?_; rintro e w6 ⟨rfl, hS6⟩))
    all_goals
      have HF := hide hS6
      have H12 := hide (And.intro h1 h2)
      clear hS6
      clear TKC
    all_goals gi_wp2
    all_goals go_ret
    all_goals exact Or.inr ⟨HRD.out, rfl, q, ok, H12.out.1, H12.out.2, HF.out⟩
  · have HTK := hide hT
    clear hT
    go_enter Tryz.func46, Tryz.ntmps46
    refine (wpIn_wide (n := 1)).1 ?_
    gi_wp2
    gi_region_with (first
        | (gi_at_call 60; refine (callsIn_wide.2 (PUT.out _ (by first | exact Below.refl _ _ | exact HD.out))).mono ?_; rintro e w5 ⟨q, ok, a5, c5, rfl, hs5, hb5, h1, h2⟩; obtain ⟨hfn, htmps, hasg, hbody, hyy, hR⟩ := HTK.out w5 _ q ok _ (by exact HJs.out w5 hb5) ⟨a5, c5, rfl, hs5⟩ (by exact HZs.out w5 hb5) 0)
        | (refine hR.mono ?_; rintro e w6 ⟨rfl, hS6⟩))
    all_goals
      have HF := hide hS6
      have H12 := hide (And.intro h1 h2)
      clear hS6
      skip
    all_goals gi_wp2
    all_goals go_ret
    all_goals exact Or.inr ⟨HRD.out, rfl, q, ok, H12.out.1, H12.out.2, HF.out⟩
end Go.Proofs.YtagidfoiemgfcaaGreatDoor


/- Walks: two lambda terms that are the same; two answers that are lambda terms. -/
namespace Go.Proofs.YtagidfoiemgfcaaGreatDoor
open Go.RowKit
set_option linter.unusedSimpArgs false
set_option linter.unusedVariables false
set_option maxRecDepth 8000

theorem below2M {w : World} (o o' : Obj) : Below w.heap.size w ((w.alloc o).alloc o') := ((Below.refl _ _).alloc (Nat.le_refl _) o).alloc (by simp) o'
theorem same_cellsM {w w1 : World} {n : Nat} {p1 p2 p3 p4 p5 p6 p7 p8 : Addr} {v1 v2 v3 v4 v5 v6 v7 v8 : Value} (hb : Below (w.drewN n).heap.size (w.drewN n) w1)
    (h : w.cell? p1 = some v1 ∧ w.cell? p2 = some v2 ∧ w.cell? p3 = some v3 ∧ w.cell? p4 = some v4 ∧ w.cell? p5 = some v5 ∧ w.cell? p6 = some v6 ∧ w.cell? p7 = some v7 ∧ w.cell? p8 = some v8) :
    w1.cell? p1 = some v1 ∧ w1.cell? p2 = some v2 ∧ w1.cell? p3 = some v3 ∧ w1.cell? p4 = some v4 ∧ w1.cell? p5 = some v5 ∧ w1.cell? p6 = some v6 ∧ w1.cell? p7 = some v7 ∧ w1.cell? p8 = some v8 := by
  have hb' : Below w.heap.size w w1 := (below_drewN (Below.refl _ _) n).trans (hb.mono (by simp))
  obtain ⟨h1, h2, h3, h4, h5, h6, h7, h8⟩ := h
  exact ⟨cell_later hb' h1, cell_later hb' h2, cell_later hb' h3, cell_later hb' h4, cell_later hb' h5, cell_later hb' h6, cell_later hb' h7, cell_later hb' h8⟩

set_option maxHeartbeats 1000000 in
theorem sameM_any (t : Lm) : ∀ (v u : Value) (w : World) (X Y : Nat → Prop), MV w X v t → MV w Y u t →
    Calls Tryz.prog 9 #[v, u] w fun e w' => e = .returned (.bool true) ∧ Below w.heap.size w w' := by
  induction t using Lm.ind with
  | h kd ix l ih =>
    intro v u w X Y hv hu
    have IH := hide ih
    clear ih
    obtain ⟨a, c, rfl, hs⟩ := hv
    obtain ⟨a2, c2, rfl, hs2⟩ := hu
    have hl := hs.1
    go_enter Tryz.func9, Tryz.ntmps9
    go_wp2_with fail
    go_loopw [5] (fun i wr => ∃ (k : Nat), k ≤ l.length ∧ i = .int .i64 k ∧ Below w.heap.size w wr ∧ wr.cell? ⟨w.heap.size, 2, none⟩ = some (.slice a l.length c) ∧ wr.cell? ⟨w.heap.size + 1, 2, none⟩ = some (.slice a2 l.length c2) ∧ w.heap.size + 2 ≤ wr.heap.size) (fun i wr => l.length - (intOf i).toNat)
    case atStart => exact ⟨0, Nat.zero_le _, rfl, below2M _ _, by simp, by simp, by simp⟩
    case round =>
      obtain ⟨k, hk, rfl, hb, hc1, hc2, hsz⟩ := hrel
      by_cases hlt : k < l.length
      · obtain ⟨b, o, a', c', rfl, d0, d0', d1, hx⟩ := hs.get hb (fun _ _ h => h) k hlt
        obtain ⟨b2, o2, a2', c2', rfl, e0, e0', e1, hx2⟩ := hs2.get hb (fun _ _ h => h) k hlt
        have HX := hide hx
        have HX2 := hide hx2
        have HB := hide hb
        have HS0 := hide (And.intro hc1 (And.intro hc2 (And.intro d0 (And.intro d0' (And.intro d1 (And.intro e0 (And.intro e0' e1)))))))
        clear hx hx2 hb
        go_wp2_with fail
        go_region_held3 (fun w' => w'.cell? ⟨w.heap.size, 2, none⟩ = some (.slice (some ⟨b, o, none⟩) l.length c) ∧ w'.cell? ⟨w.heap.size + 1, 2, none⟩ = some (.slice (some ⟨b2, o2, none⟩) l.length c2) ∧ w'.cell? ⟨b, o + k * 3, none⟩ = some (.int .i64 l[k].kind) ∧ w'.cell? ⟨b, o + k * 3 + 1, none⟩ = some (.int .i64 l[k].idx) ∧ w'.cell? ⟨b, o + k * 3 + 2, none⟩ = some (.slice a' l[k].subs.length c') ∧ w'.cell? ⟨b2, o2 + k * 3, none⟩ = some (.int .i64 l[k].kind) ∧ w'.cell? ⟨b2, o2 + k * 3 + 1, none⟩ = some (.int .i64 l[k].idx) ∧ w'.cell? ⟨b2, o2 + k * 3 + 2, none⟩ = some (.slice a2' l[k].subs.length c2')) (first | exact HS0.out | exact hS1)
          ((go_at_call 9; refine (IH.out _ (List.getElem_mem hlt) _ _ _ X Y (by exact HX.out.later (below_drewN (Below.refl _ _) 1)) (by exact HX2.out.later (below_drewN (Below.refl _ _) 1))).mono ?_; rintro e w1 ⟨rfl, hb1⟩; have hS1 := same_cellsM (n := 1) hb1 HS0.out))
        go_wp2_with fail
        go_roundw
        case rel => exact ⟨k + 1, by omega, by go_num, (HB.out.trans (below_drewN (Below.refl _ _) 1)).trans (hb1.mono (by simp; omega)), hS1.1, hS1.2.1, by have := hb1.size; simp at this; omega⟩
        case measure => simp [intOf]; omega
      · go_wp2_with fail
        go_ret
        exact ⟨rfl, hb⟩
end Go.Proofs.YtagidfoiemgfcaaGreatDoor
