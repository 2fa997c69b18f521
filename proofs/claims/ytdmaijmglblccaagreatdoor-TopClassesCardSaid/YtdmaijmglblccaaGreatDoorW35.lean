/- Walks: reading a text, and what is thrown is caught. -/
import Derived.Test.YtdmaijmglblccaaGreatDoorW33
import Derived.Defers
import Derived.Recover
import Derived.Laws.Pointers
namespace Go.Proofs.YtdmaijmglblccaaGreatDoor
open Go.RowKit
set_option linter.unusedSimpArgs false
set_option linter.unusedVariables false
set_option maxRecDepth 8000

theorem assertErrno (v : Value) (xT : TypeId) (w : World) : (Instr.typeAssert (.iface 28 v) xT 28 false).run Tryz.prog w = .ok v w := by
  simp [Instr.typeAssert, run_underlying Tryz.underlying28, go_sem, Result.andThen]

theorem catch_panicking (Pt Pe : Nat) (z z0 : Int) (s0 : ByteArray) (u0 : Value) (w : World) (ht : Blk w Pt #[.string s0, u0] 25) (he : Blk w Pe #[.int .i64 z0] 28) :
    CallsD Tryz.prog 37 #[.pointer (some ⟨Pt, 0, none⟩), .pointer (some ⟨Pe, 0, none⟩)] (.panicking [{ v := .iface 28 (.int .i64 z), recovered := false }]) w fun e u' w' =>
      e = .returned (.tuple #[]) ∧ u' = .panicking [{ v := .iface 28 (.int .i64 z), recovered := true }] ∧ w' = (((w.setCell ⟨Pt, 0, none⟩ (.string ⟨#[]⟩)).setCell ⟨Pt, 1, none⟩ (.slice none 0 0)).setCell ⟨Pe, 0, none⟩ (.int .i64 z)).drew := by
  refine callsD_of_wpS Tryz.func37 rfl fun c₀ cs hu => ?_
  apply wpS_seq
  apply wpS_region
  simp [wpOpsS, go_sem, recoverD, hu, Tryz.ntmps37, Exit.thenS]
  apply wpS_seq
  apply wpS_region
  simp [wpOpsS, go_sem, Exit.thenS, Array.replicate]
  refine wpS_cond (t := true) (by simp [Act.eval, Array.replicate]) ?_
  simp only [if_true]
  refine wpS_of_wp ?_
  have t0 : w.cell? ⟨Pt, 0, none⟩ = some (.string s0) := ht.cell 0
  have t1 : w.cell? ⟨Pt, 1, none⟩ = some u0 := ht.cell 1
  have tf := ht.frozen
  have e0 : w.cell? ⟨Pe, 0, none⟩ = some (.int .i64 z0) := he.cell 0
  have ef := he.frozen
  have hne : ¬ Pt = Pe := fun h => by
    subst h
    have h1 := t0
    rw [e0] at h1
    cases h1
  have hne2 : ¬ Pe = Pt := fun h => hne h.symm
  have hta := assertErrno (.int .i64 z)
  go_region
  exact ⟨rfl, _, rfl, .tuple #[], by simp [results, Tryz.results37, go_sem], rfl, rfl, rfl⟩

theorem catch_idle (Pt Pe : Nat) (w : World) :
    CallsD Tryz.prog 37 #[.pointer (some ⟨Pt, 0, none⟩), .pointer (some ⟨Pe, 0, none⟩)] .returning w fun e u' w' => e = .returned (.tuple #[]) ∧ u' = .returning ∧ w' = w := by
  refine callsD_of_wpS Tryz.func37 rfl fun c₀ cs hu => ?_
  apply wpS_seq
  apply wpS_region
  simp [wpOpsS, go_sem, recoverD, hu, Tryz.ntmps37, Exit.thenS]
  apply wpS_seq
  apply wpS_region
  simp [wpOpsS, go_sem, Exit.thenS, Array.replicate]
  refine wpS_cond (t := false) (by simp [Act.eval, Array.replicate]) ?_
  simp only [Bool.false_eq_true, if_false]
  refine wpS_of_wp (wp_skip ?_)
  cases c₀
  simp_all [bodyPostS, results, Tryz.results37]

/-- What making a reader does. -/
def NewPost (w : World) (s : ByteArray) (e : Ending) (w' : World) : Prop :=
  if 4000 < s.size then e = thrown 3 ∧ Below w.heap.size w w' else e = .returned (.agg #[.string s, .int .i64 0, .int .i64 0]) ∧ Below w.heap.size w w'
theorem new_any (s : ByteArray) (w : World) : Calls Tryz.prog 38 #[.string s] w fun e w' => NewPost w s e w' := by
  by_cases hs : 4000 < s.size
  · have HP : Hid (∀ w', Below w.heap.size w w' → NewPost w s (thrown 3) w') := fun w' h => by unfold NewPost; rw [if_pos hs]; exact ⟨rfl, h⟩
    go_enter Tryz.func38, Tryz.ntmps38
    go_wp2_with fail
    exact ⟨rfl, HP.out _ (by first | exact Below.refl _ _ | exact (Below.refl _ _).alloc (Nat.le_refl _) _)⟩
  · have HP : Hid (∀ w', Below w.heap.size w w' → NewPost w s (.returned (.agg #[.string s, .int .i64 0, .int .i64 0])) w') := fun w' h => by unfold NewPost; rw [if_neg hs]; exact ⟨rfl, h⟩
    go_enter Tryz.func38, Tryz.ntmps38
    go_wp2_with fail
    refine bodyPost_ret (v := .agg #[.string s, .int .i64 0, .int .i64 0]) (by simp [results, Tryz.results38, go_sem, World.cell?_setCell_same, World.cell?_setCell_other]) rfl ?_
    exact HP.out _ (by first | exact Below.refl _ _ | exact (Below.refl _ _).alloc (Nat.le_refl _) _)
def EndPost (w : World) (e : Ending) (w' : World) : Prop := (∃ v, e = .returned v) ∧ ∃ m, w' = w.drewN m
theorem end_yes (B i k : Nat) (s : ByteArray) (he : i = s.size) (w : World) (h : Bx w B s i k) :
    Calls Tryz.prog 40 #[.pointer (some ⟨B, 0, none⟩)] w fun e w' => EndPost w e w' := by
  have HA := hide (atEnd_yes B i k s he w h)
  clear he h
  go_enter Tryz.func40, Tryz.ntmps40
  go_wp2_with fail
  refine HA.out.mono ?_
  rintro e w' ⟨rfl, m, rfl⟩
  go_wp2_with fail
  refine bodyPost_ret (v := .tuple #[]) (by simp [results, Tryz.results40, go_sem]) rfl ?_
  exact ⟨⟨_, rfl⟩, m, rfl⟩
theorem end_no (B i k : Nat) (s : ByteArray) (he : ¬ i = s.size) (w : World) (h : Bx w B s i k) :
    Calls Tryz.prog 40 #[.pointer (some ⟨B, 0, none⟩)] w fun e w' => e = thrown 12 ∧ ∃ m, w' = w.drewN m := by
  have HA := hide (atEnd_no B i k s he w h)
  clear he h
  go_enter Tryz.func40, Tryz.ntmps40
  go_wp2_with fail
  refine HA.out.mono ?_
  rintro e w' ⟨rfl, m, rfl⟩
  go_wp2_with fail
  exact ⟨rfl, rfl, m, rfl⟩

/-- What reading the whole text gives. -/
def rdAll (s : ByteArray) : Rd :=
  if 4000 < s.size then noRd 3
  else if (rd s (2 * s.size + 1) none 0 0).err ≠ 0 then noRd (rd s (2 * s.size + 1) none 0 0).err
  else if (rd s (2 * s.size + 1) none 0 0).pos = s.size then rd s (2 * s.size + 1) none 0 0
  else noRd 12

def ParsePost (w : World) (r : Rd) (e : Ending) (w' : World) : Prop :=
  ∃ v, e = .returned (.tuple #[v, .int .i64 r.err]) ∧ (r.err = 0 → TV w' (fun b => w.heap.size ≤ b) v r.t) ∧ (r.err ≠ 0 → v = .agg #[.string ⟨#[]⟩, .slice none 0 0]) ∧ Below w.heap.size w w'

theorem parse_no {w w' : World} {r : Rd} {z : Int} (h : r = noRd z) (hz : z ≠ 0) (hb : Below w.heap.size w w') : ParsePost w r (.returned (.tuple #[.agg #[.string ⟨#[]⟩, .slice none 0 0], .int .i64 z])) w' := by
  subst h
  exact ⟨_, rfl, fun h => absurd h hz, fun _ => rfl, hb⟩

theorem Ex.below {w w0 w' : World} {B : Nat} (h : Ex B w0 w') (h0 : Below w.heap.size w w0) (hB : w.heap.size ≤ B) : Below w.heap.size w w' :=
  ⟨h.os.trans h0.os, h.tape.trans h0.tape, h.output.trans h0.output, Nat.le_trans h0.size h.size, fun k hk => (h.block k (Nat.lt_of_lt_of_le hk h0.size) (by omega)).trans (h0.block k hk)⟩

set_option maxHeartbeats 1000000 in
theorem parse_any (s : ByteArray) (w : World) :
    Calls Tryz.prog 21 #[.string s] w fun e w' => ParsePost w (rdAll s) e w' := by
  have hmf : ∀ (fn : Fn) (first cap : Array Value) (w : World), (Instr.makeFunc fn first cap).run Tryz.prog w = .ok (.func fn first cap) w := fun _ _ _ _ => rfl
  have HR : Hid (rdAll s = rdAll s) := rfl
  unfold rdAll at HR
  generalize hr : rdAll s = r at *
  by_cases hs : 4000 < s.size
  · have HR0 : Hid (r = noRd 3) := by unfold Hid; rw [← hr]; unfold rdAll; rw [if_pos hs]
    clear hr HR
    go_enter_defers Tryz.func21, Tryz.ntmps21
    go_wp2_with fail
    have PT : Blk ((w.alloc (.cells #[.string ⟨#[]⟩, .slice none 0 0] 25)).alloc (.cells #[.int .i64 0] 28)) w.heap.size #[.string ⟨#[]⟩, .slice none 0 0] 25 := (Blk.new w _ _).alloc _
    have PE : Blk ((w.alloc (.cells #[.string ⟨#[]⟩, .slice none 0 0] 25)).alloc (.cells #[.int .i64 0] 28)) (w.heap.size + 1) #[.int .i64 0] 28 := by
      have h := Blk.new (w.alloc (.cells #[.string ⟨#[]⟩, .slice none 0 0] 25)) #[.int .i64 0] 28
      simpa using h
    have PB : Below w.heap.size w ((w.alloc (.cells #[.string ⟨#[]⟩, .slice none 0 0] 25)).alloc (.cells #[.int .i64 0] 28)) := ((Below.refl _ _).alloc (Nat.le_refl _) _).alloc (by simp) _
    generalize ((w.alloc (.cells #[.string ⟨#[]⟩, .slice none 0 0] 25)).alloc (.cells #[.int .i64 0] 28)) = w2 at *
    refine (new_any s w2).mono ?_
    intro e w9 hp
    unfold NewPost at hp
    rw [if_pos hs] at hp
    obtain ⟨he, hb9⟩ := hp
    unfold thrown at he
    subst he
    have PT := PT.below hb9 PT.lt
    have PE := PE.below hb9 PE.lt
    have PB := PB.trans (hb9.mono PB.size)
    refine leaves_cons (f := 37) (args := #[.pointer (some ⟨w.heap.size, 0, none⟩), .pointer (some ⟨w.heap.size + 1, 0, none⟩)]) (by simp) (by simp [go_sem]) ?_
    refine (catch_panicking w.heap.size (w.heap.size + 1) 3 0 _ _ w9 PT PE).mono ?_
    rintro e u' w'' ⟨rfl, rfl, rfl⟩
    have q0 := (((PT.set 0 (.string ⟨#[]⟩)).set 1 (.slice none 0 0)).setOther (b' := w.heap.size + 1) 0 (.int .i64 3) (by omega)).cell 0
    have q1 := (((PT.set 0 (.string ⟨#[]⟩)).set 1 (.slice none 0 0)).setOther (b' := w.heap.size + 1) 0 (.int .i64 3) (by omega)).cell 1
    have q2 := (((PE.setOther (b' := w.heap.size) 0 (.string ⟨#[]⟩) (by omega)).setOther (b' := w.heap.size) 1 (.slice none 0 0) (by omega)).set 0 (.int .i64 3)).cell 0
    simp at q0 q1 q2
    simp [Leaves, settle, results, Tryz.results21, go_sem, q0, q1, q2]
    exact parse_no HR0.out (by decide) ((((PB.setCell (by simp) _).setCell (by simp) _).setCell (by simp) _).drew)
  · have HR0 : Hid (r = if (rd s (2 * s.size + 1) none 0 0).err ≠ 0 then noRd (rd s (2 * s.size + 1) none 0 0).err else if (rd s (2 * s.size + 1) none 0 0).pos = s.size then rd s (2 * s.size + 1) none 0 0 else noRd 12) := by unfold Hid; rw [← hr]; unfold rdAll; rw [if_neg hs]
    have IHQ := hide (fun B w' hw => rterm_any B s (by omega) (2 * s.size + 1) 0 0 w' (by omega) (by omega) (by omega) hw)
    have HPOS := hide (rd_pos s (2 * s.size + 1) none 0 0)
    generalize rd s (2 * s.size + 1) none 0 0 = q at *
    clear hr HR
    go_enter_defers Tryz.func21, Tryz.ntmps21
    go_wp2_with fail
    have PT2 := hide (show Blk ((w.alloc (.cells #[.string ⟨#[]⟩, .slice none 0 0] 25)).alloc (.cells #[.int .i64 0] 28)) w.heap.size #[.string ⟨#[]⟩, .slice none 0 0] 25 from (Blk.new w _ _).alloc _)
    have PE2 : Hid (Blk ((w.alloc (.cells #[.string ⟨#[]⟩, .slice none 0 0] 25)).alloc (.cells #[.int .i64 0] 28)) (w.heap.size + 1) #[.int .i64 0] 28) := by
      have h := Blk.new (w.alloc (.cells #[.string ⟨#[]⟩, .slice none 0 0] 25)) #[.int .i64 0] 28
      unfold Hid
      simpa using h
    have PB2 := hide (show Below w.heap.size w ((w.alloc (.cells #[.string ⟨#[]⟩, .slice none 0 0] 25)).alloc (.cells #[.int .i64 0] 28)) from ((Below.refl _ _).alloc (Nat.le_refl _) _).alloc (by simp) _)
    generalize ((w.alloc (.cells #[.string ⟨#[]⟩, .slice none 0 0] 25)).alloc (.cells #[.int .i64 0] 28)) = w2 at *
    refine (new_any s w2).mono ?_
    intro e w9 hp
    unfold NewPost at hp
    rw [if_neg hs] at hp
    obtain ⟨rfl, hb9⟩ := hp
    have PT := hide ((PT2.out.below hb9 PT2.out.lt).alloc (.cells #[.string s, .int .i64 0, .int .i64 0] 73))
    have PE := hide ((PE2.out.below hb9 PE2.out.lt).alloc (.cells #[.string s, .int .i64 0, .int .i64 0] 73))
    have PX : Hid (Bx (w9.alloc (.cells #[.string s, .int .i64 0, .int .i64 0] 73)) w9.heap.size s 0 0) := Blk.new w9 _ _
    have PB := hide ((PB2.out.trans (hb9.mono PB2.out.size)).alloc (by have := PB2.out.size; have := hb9.size; omega) (.cells #[.string s, .int .i64 0, .int .i64 0] 73))
    have hB9 : w.heap.size + 2 ≤ w9.heap.size := by have := PE2.out.lt; have := hb9.size; omega
    have HS := hide hs
    clear hb9 PT2 PE2 PB2 hs
    go_wp2_with fail
    generalize w9.alloc (.cells #[.string s, .int .i64 0, .int .i64 0] 73) = w3 at *
    generalize w9.heap.size = B at *
    refine (IHQ.out B w3 PX.out).mono ?_
    intro e w5 hp
    unfold RdPost at hp
    by_cases hq : q.err = 0
    · rw [if_pos hq] at hp
      obtain ⟨a, c, rfl, hs5, hx5, he5⟩ := hp
      have HQE := hide hq
      have HP9 := hide (HPOS.out hq (by omega) (fun h => by cases h))
      have T5 := hide (PT.out.ex he5 (by omega))
      have E5 := hide (PE.out.ex he5 (by omega))
      have B5 := hide (he5.below PB.out (by omega))
      have X5 := hide hx5
      have S5 := hide (hs5.mono (Y := fun b => w.heap.size + 3 ≤ b) fun b hb _ => by have := PX.out.lt; omega)
      clear hq hs5 hx5 he5
      have t0 : w5.cell? ⟨w.heap.size, 0, none⟩ = some (.string ⟨#[]⟩) := T5.out.cell 0
      have t1 : w5.cell? ⟨w.heap.size, 1, none⟩ = some (.slice none 0 0) := T5.out.cell 1
      have tf := T5.out.frozen
      go_wp2_with fail
      have T6 := hide ((T5.out.set 0 (.string q.t.name)).set 1 (.slice a q.t.args.length c))
      have E6 := hide ((E5.out.setOther (b' := w.heap.size) 0 (.string q.t.name) (by omega)).setOther (b' := w.heap.size) 1 (.slice a q.t.args.length c) (by omega))
      have X6 : Hid (Bx ((w5.setCell ⟨w.heap.size, 0, none⟩ (.string q.t.name)).setCell ⟨w.heap.size, 1, none⟩ (.slice a q.t.args.length c)) B s q.pos q.k) := Blk.setOther (Blk.setOther X5.out _ _ (by omega)) _ _ (by omega)
      have B6 := hide ((B5.out.setCell (p := ⟨w.heap.size, 0, none⟩) (by simp) (.string q.t.name)).setCell (p := ⟨w.heap.size, 1, none⟩) (by simp) (.slice a q.t.args.length c))
      have S6 : Hid (Sl ((w5.setCell ⟨w.heap.size, 0, none⟩ (.string q.t.name)).setCell ⟨w.heap.size, 1, none⟩ (.slice a q.t.args.length c)) (fun b => w.heap.size + 3 ≤ b) a q.t.args) := S5.out.kept fun b hb => by rw [Below.heap_setCell _ _ _ _ (by simp; omega), Below.heap_setCell _ _ _ _ (by simp; omega)]
      clear t0 t1 tf
      generalize ((w5.setCell ⟨w.heap.size, 0, none⟩ (.string q.t.name)).setCell ⟨w.heap.size, 1, none⟩ (.slice a q.t.args.length c)) = w6 at *
      clear T5 E5 X5 B5 S5
      by_cases hps : q.pos = s.size
      · refine (end_yes B q.pos q.k s hps _ X6.out).mono ?_
        rintro e w7 ⟨⟨v7, rfl⟩, n7, rfl⟩
        have T7 : Hid (Blk (w6.drewN n7) w.heap.size #[.string q.t.name, .slice a q.t.args.length c] 25) := T6.out
        have E7 : Hid (Blk (w6.drewN n7) (w.heap.size + 1) #[.int .i64 0] 28) := E6.out
        have B7 : Hid (Below w.heap.size w (w6.drewN n7)) := below_drewN B6.out n7
        have S7 : Hid (Sl (w6.drewN n7) (fun b => w.heap.size + 3 ≤ b) a q.t.args) := S6.out.kept fun b hb => rfl
        generalize w6.drewN n7 = w7 at *
        have t0 : w7.cell? ⟨w.heap.size, 0, none⟩ = some (.string q.t.name) := T7.out.cell 0
        have t1 : w7.cell? ⟨w.heap.size, 1, none⟩ = some (.slice a q.t.args.length c) := T7.out.cell 1
        have tf := T7.out.frozen
        have e0 : w7.cell? ⟨w.heap.size + 1, 0, none⟩ = some (.int .i64 0) := E7.out.cell 0
        have ef := E7.out.frozen
        have HR9 : Hid (r = q) := by unfold Hid; rw [HR0.out, if_neg (by rw [HQE.out]; simp), if_pos hps]
        go_wp2_with fail
        refine leaves_cons (f := 37) (args := #[.pointer (some ⟨w.heap.size, 0, none⟩), .pointer (some ⟨w.heap.size + 1, 0, none⟩)]) (by simp) (by simp [go_sem]) ?_
        refine (catch_idle w.heap.size (w.heap.size + 1) _).mono ?_
        rintro e u' w'' ⟨rfl, rfl, rfl⟩
        have PT5 := T7.out
        have PE5 := E7.out
        have q0 := (((PT5.set 0 (.string q.t.name)).set 1 (.slice a q.t.args.length c)).setOther (b' := w.heap.size + 1) 0 (.int .i64 0) (by omega)).cell 0
        have q1 := (((PT5.set 0 (.string q.t.name)).set 1 (.slice a q.t.args.length c)).setOther (b' := w.heap.size + 1) 0 (.int .i64 0) (by omega)).cell 1
        have q2 := (((PE5.setOther (b' := w.heap.size) 0 (.string q.t.name) (by omega)).setOther (b' := w.heap.size) 1 (.slice a q.t.args.length c) (by omega)).set 0 (.int .i64 0)).cell 0
        simp at q0 q1 q2
        simp [Leaves, settle, results, Tryz.results21, go_sem, q0, q1, q2]
        refine ⟨.agg #[.string q.t.name, .slice a q.t.args.length c], by rw [HR9.out, HQE.out], fun _ => ?_, fun h => absurd (by rw [HR9.out]; exact HQE.out) h, ((B7.out.setCell (by simp) _).setCell (by simp) _).setCell (by simp) _⟩
        rw [HR9.out]
        exact ⟨a, c, rfl, (S7.out.kept fun b hb => by rw [Below.heap_setCell _ _ _ _ (by simp; omega), Below.heap_setCell _ _ _ _ (by simp; omega), Below.heap_setCell _ _ _ _ (by simp; omega)]).mono fun b hb _ => by omega⟩
      · refine (end_no B q.pos q.k s hps _ X6.out).mono ?_
        rintro e w7 ⟨he, n7, rfl⟩
        unfold thrown at he
        subst he
        have PT5 : Blk (w6.drewN n7) w.heap.size #[.string q.t.name, .slice a q.t.args.length c] 25 := T6.out
        have PE5 : Blk (w6.drewN n7) (w.heap.size + 1) #[.int .i64 0] 28 := E6.out
        have PB5 : Below w.heap.size w (w6.drewN n7) := below_drewN B6.out n7
        generalize w6.drewN n7 = w7 at *
        refine leaves_cons (f := 37) (args := #[.pointer (some ⟨w.heap.size, 0, none⟩), .pointer (some ⟨w.heap.size + 1, 0, none⟩)]) (by simp) (by simp [go_sem]) ?_
        refine (catch_panicking w.heap.size (w.heap.size + 1) 12 0 q.t.name (.slice a q.t.args.length c) w7 PT5 PE5).mono ?_
        rintro e u' w'' ⟨rfl, rfl, rfl⟩
        have q0 := (((PT5.set 0 (.string ⟨#[]⟩)).set 1 (.slice none 0 0)).setOther (b' := w.heap.size + 1) 0 (.int .i64 12) (by omega)).cell 0
        have q1 := (((PT5.set 0 (.string ⟨#[]⟩)).set 1 (.slice none 0 0)).setOther (b' := w.heap.size + 1) 0 (.int .i64 12) (by omega)).cell 1
        have q2 := (((PE5.setOther (b' := w.heap.size) 0 (.string ⟨#[]⟩) (by omega)).setOther (b' := w.heap.size) 1 (.slice none 0 0) (by omega)).set 0 (.int .i64 12)).cell 0
        simp at q0 q1 q2
        simp [Leaves, settle, results, Tryz.results21, go_sem, q0, q1, q2]
        exact parse_no (by rw [HR0.out, if_neg (by rw [HQE.out]; simp), if_neg hps]) (by decide) ((((PB5.setCell (by simp) _).setCell (by simp) _).setCell (by simp) _).drew)
    · rw [if_neg hq] at hp
      obtain ⟨rfl, he5⟩ := hp
      have PT5 := PT.out.ex he5 (by omega)
      have PE5 := PE.out.ex he5 (by omega)
      have PB5 := he5.below PB.out (by omega)
      refine leaves_cons (f := 37) (args := #[.pointer (some ⟨w.heap.size, 0, none⟩), .pointer (some ⟨w.heap.size + 1, 0, none⟩)]) (by simp) (by simp [go_sem]) ?_
      refine (catch_panicking w.heap.size (w.heap.size + 1) q.err 0 _ _ w5 PT5 PE5).mono ?_
      rintro e u' w'' ⟨rfl, rfl, rfl⟩
      have q0 := (((PT5.set 0 (.string ⟨#[]⟩)).set 1 (.slice none 0 0)).setOther (b' := w.heap.size + 1) 0 (.int .i64 q.err) (by omega)).cell 0
      have q1 := (((PT5.set 0 (.string ⟨#[]⟩)).set 1 (.slice none 0 0)).setOther (b' := w.heap.size + 1) 0 (.int .i64 q.err) (by omega)).cell 1
      have q2 := (((PE5.setOther (b' := w.heap.size) 0 (.string ⟨#[]⟩) (by omega)).setOther (b' := w.heap.size) 1 (.slice none 0 0) (by omega)).set 0 (.int .i64 q.err)).cell 0
      simp at q0 q1 q2
      simp [Leaves, settle, results, Tryz.results21, go_sem, q0, q1, q2]
      exact parse_no (by rw [HR0.out, if_pos hq]) hq ((((PB5.setCell (by simp) _).setCell (by simp) _).setCell (by simp) _).drew)
end Go.Proofs.YtdmaijmglblccaaGreatDoor
