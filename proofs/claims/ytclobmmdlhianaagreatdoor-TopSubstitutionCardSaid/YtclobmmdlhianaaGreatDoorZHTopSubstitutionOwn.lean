/- Several texts in one. -/
import Derived.Test.YtclobmmdlhianaaGreatDoorLn5
import Derived.Test.YtclobmmdlhianaaGreatDoorL8
import Derived.Test.YtclobmmdlhianaaGreatDoorLn8
import Derived.Test.YtclobmmdlhianaaGreatDoorLn6
import Derived.Test.YtclobmmdlhianaaGreatDoorZBTopSubstitutionOwn
/- Walks: a lambda term copied; the program's steps, to the end. -/
namespace Go.Proofs.YtclobmmdlhianaaGreatDoor
open Go.RowKit
set_option linter.unusedSimpArgs false
set_option linter.unusedVariables false
set_option maxRecDepth 8000

/-- On the way: after d steps it is t. -/
structure OnWayM (inn : Bool) (u : Int) (m : Nat) (t0 : Lm) (d : Nat) (t : Lm) : Prop where
  le : d ≤ m
  e1 : (endM inn m t0).1 = (endM inn (m - d) t).1
  e2 : (endM inn m t0).2.1 = (endM inn (m - d) t).2.1
  e3 : (endM inn m t0).2.2 = (endM inn (m - d) t).2.2 + d
  hu : 0 ≤ u ∧ u ≤ 40
  er : errM u 0 [t] = 0
  sz : sizeM [t] ≤ 2000
theorem OnWayM.start {inn : Bool} {u : Int} {m : Nat} {t : Lm} (hu : 0 ≤ u ∧ u ≤ 40) (he : errM u 0 [t] = 0) (hs : sizeM [t] ≤ 2000) : OnWayM inn u m t 0 t := ⟨Nat.zero_le _, by simp, by simp, by simp, hu, he, hs⟩
theorem endM_none {inn : Bool} {k : Nat} {t : Lm} (h : stepM [t] = false) : endM inn k t = (0, t, 0) := by cases k <;> simp [endM, h]
theorem OnWayM.fin {inn : Bool} {u : Int} {m d : Nat} {t0 t : Lm} (h : OnWayM inn u m t0 d t) (hn : stepM [t] = false) : (endM inn m t0).1 = 0 ∧ (endM inn m t0).2.1 = t ∧ (endM inn m t0).2.2 = d := by
  obtain ⟨_, h1, h2, h3, _⟩ := h
  rw [endM_none hn] at h1 h2 h3
  exact ⟨h1, h2, by simpa using h3⟩
theorem OnWayM.fuel {inn : Bool} {u : Int} {m : Nat} {t0 t : Lm} (h : OnWayM inn u m t0 m t) (hn : stepM [t] = true) : (endM inn m t0).1 = 9 := by
  rw [h.e1, Nat.sub_self]; simp [endM, hn]
theorem OnWayM.full {inn : Bool} {u : Int} {m d : Nat} {t0 t : Lm} (h : OnWayM inn u m t0 d t) (hd : d ≠ m) (hn : stepM [t] = true) (hs : 2000 < sizeM [stpT inn 2001 t]) : (endM inn m t0).1 = 8 := by
  have := h.le
  rw [h.e1, show m - d = (m - d - 1) + 1 by omega]; simp [endM, hn, hs]
theorem OnWayM.on {inn : Bool} {u : Int} {m d : Nat} {t0 t : Lm} (h : OnWayM inn u m t0 d t) (hd : d ≠ m) (hn : stepM [t] = true) (hs : ¬ 2000 < sizeM [stpT inn 2001 t]) : OnWayM inn u m t0 (d + 1) (stpT inn 2001 t) := by
  obtain ⟨h0, h1, h2, h3, h4, h5, h6⟩ := h
  rw [show m - d = (m - (d + 1)) + 1 by omega] at h1 h2 h3
  have e : endM inn (m - (d + 1) + 1) t = ((endM inn (m - (d + 1)) (stpT inn 2001 t)).1, (endM inn (m - (d + 1)) (stpT inn 2001 t)).2.1, (endM inn (m - (d + 1)) (stpT inn 2001 t)).2.2 + 1) := by
    rw [endM, if_pos hn, if_neg hs]
  rw [e] at h1 h2 h3
  exact ⟨by omega, h1, h2, by rw [h3]; simp only; omega, h4, err_stp inn 0 2001 t u h4.1 h5, by omega⟩
theorem OnWayM.gd {inn : Bool} {u : Int} {m d : Nat} {t0 t : Lm} (h : OnWayM inn u m t0 d t) : GdM u t := ⟨h.hu.1, by have := h.hu.2; have := h.sz; omega, h.er, h.sz⟩
theorem hig_zero (l : List Lm) : ∀ d, LfM l → higM 0 d l = l := by
  induction l using Lm.indL with
  | h0 => intro d _; simp [higM]
  | h k x l r ihl ihr =>
    intro d h
    obtain ⟨h1, h2, h3⟩ := (LfM_cons k x l r).1 h
    rw [higM, ihr d h3]
    by_cases hk : k = 1
    · rw [if_pos hk]
      split
      · rfl
      · rw [h1 hk, hk]; simp
    · rw [if_neg hk, ihl _ h2]
theorem higT_zero {t : Lm} (h : LfM [t]) : higT 0 0 t = t := by
  have := hig_zero [t] 0 h
  rw [higM_map] at this
  simpa using this

set_option maxHeartbeats 1000000 in
theorem outerF_any (v : Value) (t : Lm) (w : World) (X : Nat → Prop) (hv : MV w X v t) :
    Calls Tryz.prog 36 #[v] w fun e w' => ∃ T a c, e = .returned (.func (.func 49) #[] #[.pointer (some ⟨T, 0, none⟩)]) ∧ Blk w' T #[.int .i64 t.kind, .int .i64 t.idx, .slice a t.subs.length c] 25 ∧ SlM w' X a t.subs ∧ Below w.heap.size w w' := by
  have hmf : ∀ (fn : Fn) (first cap : Array Value) (w : World), (Instr.makeFunc fn first cap).run Tryz.prog w = .ok (.func fn first cap) w := fun _ _ _ _ => rfl
  obtain ⟨a, c, rfl, hs⟩ := hv
  have HB : Hid (Below w.heap.size w (w.alloc (.cells #[.int .i64 t.kind, .int .i64 t.idx, .slice a t.subs.length c] 25))) := (Below.refl _ _).alloc (Nat.le_refl _) _
  have HS := hide (hs.later HB.out)
  have HK : Hid (Blk (w.alloc (.cells #[.int .i64 t.kind, .int .i64 t.idx, .slice a t.subs.length c] 25)) w.heap.size #[.int .i64 t.kind, .int .i64 t.idx, .slice a t.subs.length c] 25) := Blk.new _ _ _
  clear hs
  go_enter Tryz.func36, Tryz.ntmps36
  go_wp2_with fail
  go_ret
  exact ⟨_, a, c, rfl, HK.out, HS.out, HB.out⟩

theorem cpM_end {w w1 : World} {x : Lm} {a : Option Addr} {c : Nat} (hs : SlM w1 (fun b => w.heap.size + 2 ≤ b) a x.subs) (h0 : Below w.heap.size w w1) (u u' u'' : Value) :
    MV (((w1.setCell ⟨w.heap.size + 1, 0, none⟩ u).setCell ⟨w.heap.size + 1, 1, none⟩ u').setCell ⟨w.heap.size + 1, 2, none⟩ u'') (fun b => w.heap.size + 2 ≤ b) (.agg #[.int .i64 x.kind, .int .i64 x.idx, .slice a x.subs.length c]) x ∧ Below w.heap.size w (((w1.setCell ⟨w.heap.size + 1, 0, none⟩ u).setCell ⟨w.heap.size + 1, 1, none⟩ u').setCell ⟨w.heap.size + 1, 2, none⟩ u'') := by
  refine ⟨⟨a, c, rfl, hs.kept fun b hb => ?_⟩, ((h0.setCell (p := ⟨w.heap.size + 1, 0, none⟩) (by simp) _).setCell (p := ⟨w.heap.size + 1, 1, none⟩) (by simp) _).setCell (p := ⟨w.heap.size + 1, 2, none⟩) (by simp) _⟩
  have hne : b ≠ w.heap.size + 1 := by omega
  rw [Below.heap_setCell _ _ _ _ (by simpa using hne), Below.heap_setCell _ _ _ _ (by simpa using hne), Below.heap_setCell _ _ _ _ (by simpa using hne)]

set_option maxHeartbeats 2000000 in
theorem raise0_any (t : Lm) (u : Int) (hg : GdM u t) (v : Value) (w : World) (X : Nat → Prop) (hv : MV w X v t) :
    Calls Tryz.prog 77 #[v, .int .i64 0] w fun e w' => ∃ v', e = .returned v' ∧ MV w' (fun b => w.heap.size ≤ b) v' t ∧ Below w.heap.size w w' := by
  obtain ⟨a, c, rfl, hs⟩ := hv
  obtain ⟨g1, g2, g3, g4⟩ := hg
  have hlf := lf_of_err _ _ _ g3
  have hB3 : Below w.heap.size w (((w.alloc (.cells #[.int .i64 t.kind, .int .i64 t.idx, .slice a t.subs.length c] 25)).alloc (.cells #[.int .i64 0, .int .i64 0, .slice none 0 0] 25)).alloc (.cells #[.int .i64 9223372036854775807] 53)) := (below2M _ _).alloc (by simp; omega) _
  have hz3 : (((w.alloc (.cells #[.int .i64 t.kind, .int .i64 t.idx, .slice a t.subs.length c] 25)).alloc (.cells #[.int .i64 0, .int .i64 0, .slice none 0 0] 25)).alloc (.cells #[.int .i64 9223372036854775807] 53)).heap.size = w.heap.size + 3 := by simp
  have KM : Blk (((w.alloc (.cells #[.int .i64 t.kind, .int .i64 t.idx, .slice a t.subs.length c] 25)).alloc (.cells #[.int .i64 0, .int .i64 0, .slice none 0 0] 25)).alloc (.cells #[.int .i64 9223372036854775807] 53)) (w.heap.size + 1 + 1) #[.int .i64 9223372036854775807] 53 := by
    have h := Blk.new ((w.alloc (.cells #[.int .i64 t.kind, .int .i64 t.idx, .slice a t.subs.length c] 25)).alloc (.cells #[.int .i64 0, .int .i64 0, .slice none 0 0] 25)) #[.int .i64 9223372036854775807] 53
    simpa using h
  have KR : Blk (((w.alloc (.cells #[.int .i64 t.kind, .int .i64 t.idx, .slice a t.subs.length c] 25)).alloc (.cells #[.int .i64 0, .int .i64 0, .slice none 0 0] 25)).alloc (.cells #[.int .i64 9223372036854775807] 53)) (w.heap.size + 1) #[.int .i64 0, .int .i64 0, .slice none 0 0] 25 := by
    have h := (Blk.new (w.alloc (.cells #[.int .i64 t.kind, .int .i64 t.idx, .slice a t.subs.length c] 25)) #[.int .i64 0, .int .i64 0, .slice none 0 0] 25).alloc (.cells #[.int .i64 9223372036854775807] 53)
    simpa using h
  have RS := hide (raise_any (w.heap.size + 1 + 1) 0 (by omega) (by omega) t 9223372036854775807 (.agg #[.int .i64 t.kind, .int .i64 t.idx, .slice a t.subs.length c]) (((w.alloc (.cells #[.int .i64 t.kind, .int .i64 t.idx, .slice a t.subs.length c] 25)).alloc (.cells #[.int .i64 0, .int .i64 0, .slice none 0 0] 25)).alloc (.cells #[.int .i64 9223372036854775807] 53)) (fun b => X b ∧ b < w.heap.size) ⟨a, c, rfl, (hs.mono (Y := fun b => X b ∧ b < w.heap.size) fun b h1 h2 => ⟨h1, h2⟩).later hB3⟩ (fun b hb => by omega) (by omega) (by omega) (bnd_of_err _ _ _ g1 (by omega) (by omega) g3) hlf KM)
  rw [higT_zero hlf] at RS
  have HB3 := hide hB3
  have HZ3 := hide hz3
  have HKR := hide KR
  have hsz9 : sizeM [t] ≤ 9223372036854775807 := by omega
  clear hs hB3 hz3 KM KR g3 hlf
  go_enter Tryz.func77, Tryz.ntmps77
  go_wp2_with fail
  refine RS.out.mono ?_
  rintro e w1 ⟨k', x', a', l', c', m, rfl, hF, hx, hy, _⟩
  obtain ⟨_, rfl, rfl, rfl, hsl⟩ := hy hsz9
  have h1 : w.heap.size + 3 ≤ w1.heap.size := by have := hx.size; have := HZ3.out; omega
  have B1 : Hid (Below w.heap.size w w1) := ⟨hx.os.trans HB3.out.os, hx.tape.trans HB3.out.tape, hx.output.trans HB3.out.output, by omega, fun b hb => (hx.block b (by have := HZ3.out; omega) (by omega)).trans (HB3.out.block b hb)⟩
  have R1 := hide (HKR.out.ex hx (by omega))
  have S1 : Hid (SlM w1 (fun b => w.heap.size + 2 ≤ b) a' t.subs) := hsl.mono fun b h _ => by have h' : (((w.alloc (.cells #[.int .i64 t.kind, .int .i64 t.idx, .slice a t.subs.length c] 25)).alloc (.cells #[.int .i64 0, .int .i64 0, .slice none 0 0] 25)).alloc (.cells #[.int .i64 9223372036854775807] 53)).heap.size ≤ b := h; have := HZ3.out; omega
  have r0 : w1.cell? ⟨w.heap.size + 1, 0, none⟩ = some (.int .i64 0) := R1.out.cell 0
  have r1 : w1.cell? ⟨w.heap.size + 1, 1, none⟩ = some (.int .i64 0) := R1.out.cell 1
  have r2 : w1.cell? ⟨w.heap.size + 1, 2, none⟩ = some (.slice none 0 0) := R1.out.cell 2
  have rf := R1.out.frozen
  clear hF hx hy hsl RS
  go_wp2_with fail
  refine bodyPost_ret (v := .agg #[.int .i64 t.kind, .int .i64 t.idx, .slice a' t.subs.length c']) (by simp [results, Tryz.results77, go_sem, World.cell?_setCell_same, World.cell?_setCell_other, r0, r1, r2]) rfl ?_
  have hE := cpM_end (c := c') S1.out B1.out (.int .i64 t.kind) (.int .i64 t.idx) (.slice a' t.subs.length c')
  exact ⟨_, rfl, hE.1.mono fun b hb _ => by omega, hE.2⟩

set_option maxHeartbeats 2000000 in
theorem copyM_any (t : Lm) (u : Int) (hg : GdM u t) (v : Value) (w : World) (X : Nat → Prop) (hv : MV w X v t) :
    Calls Tryz.prog 63 #[v] w fun e w' => ∃ v', e = .returned v' ∧ MV w' (fun b => w.heap.size + 2 ≤ b) v' t ∧ Below w.heap.size w w' := by
  obtain ⟨a, c, rfl, hs⟩ := hv
  have HV : Hid (MV ((w.alloc (.cells #[.int .i64 t.kind, .int .i64 t.idx, .slice a t.subs.length c] 25)).alloc (.cells #[.int .i64 0, .int .i64 0, .slice none 0 0] 25)) X (.agg #[.int .i64 t.kind, .int .i64 t.idx, .slice a t.subs.length c]) t) := ⟨a, c, rfl, hs.later (below2M _ _)⟩
  have HB0 : Hid (Below w.heap.size w ((w.alloc (.cells #[.int .i64 t.kind, .int .i64 t.idx, .slice a t.subs.length c] 25)).alloc (.cells #[.int .i64 0, .int .i64 0, .slice none 0 0] 25))) := below2M _ _
  have KR : Hid (Blk ((w.alloc (.cells #[.int .i64 t.kind, .int .i64 t.idx, .slice a t.subs.length c] 25)).alloc (.cells #[.int .i64 0, .int .i64 0, .slice none 0 0] 25)) (w.heap.size + 1) #[.int .i64 0, .int .i64 0, .slice none 0 0] 25) := by
    have h := Blk.new (w.alloc (.cells #[.int .i64 t.kind, .int .i64 t.idx, .slice a t.subs.length c] 25)) #[.int .i64 0, .int .i64 0, .slice none 0 0] 25
    unfold Hid
    simpa using h
  clear hs
  go_enter Tryz.func63, Tryz.ntmps63
  go_wp2_with fail
  refine (raise0_any t u hg _ _ X HV.out).mono ?_
  rintro e w1 ⟨v1, rfl, ⟨a1, c1, rfl, hs1⟩, hb1⟩
  have B1 := hide (HB0.out.trans (hb1.mono (by simp; omega)))
  have R1 := hide (KR.out.below hb1 KR.out.lt)
  have S1 : Hid (SlM w1 (fun b => w.heap.size + 2 ≤ b) a1 t.subs) := hs1.mono fun b h _ => by simp at h; omega
  have r0 : w1.cell? ⟨w.heap.size + 1, 0, none⟩ = some (.int .i64 0) := R1.out.cell 0
  have r1 : w1.cell? ⟨w.heap.size + 1, 1, none⟩ = some (.int .i64 0) := R1.out.cell 1
  have r2 : w1.cell? ⟨w.heap.size + 1, 2, none⟩ = some (.slice none 0 0) := R1.out.cell 2
  have rf := R1.out.frozen
  clear hs1 hb1
  go_wp2_with fail
  refine bodyPost_ret (v := .agg #[.int .i64 t.kind, .int .i64 t.idx, .slice a1 t.subs.length c1]) (by simp [results, Tryz.results63, go_sem, World.cell?_setCell_same, World.cell?_setCell_other, r0, r1, r2]) rfl ?_
  have hE := cpM_end (c := c1) S1.out B1.out (.int .i64 t.kind) (.int .i64 t.idx) (.slice a1 t.subs.length c1)
  exact ⟨_, rfl, hE.1, hE.2⟩
end Go.Proofs.YtclobmmdlhianaaGreatDoor

/- What a run answers; what is kept on the way. -/
namespace Go.Proofs.YtclobmmdlhianaaGreatDoor
open Go.RowKit
set_option linter.unusedSimpArgs false
set_option linter.unusedVariables false
set_option maxRecDepth 8000

/-- What a run answers. -/
def RnPost (inn : Bool) (m : Nat) (t : Lm) (X : Nat → Prop) (w : World) (e : Ending) (w' : World) : Prop :=
  Below w.heap.size w w' ∧ (((endM inn m t).1 = 0 ∧ ∃ a c, e = .returned (.tuple #[.agg #[.int .i64 (endM inn m t).2.1.kind, .int .i64 (endM inn m t).2.1.idx, .slice a (endM inn m t).2.1.subs.length c], .int .i64 ((endM inn m t).2.2 : Int), .int .i64 0]) ∧ SlM w' (fun b => (X b ∧ b < w.heap.size) ∨ w.heap.size ≤ b) a (endM inn m t).2.1.subs) ∨
    ((endM inn m t).1 ≠ 0 ∧ e = .returned (.tuple #[.agg #[.int .i64 0, .int .i64 0, .slice none 0 0], .int .i64 0, .int .i64 (endM inn m t).1])))
def RuY (w : World) (X : Nat → Prop) (b : Nat) : Prop := (X b ∧ b < w.heap.size) ∨ w.heap.size + 2 ≤ b
def RuI (inn : Bool) (u : Int) (w : World) (X : Nat → Prop) (m : Nat) (t0 : Lm) (i : Value) (wr : World) : Prop :=
  ∃ (d : Nat) (t : Lm) (a : Option Addr) (c : Nat), i = .int .i64 (d : Int) ∧ OnWayM inn u m t0 d t ∧ Below w.heap.size w wr ∧ w.heap.size + 2 ≤ wr.heap.size ∧ Blk wr w.heap.size #[.int .i64 t.kind, .int .i64 t.idx, .slice a t.subs.length c] 25 ∧ Blk wr (w.heap.size + 1) #[.int .i64 0, .int .i64 0, .slice none 0 0] 25 ∧ SlM wr (RuY w X) a t.subs
theorem ruY_keep {w W : World} {X : Nat → Prop} {a : Option Addr} {l : List Lm} (h : SlM W (RuY w X) a l) (j : Nat) (hj : j = w.heap.size ∨ j = w.heap.size + 1) (u u' u'' : Value) : SlM (((W.setCell ⟨j, 0, none⟩ u).setCell ⟨j, 1, none⟩ u').setCell ⟨j, 2, none⟩ u'') (RuY w X) a l := by
  refine h.kept fun b hb => ?_
  have hne : b ≠ j := by rcases hb with hb | hb <;> omega
  rw [Below.heap_setCell _ _ _ _ (by simpa using hne), Below.heap_setCell _ _ _ _ (by simpa using hne), Below.heap_setCell _ _ _ _ (by simpa using hne)]
theorem bl_set3 {w W : World} (h : Below w.heap.size w W) (j : Nat) (hj : w.heap.size ≤ j) (u u' u'' : Value) : Below w.heap.size w (((W.setCell ⟨j, 0, none⟩ u).setCell ⟨j, 1, none⟩ u').setCell ⟨j, 2, none⟩ u'') :=
  ((h.setCell (p := ⟨j, 0, none⟩) (by simpa using hj) _).setCell (p := ⟨j, 1, none⟩) (by simpa using hj) _).setCell (p := ⟨j, 2, none⟩) (by simpa using hj) _
theorem blk_set3 {W : World} {A T : Nat} {x0 x1 x2 : Value} (h : Blk W A #[x0, x1, x2] T) (u u' u'' : Value) : Blk (((W.setCell ⟨A, 0, none⟩ u).setCell ⟨A, 1, none⟩ u').setCell ⟨A, 2, none⟩ u'') A #[u, u', u''] T := by
  have := ((h.set 0 u).set 1 u').set 2 u''
  simpa using this
theorem blk_set3o {W : World} {A B T : Nat} {cs : Array Value} (h : Blk W A cs T) (hn : A ≠ B) (u u' u'' : Value) : Blk (((W.setCell ⟨B, 0, none⟩ u).setCell ⟨B, 1, none⟩ u').setCell ⟨B, 2, none⟩ u'') A cs T := ((h.setOther 0 u hn).setOther 1 u' hn).setOther 2 u'' hn

end Go.Proofs.YtclobmmdlhianaaGreatDoor

/- Walks: the program's steps, to the end; the document's. -/
namespace Go.Proofs.YtclobmmdlhianaaGreatDoor
open Go.RowKit
set_option linter.unusedSimpArgs false
set_option linter.unusedVariables false
set_option maxRecDepth 8000

set_option maxHeartbeats 4000000 in
theorem bRun_any (u : Int) (m : Nat) (t0 : Lm) (v : Value) (w : World) (X : Nat → Prop) (hm : m ≤ 400) (hu : 0 ≤ u ∧ u ≤ 40) (he : errM u 0 [t0] = 0) (hz : sizeM [t0] ≤ 2000) (hv : MV w X v t0) :
    Calls Tryz.prog 48 #[v, .func (.func 36) #[] #[], .int .i64 (m : Int)] w fun e w' => RnPost false m t0 X w e w' := by
  obtain ⟨a, c, rfl, hs⟩ := hv
  have HS : Hid (SlM w (RuY w X) a t0.subs) := hs.mono fun b h1 h2 => Or.inl ⟨h1, h2⟩
  have HW := hide (OnWayM.start (inn := false) (m := m) hu he hz)
  have I0 : Hid (RuI false u w X m t0 (.int .i64 ((0 : Nat) : Int)) ((w.alloc (.cells #[.int .i64 t0.kind, .int .i64 t0.idx, .slice a t0.subs.length c] 25)).alloc (.cells #[.int .i64 0, .int .i64 0, .slice none 0 0] 25))) := by
    refine ⟨0, t0, a, c, rfl, HW.out, below2M _ _, by simp, (Blk.new w _ _).alloc _, ?_, HS.out.later (below2M _ _)⟩
    have h := Blk.new (w.alloc (.cells #[.int .i64 t0.kind, .int .i64 t0.idx, .slice a t0.subs.length c] 25)) #[.int .i64 0, .int .i64 0, .slice none 0 0] 25
    simpa using h
  clear hs he hz HS HW
  go_enter Tryz.func48, Tryz.ntmps48
  go_wp2_with fail
  go_loopw [9] (fun i wr => RuI false u w X m t0 i wr) (fun i wr => m - (intOf i).toNat)
  case atStart => exact I0.out
  case round =>
    obtain ⟨d, t, at', ct, rfl, hon, hb, hsz, hT, hR, hs⟩ := hrel
    have HON := hide hon
    have HBW := hide hb
    have HT := hide hT
    have HR := hide hR
    have HSL := hide hs
    have hdm := hon.le
    have t0' : wr.cell? ⟨w.heap.size, 0, none⟩ = some (.int .i64 t.kind) := hT.cell 0
    have t1' : wr.cell? ⟨w.heap.size, 1, none⟩ = some (.int .i64 t.idx) := hT.cell 1
    have t2' : wr.cell? ⟨w.heap.size, 2, none⟩ = some (.slice at' t.subs.length ct) := hT.cell 2
    clear hon hb hT hR hs I0
    go_wp2_with fail
    refine (outerF_any _ t wr (RuY w X) ⟨at', ct, rfl, HSL.out⟩).mono ?_
    rintro e w1 ⟨T, a1, c1, rfl, hB1, hs1, hb1⟩
    have HB1 := hide hB1
    have HS1 := hide hs1
    have HBB1 := hide hb1
    clear hB1 hs1 hb1
    go_wp2_with fail
    refine (firstM_any (outer_at 2001 t u (by have := HON.out.sz; omega) HON.out.gd) T a1 c1 w1 (RuY w X) HB1.out HS1.out).mono ?_
    rintro e w2 ⟨hb2', hcase⟩
    have HB2 := hide (HBB1.out.trans (hb2'.mono HBB1.out.size))
    have hsz2 : wr.heap.size ≤ w2.heap.size := HB2.out.size
    have hsz1 : wr.heap.size ≤ w1.heap.size := HBB1.out.size
    clear hb2' t0' t1' t2'
    rcases hcase with ⟨hst, rfl⟩ | ⟨hst, x, ok, a2, c2, rfl, hfs, hs2⟩
    · have HE := hide (HON.out.fin hst)
      have RA := hide ((HR.out.below HB2.out (by omega)).alloc (.cells #[.int .i64 0, .int .i64 0, .slice none 0 0] 25))
      have BA := hide ((HBW.out.trans (HB2.out.mono (by omega))).alloc (by omega) (.cells #[.int .i64 0, .int .i64 0, .slice none 0 0] 25))
      have TA := hide ((HT.out.below HB2.out (by omega)).alloc (.cells #[.int .i64 0, .int .i64 0, .slice none 0 0] 25))
      have SA := hide ((HSL.out.later HB2.out).later ((Below.refl _ _).alloc (Nat.le_refl _) (.cells #[.int .i64 0, .int .i64 0, .slice none 0 0] 25)))
      have q0 : (w2.alloc (.cells #[.int .i64 0, .int .i64 0, .slice none 0 0] 25)).cell? ⟨w.heap.size, 0, none⟩ = some (.int .i64 t.kind) := TA.out.cell 0
      have q1 : (w2.alloc (.cells #[.int .i64 0, .int .i64 0, .slice none 0 0] 25)).cell? ⟨w.heap.size, 1, none⟩ = some (.int .i64 t.idx) := TA.out.cell 1
      have q2 : (w2.alloc (.cells #[.int .i64 0, .int .i64 0, .slice none 0 0] 25)).cell? ⟨w.heap.size, 2, none⟩ = some (.slice at' t.subs.length ct) := TA.out.cell 2
      have hsA : (w2.alloc (.cells #[.int .i64 0, .int .i64 0, .slice none 0 0] 25)).heap.size = w2.heap.size + 1 := by simp
      clear hst TA
      go_wp2_with fail
      generalize (w2.alloc (.cells #[.int .i64 0, .int .i64 0, .slice none 0 0] 25)) = wA at *
      refine (copyM_any t u HON.out.gd _ _ (RuY w X) ⟨at', ct, rfl, SA.out⟩).mono ?_
      rintro e w6 ⟨v6, rfl, ⟨a6, c6, rfl, hs6⟩, hb6⟩
      have B6 := hide (BA.out.trans (hb6.mono BA.out.size))
      have K6 := hide (RA.out.below hb6 (by omega))
      have S6 : Hid (SlM w6 (RuY w X) a6 t.subs) := hs6.mono fun b h _ => Or.inr (by omega)
      have r0 : w6.cell? ⟨w.heap.size + 1, 0, none⟩ = some (.int .i64 0) := K6.out.cell 0
      have r1 : w6.cell? ⟨w.heap.size + 1, 1, none⟩ = some (.int .i64 0) := K6.out.cell 1
      have r2 : w6.cell? ⟨w.heap.size + 1, 2, none⟩ = some (.slice none 0 0) := K6.out.cell 2
      have rf := K6.out.frozen
      clear hs6 hb6 q0 q1 q2
      go_wp2_with fail
      refine bodyPost_ret (v := .tuple #[.agg #[.int .i64 t.kind, .int .i64 t.idx, .slice a6 t.subs.length c6], .int .i64 (d : Int), .int .i64 0]) (by simp [results, Tryz.results48, go_sem, World.cell?_setCell_same, World.cell?_setCell_other, r0, r1, r2]) rfl ?_
      refine ⟨bl_set3 B6.out _ (by omega) _ _ _, Or.inl ⟨HE.out.1, a6, c6, by rw [HE.out.2.1, HE.out.2.2], ?_⟩⟩
      rw [HE.out.2.1]
      exact (ruY_keep S6.out _ (Or.inr rfl) _ _ _).mono fun b hb _ => hb.imp id fun h => by omega
    · have HST := hide hst
      have HFS := hide hfs
      have HS2 : Hid (SlM w2 (RuY w X) a2 x.subs) := hs2.mono fun b hb _ => hb.elim And.left fun h => Or.inr (by omega)
      have RA := hide ((HR.out.below HB2.out (by omega)).alloc (.cells #[.int .i64 x.kind, .int .i64 x.idx, .slice a2 x.subs.length c2] 25))
      have TA := hide ((HT.out.below HB2.out (by omega)).alloc (.cells #[.int .i64 x.kind, .int .i64 x.idx, .slice a2 x.subs.length c2] 25))
      have BA := hide ((HBW.out.trans (HB2.out.mono (by omega))).alloc (by omega) (.cells #[.int .i64 x.kind, .int .i64 x.idx, .slice a2 x.subs.length c2] 25))
      have SA := hide (HS2.out.later ((Below.refl _ _).alloc (Nat.le_refl _) (.cells #[.int .i64 x.kind, .int .i64 x.idx, .slice a2 x.subs.length c2] 25)))
      have XA : Hid (Blk (w2.alloc (.cells #[.int .i64 x.kind, .int .i64 x.idx, .slice a2 x.subs.length c2] 25)) w2.heap.size #[.int .i64 x.kind, .int .i64 x.idx, .slice a2 x.subs.length c2] 25) := Blk.new _ _ _
      have hsA : (w2.alloc (.cells #[.int .i64 x.kind, .int .i64 x.idx, .slice a2 x.subs.length c2] 25)).heap.size = w2.heap.size + 1 := by simp
      clear hs2 hst hfs
      obtain ⟨P2, hP2⟩ : ∃ P2, P2 = w2.heap.size := ⟨_, rfl⟩
      have R2 := hide (HR.out.below HB2.out (by omega))
      have B2w := hide (HBW.out.trans (HB2.out.mono (by omega)))
      by_cases hd : d = m
      · subst hd
        have HE := hide (HON.out.fuel HST.out)
        have r0 : ∀ o, (w2.alloc o).cell? ⟨w.heap.size + 1, 0, none⟩ = some (.int .i64 0) := fun o => (R2.out.alloc o).cell 0
        have r1 : ∀ o, (w2.alloc o).cell? ⟨w.heap.size + 1, 1, none⟩ = some (.int .i64 0) := fun o => (R2.out.alloc o).cell 1
        have r2 : ∀ o, (w2.alloc o).cell? ⟨w.heap.size + 1, 2, none⟩ = some (.slice none 0 0) := fun o => (R2.out.alloc o).cell 2
        have rf : ∀ o i, (w2.alloc o).frozen? ⟨w.heap.size + 1, i, none⟩ = false := fun o => (R2.out.alloc o).frozen
        have r0' : w2.cell? ⟨w.heap.size + 1, 0, none⟩ = some (.int .i64 0) := R2.out.cell 0
        have r1' : w2.cell? ⟨w.heap.size + 1, 1, none⟩ = some (.int .i64 0) := R2.out.cell 1
        have r2' : w2.cell? ⟨w.heap.size + 1, 2, none⟩ = some (.slice none 0 0) := R2.out.cell 2
        have rf' : ∀ i, w2.frozen? ⟨w.heap.size + 1, i, none⟩ = false := R2.out.frozen
        have hl2 : w.heap.size + 1 < w2.heap.size := by omega
        have HBF : Hid (∀ o x0 x1 x2, Below w.heap.size w ((((w2.setCell ⟨w.heap.size + 1, 0, none⟩ x0).setCell ⟨w.heap.size + 1, 1, none⟩ x1).setCell ⟨w.heap.size + 1, 2, none⟩ x2).alloc o) ∧ Below w.heap.size w ((((w2.alloc o).setCell ⟨w.heap.size + 1, 0, none⟩ x0).setCell ⟨w.heap.size + 1, 1, none⟩ x1).setCell ⟨w.heap.size + 1, 2, none⟩ x2)) := fun o x0 x1 x2 => ⟨(bl_set3 B2w.out _ (by omega) x0 x1 x2).alloc (by have := (bl_set3 B2w.out (w.heap.size + 1) (by omega) x0 x1 x2).size; omega) o, bl_set3 (B2w.out.alloc (by omega) o) _ (by omega) x0 x1 x2⟩
        go_wp2_with fail
        refine bodyPost_ret (v := .tuple #[.agg #[.int .i64 0, .int .i64 0, .slice none 0 0], .int .i64 0, .int .i64 9]) (by simp [results, Tryz.results48, go_sem, World.cell?_setCell_same, World.cell?_setCell_other, r0, r1, r2, r0', r1', r2', hl2, World.cell?_alloc_old]) rfl ?_
        refine ⟨by first | exact (HBF.out _ _ _ _).1 | exact (HBF.out _ _ _ _).2, Or.inr ⟨by rw [HE.out]; decide, by rw [HE.out]⟩⟩
      · have hdi : ((d : Int) == (m : Int)) = false := beq_eq_false_iff_ne.2 (by omega)
        have x0 := XA.out.cell 0
        have x1 := XA.out.cell 1
        have x2 := XA.out.cell 2
        simp only [List.getElem?_toArray, List.getElem?_cons_succ, List.getElem?_cons_zero] at x0 x1 x2
        cases ok with
        | false =>
          have HE := hide (HON.out.full hd HST.out (HFS.out.2 rfl))
          have r0 : ∀ o, (w2.alloc o).cell? ⟨w.heap.size + 1, 0, none⟩ = some (.int .i64 0) := fun o => (R2.out.alloc o).cell 0
          have r1 : ∀ o, (w2.alloc o).cell? ⟨w.heap.size + 1, 1, none⟩ = some (.int .i64 0) := fun o => (R2.out.alloc o).cell 1
          have r2 : ∀ o, (w2.alloc o).cell? ⟨w.heap.size + 1, 2, none⟩ = some (.slice none 0 0) := fun o => (R2.out.alloc o).cell 2
          have rf : ∀ o i, (w2.alloc o).frozen? ⟨w.heap.size + 1, i, none⟩ = false := fun o => (R2.out.alloc o).frozen
          have r0' : w2.cell? ⟨w.heap.size + 1, 0, none⟩ = some (.int .i64 0) := R2.out.cell 0
          have r1' : w2.cell? ⟨w.heap.size + 1, 1, none⟩ = some (.int .i64 0) := R2.out.cell 1
          have r2' : w2.cell? ⟨w.heap.size + 1, 2, none⟩ = some (.slice none 0 0) := R2.out.cell 2
          have rf' : ∀ i, w2.frozen? ⟨w.heap.size + 1, i, none⟩ = false := R2.out.frozen
          have hl2 : w.heap.size + 1 < w2.heap.size := by omega
          have HBF : Hid (∀ o x0 x1 x2, Below w.heap.size w ((((w2.setCell ⟨w.heap.size + 1, 0, none⟩ x0).setCell ⟨w.heap.size + 1, 1, none⟩ x1).setCell ⟨w.heap.size + 1, 2, none⟩ x2).alloc o) ∧ Below w.heap.size w ((((w2.alloc o).setCell ⟨w.heap.size + 1, 0, none⟩ x0).setCell ⟨w.heap.size + 1, 1, none⟩ x1).setCell ⟨w.heap.size + 1, 2, none⟩ x2)) := fun o x0 x1 x2 => ⟨(bl_set3 B2w.out _ (by omega) x0 x1 x2).alloc (by have := (bl_set3 B2w.out (w.heap.size + 1) (by omega) x0 x1 x2).size; omega) o, bl_set3 (B2w.out.alloc (by omega) o) _ (by omega) x0 x1 x2⟩
          clear x0 x1 x2
          go_wp2_with fail
          refine bodyPost_ret (v := .tuple #[.agg #[.int .i64 0, .int .i64 0, .slice none 0 0], .int .i64 0, .int .i64 8]) (by simp [results, Tryz.results48, go_sem, World.cell?_setCell_same, World.cell?_setCell_other, r0, r1, r2, r0', r1', r2', hl2, World.cell?_alloc_old]) rfl ?_
          refine ⟨by first | exact (HBF.out _ _ _ _).1 | exact (HBF.out _ _ _ _).2, Or.inr ⟨by rw [HE.out]; decide, by rw [HE.out]⟩⟩
        | true =>
          have HXS := hide (HFS.out.1 rfl)
          go_wp2_with fail
          refine (countM_any 2000 (by omega) (by omega) x _ _ (RuY w X) (by exact ⟨a2, c2, rfl, SA.out⟩)).mono ?_
          rintro e w5 ⟨rfl, hb5⟩
          have hs5 := hb5.size
          rw [hsA] at hs5
          have B5 := hide (BA.out.trans (hb5.mono (by omega)))
          have T5 := hide (TA.out.below hb5 (by omega))
          have R5 := hide (RA.out.below hb5 (by omega))
          have S5 := hide (SA.out.later hb5)
          have X5 := hide (XA.out.below hb5 (by omega))
          have y0 : w5.cell? ⟨w.heap.size + 1, 0, none⟩ = some (.int .i64 0) := R5.out.cell 0
          have y1 : w5.cell? ⟨w.heap.size + 1, 1, none⟩ = some (.int .i64 0) := R5.out.cell 1
          have y2 : w5.cell? ⟨w.heap.size + 1, 2, none⟩ = some (.slice none 0 0) := R5.out.cell 2
          have yf : ∀ i, w5.frozen? ⟨w.heap.size + 1, i, none⟩ = false := R5.out.frozen
          have z0 : w5.cell? ⟨w2.heap.size, 0, none⟩ = some (.int .i64 x.kind) := X5.out.cell 0
          have z1 : w5.cell? ⟨w2.heap.size, 1, none⟩ = some (.int .i64 x.idx) := X5.out.cell 1
          have z2 : w5.cell? ⟨w2.heap.size, 2, none⟩ = some (.slice a2 x.subs.length c2) := X5.out.cell 2
          have u0 : w5.cell? ⟨w.heap.size, 0, none⟩ = some (.int .i64 t.kind) := T5.out.cell 0
          have u1 : w5.cell? ⟨w.heap.size, 1, none⟩ = some (.int .i64 t.idx) := T5.out.cell 1
          have u2 : w5.cell? ⟨w.heap.size, 2, none⟩ = some (.slice at' t.subs.length ct) := T5.out.cell 2
          have uf : ∀ i, w5.frozen? ⟨w.heap.size, i, none⟩ = false := T5.out.frozen
          clear hb5 x0 x1 x2
          by_cases hbig : 2000 < sizeM [x]
          · have e : min ((sizeM [x] : Int)) (2000 + 1) = 2001 := by omega
            have HE := hide (HON.out.full hd HST.out (by rw [← HXS.out]; exact hbig))
            rw [e]
            clear e hbig
            go_wp2_with fail
            refine bodyPost_ret (v := .tuple #[.agg #[.int .i64 0, .int .i64 0, .slice none 0 0], .int .i64 0, .int .i64 8]) (by simp [results, Tryz.results48, go_sem, World.cell?_setCell_same, World.cell?_setCell_other, y0, y1, y2]) rfl ?_
            exact ⟨bl_set3 B5.out _ (by omega) _ _ _, Or.inr ⟨by rw [HE.out]; decide, by rw [HE.out]⟩⟩
          · have e : min ((sizeM [x] : Int)) (2000 + 1) = sizeM [x] := by omega
            have e3 : decide ((sizeM [x] : Int) > 2000) = false := decide_eq_false (by omega)
            have HE := hide (HON.out.on hd HST.out (by rw [← HXS.out]; exact hbig))
            rw [← HXS.out] at HE
            rw [e]
            have HEI : Hid (RuI false u w X m t0 (.int .i64 ((d + 1 : Nat) : Int)) (((w5.setCell ⟨w.heap.size, 0, none⟩ (.int .i64 x.kind)).setCell ⟨w.heap.size, 1, none⟩ (.int .i64 x.idx)).setCell ⟨w.heap.size, 2, none⟩ (.slice a2 x.subs.length c2))) :=
              ⟨d + 1, x, a2, c2, rfl, HE.out, bl_set3 B5.out _ (by omega) _ _ _, by simp [World.setCell]; omega, blk_set3 T5.out _ _ _, blk_set3o R5.out (by omega) _ _ _, ruY_keep S5.out _ (Or.inl rfl) _ _ _⟩
            clear e hbig
            go_wp2_with fail
            go_roundw
            case rel => exact (by go_num : Value.int IntKind.i64 ((d : Int) + 1) = .int .i64 ((d + 1 : Nat) : Int)) ▸ HEI.out
            case measure => simp [intOf]; omega
end Go.Proofs.YtclobmmdlhianaaGreatDoor

/- Walks: the program's normal form. -/
namespace Go.Proofs.YtclobmmdlhianaaGreatDoor
open Go.RowKit
set_option linter.unusedSimpArgs false
set_option linter.unusedVariables false
set_option maxRecDepth 8000

theorem lamE_ok {u : Int} {t : Lm} (h : lamE u 0 t = 0) : (0 ≤ u ∧ u ≤ 40) ∧ errM u 0 [t] = 0 ∧ sizeM [t] ≤ 200 := by
  unfold lamE at h
  split at h
  · cases h
  · split at h
    · cases h
    · exact ⟨by omega, h, by omega⟩

set_option maxHeartbeats 2000000 in
theorem rRun_ok (t : Lm) (u : Int) (m : Nat) (hm : m ≤ 400) (hE : lamE u 0 t = 0) (v : Value) (w : World) (X : Nat → Prop) (hv : MV w X v t) :
    Calls Tryz.prog 35 #[v, .int .i64 u, .int .i64 (m : Int), .func (.func 36) #[] #[]] w fun e w' => RnPost false m t X w e w' := by
  obtain ⟨a, c, rfl, hs⟩ := hv
  have HB0 : Hid (Below w.heap.size w ((w.alloc (.cells #[.int .i64 t.kind, .int .i64 t.idx, .slice a t.subs.length c] 25)).alloc (.cells #[.int .i64 0, .int .i64 0, .slice none 0 0] 25))) := below2M _ _
  have HV : Hid (MV ((w.alloc (.cells #[.int .i64 t.kind, .int .i64 t.idx, .slice a t.subs.length c] 25)).alloc (.cells #[.int .i64 0, .int .i64 0, .slice none 0 0] 25)) (fun b => X b ∧ b < w.heap.size) (.agg #[.int .i64 t.kind, .int .i64 t.idx, .slice a t.subs.length c]) t) := ⟨a, c, rfl, (hs.mono (Y := fun b => X b ∧ b < w.heap.size) fun b h1 h2 => ⟨h1, h2⟩).later HB0.out⟩
  have HT : Hid (Blk ((w.alloc (.cells #[.int .i64 t.kind, .int .i64 t.idx, .slice a t.subs.length c] 25)).alloc (.cells #[.int .i64 0, .int .i64 0, .slice none 0 0] 25)) w.heap.size #[.int .i64 t.kind, .int .i64 t.idx, .slice a t.subs.length c] 25) := (Blk.new w _ _).alloc _
  have HR : Hid (Blk ((w.alloc (.cells #[.int .i64 t.kind, .int .i64 t.idx, .slice a t.subs.length c] 25)).alloc (.cells #[.int .i64 0, .int .i64 0, .slice none 0 0] 25)) (w.heap.size + 1) #[.int .i64 0, .int .i64 0, .slice none 0 0] 25) := by
    have h := Blk.new (w.alloc (.cells #[.int .i64 t.kind, .int .i64 t.idx, .slice a t.subs.length c] 25)) #[.int .i64 0, .int .i64 0, .slice none 0 0] 25
    unfold Hid
    simpa using h
  have hz0 : (((w.alloc (.cells #[.int .i64 t.kind, .int .i64 t.idx, .slice a t.subs.length c] 25)).alloc (.cells #[.int .i64 0, .int .i64 0, .slice none 0 0] 25))).heap.size = w.heap.size + 2 := by simp
  clear hs
  have HE := hide hE
  have gm : decide ((m : Int) < 0) = false := decide_eq_false (by omega)
  have gm2 : decide ((m : Int) > 400) = false := decide_eq_false (by omega)
  clear hE
  go_enter Tryz.func35, Tryz.ntmps35
  go_wp2_with fail
  refine (lCheck_any t _ u _ _ HV.out).mono ?_
  rintro e w1 ⟨rfl, hb1⟩
  rw [HE.out]
  have B1 := hide (HB0.out.trans (hb1.mono (by omega)))
  have T1 := HT.out.below hb1 (by omega)
  have R1 := hide (HR.out.below hb1 (by omega))
  have hw1 : w.heap.size + 2 ≤ w1.heap.size := by have := hb1.size; omega
  have V1 := hide (HV.out.later hb1)
  have c0 : w1.cell? ⟨w.heap.size, 0, none⟩ = some (.int .i64 t.kind) := T1.cell 0
  have c1 : w1.cell? ⟨w.heap.size, 1, none⟩ = some (.int .i64 t.idx) := T1.cell 1
  have c2 : w1.cell? ⟨w.heap.size, 2, none⟩ = some (.slice a t.subs.length c) := T1.cell 2
  clear hb1 T1 hz0
  go_wp2_with fail
  refine (bRun_any u m t _ w1 _ hm (lamE_ok HE.out).1 (lamE_ok HE.out).2.1 (by have := (lamE_ok HE.out).2.2; omega) V1.out).mono ?_
  rintro e w9 ⟨hb9, hcase⟩
  have B9 := hide (B1.out.trans (hb9.mono (by omega)))
  have R9 := hide (R1.out.below hb9 (by omega))
  have hw9 : w1.heap.size ≤ w9.heap.size := hb9.size
  have r0 : w9.cell? ⟨w.heap.size + 1, 0, none⟩ = some (.int .i64 0) := R9.out.cell 0
  have r1 : w9.cell? ⟨w.heap.size + 1, 1, none⟩ = some (.int .i64 0) := R9.out.cell 1
  have r2 : w9.cell? ⟨w.heap.size + 1, 2, none⟩ = some (.slice none 0 0) := R9.out.cell 2
  have rf := R9.out.frozen
  clear hb9 c0 c1 c2
  rcases hcase with ⟨h0, a9, c9, rfl, hs9⟩ | ⟨h0, rfl⟩
  · have S9 : Hid (SlM w9 (fun b => (X b ∧ b < w.heap.size) ∨ w.heap.size + 2 ≤ b) a9 (endM false m t).2.1.subs) := hs9.mono fun b hb _ => hb.imp (fun h => h.1) fun h => by omega
    have H0 := hide h0
    clear hs9 h0
    go_wp2_with fail
    refine bodyPost_ret (v := .tuple #[.agg #[.int .i64 (endM false m t).2.1.kind, .int .i64 (endM false m t).2.1.idx, .slice a9 (endM false m t).2.1.subs.length c9], .int .i64 ((endM false m t).2.2 : Int), .int .i64 0]) (by simp [results, Tryz.results35, go_sem, World.cell?_setCell_same, World.cell?_setCell_other, r0, r1, r2]) rfl ?_
    refine ⟨bl_set3 B9.out _ (by omega) _ _ _, Or.inl ⟨H0.out, a9, c9, rfl, (S9.out.kept fun b hb => ?_).mono fun b hb _ => hb.imp id fun h => by omega⟩⟩
    have hne : b ≠ w.heap.size + 1 := by rcases hb with hb | hb <;> omega
    rw [Below.heap_setCell _ _ _ _ (by simpa using hne), Below.heap_setCell _ _ _ _ (by simpa using hne), Below.heap_setCell _ _ _ _ (by simpa using hne)]
  · have H0 := hide h0
    clear h0
    go_wp2_with fail
    refine bodyPost_ret (v := .tuple #[.agg #[.int .i64 0, .int .i64 0, .slice none 0 0], .int .i64 0, .int .i64 (endM false m t).1]) (by simp [results, Tryz.results35, go_sem, World.cell?_setCell_same, World.cell?_setCell_other, r0, r1, r2]) rfl ?_
    exact ⟨bl_set3 B9.out _ (by omega) _ _ _, Or.inr ⟨H0.out, rfl⟩⟩

set_option maxHeartbeats 2000000 in
theorem normal_ok (t : Lm) (u : Int) (m : Nat) (hm : m ≤ 400) (hE : lamE u 0 t = 0) (v : Value) (w : World) (X : Nat → Prop) (hv : MV w X v t) :
    Calls Tryz.prog 18 #[v, .int .i64 u, .int .i64 (m : Int)] w fun e w' => RnPost false m t X w e w' := by
  obtain ⟨a, c, rfl, hs⟩ := hv
  have HB0 : Hid (Below w.heap.size w ((w.alloc (.cells #[.int .i64 t.kind, .int .i64 t.idx, .slice a t.subs.length c] 25)).alloc (.cells #[.int .i64 0, .int .i64 0, .slice none 0 0] 25))) := below2M _ _
  have HV : Hid (MV ((w.alloc (.cells #[.int .i64 t.kind, .int .i64 t.idx, .slice a t.subs.length c] 25)).alloc (.cells #[.int .i64 0, .int .i64 0, .slice none 0 0] 25)) (fun b => X b ∧ b < w.heap.size) (.agg #[.int .i64 t.kind, .int .i64 t.idx, .slice a t.subs.length c]) t) := ⟨a, c, rfl, (hs.mono (Y := fun b => X b ∧ b < w.heap.size) fun b h1 h2 => ⟨h1, h2⟩).later HB0.out⟩
  have HT : Hid (Blk ((w.alloc (.cells #[.int .i64 t.kind, .int .i64 t.idx, .slice a t.subs.length c] 25)).alloc (.cells #[.int .i64 0, .int .i64 0, .slice none 0 0] 25)) w.heap.size #[.int .i64 t.kind, .int .i64 t.idx, .slice a t.subs.length c] 25) := (Blk.new w _ _).alloc _
  have HR : Hid (Blk ((w.alloc (.cells #[.int .i64 t.kind, .int .i64 t.idx, .slice a t.subs.length c] 25)).alloc (.cells #[.int .i64 0, .int .i64 0, .slice none 0 0] 25)) (w.heap.size + 1) #[.int .i64 0, .int .i64 0, .slice none 0 0] 25) := by
    have h := Blk.new (w.alloc (.cells #[.int .i64 t.kind, .int .i64 t.idx, .slice a t.subs.length c] 25)) #[.int .i64 0, .int .i64 0, .slice none 0 0] 25
    unfold Hid
    simpa using h
  have hz0 : (((w.alloc (.cells #[.int .i64 t.kind, .int .i64 t.idx, .slice a t.subs.length c] 25)).alloc (.cells #[.int .i64 0, .int .i64 0, .slice none 0 0] 25))).heap.size = w.heap.size + 2 := by simp
  clear hs
  have HE := hide hE
  clear hE
  go_enter Tryz.func18, Tryz.ntmps18
  go_wp2_with fail
  refine (rRun_ok t u m hm HE.out _ _ _ HV.out).mono ?_
  rintro e w9 ⟨hb9, hcase⟩
  have B9 := hide (HB0.out.trans (hb9.mono (by omega)))
  have R9 := hide (HR.out.below hb9 (by omega))
  have hw9 : w.heap.size + 2 ≤ w9.heap.size := by have := hb9.size; omega
  have r0 : w9.cell? ⟨w.heap.size + 1, 0, none⟩ = some (.int .i64 0) := R9.out.cell 0
  have r1 : w9.cell? ⟨w.heap.size + 1, 1, none⟩ = some (.int .i64 0) := R9.out.cell 1
  have r2 : w9.cell? ⟨w.heap.size + 1, 2, none⟩ = some (.slice none 0 0) := R9.out.cell 2
  have rf := R9.out.frozen
  clear hb9
  rw [hz0] at hcase
  clear hz0
  rcases hcase with ⟨h0, a9, c9, rfl, hs9⟩ | ⟨h0, rfl⟩
  · have S9 : Hid (SlM w9 (fun b => (X b ∧ b < w.heap.size) ∨ w.heap.size + 2 ≤ b) a9 (endM false m t).2.1.subs) := hs9.mono fun b hb _ => hb.imp (fun h => h.1) fun h => by omega
    have H0 := hide h0
    clear hs9 h0
    go_wp2_with fail
    refine bodyPost_ret (v := .tuple #[.agg #[.int .i64 (endM false m t).2.1.kind, .int .i64 (endM false m t).2.1.idx, .slice a9 (endM false m t).2.1.subs.length c9], .int .i64 ((endM false m t).2.2 : Int), .int .i64 0]) (by simp [results, Tryz.results18, go_sem, World.cell?_setCell_same, World.cell?_setCell_other, r0, r1, r2]) rfl ?_
    refine ⟨bl_set3 B9.out _ (by omega) _ _ _, Or.inl ⟨H0.out, a9, c9, rfl, (S9.out.kept fun b hb => ?_).mono fun b hb _ => hb.imp id fun h => by omega⟩⟩
    have hne : b ≠ w.heap.size + 1 := by rcases hb with hb | hb <;> omega
    rw [Below.heap_setCell _ _ _ _ (by simpa using hne), Below.heap_setCell _ _ _ _ (by simpa using hne), Below.heap_setCell _ _ _ _ (by simpa using hne)]
  · have H0 := hide h0
    clear h0
    go_wp2_with fail
    refine bodyPost_ret (v := .tuple #[.agg #[.int .i64 0, .int .i64 0, .slice none 0 0], .int .i64 0, .int .i64 (endM false m t).1]) (by simp [results, Tryz.results18, go_sem, World.cell?_setCell_same, World.cell?_setCell_other, r0, r1, r2]) rfl ?_
    exact ⟨bl_set3 B9.out _ (by omega) _ _ _, Or.inr ⟨H0.out, rfl⟩⟩
end Go.Proofs.YtclobmmdlhianaaGreatDoor
