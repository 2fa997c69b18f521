/- Walks: a lambda term copied; the program's steps, to the end. -/
import Derived.Test.YtaifameeoipjjaaLn5
import Derived.Test.YtaifameeoipjjaaL8
namespace Go.Proofs.Ytaifameeoipjjaa
open Go.RowKit
set_option linter.unusedSimpArgs false
set_option linter.unusedVariables false
set_option maxRecDepth 8000

/-- On the way: after d steps it is t. -/
structure OnWayM (inn : Bool) (u : Int) (m : Nat) (t0 : Lm) (d : Nat) (t : Lm) : Prop where
  le : d ≤ m
  e1 : (endM inn m t0).1 = (endM inn (m - d) t).1
  e2 : (endM inn m t0).2.1 = (endM inn (m - d) t).2.1
  e3 : (endM inn m t0).2.2 = (endM inn (m - d) t).2.2 + d
  hu : 0 ≤ u ∧ u ≤ 40
  er : ∃ M : Int, errM u M [t] = 0 ∧ M ≤ 40
  sz : sizeM [t] ≤ 2000
theorem OnWayM.start {inn : Bool} {u M : Int} {m : Nat} {t : Lm} (hu : 0 ≤ u ∧ u ≤ 40) (he : errM u M [t] = 0) (hs : sizeM [t] ≤ 2000) (hM : M ≤ 40) : OnWayM inn u m t 0 t := ⟨Nat.zero_le _, by simp, by simp, by simp, hu, ⟨M, he, hM⟩, hs⟩
theorem endM_none {inn : Bool} {k : Nat} {t : Lm} (h : stepM [t] = false) : endM inn k t = (0, t, 0) := by cases k <;> simp [endM, h]
theorem OnWayM.fin {inn : Bool} {u : Int} {m d : Nat} {t0 t : Lm} (h : OnWayM inn u m t0 d t) (hn : stepM [t] = false) : (endM inn m t0).1 = 0 ∧ (endM inn m t0).2.1 = t ∧ (endM inn m t0).2.2 = d := by
  obtain ⟨_, h1, h2, h3, _⟩ := h
  rw [endM_none hn] at h1 h2 h3
  exact ⟨h1, h2, by simpa using h3⟩
theorem OnWayM.fuel {inn : Bool} {u : Int} {m : Nat} {t0 t : Lm} (h : OnWayM inn u m t0 m t) (hn : stepM [t] = true) : (endM inn m t0).1 = 9 := by
  rw [h.e1, Nat.sub_self]; simp [endM, hn]
theorem OnWayM.full {inn : Bool} {u : Int} {m d : Nat} {t0 t : Lm} (h : OnWayM inn u m t0 d t) (hd : d ≠ m) (hn : stepM [t] = true) (hs : 2000 < sizeM [stpT inn 2001 t]) : (endM inn m t0).1 = 8 := by
  have := h.le
  rw [h.e1, show m - d = (m - d - 1) + 1 by omega]; simp [endM, hn, hs]
theorem OnWayM.on {inn : Bool} {u : Int} {m d : Nat} {t0 t : Lm} (h : OnWayM inn u m t0 d t) (hd : d ≠ m) (hn : stepM [t] = true) (hs : ¬ 2000 < sizeM [stpT inn 2001 t]) : OnWayM inn u m t0 (d + 1) (stpT inn 2001 t) := by
  obtain ⟨h0, h1, h2, h3, h4, h5, h6⟩ := h
  rw [show m - d = (m - (d + 1)) + 1 by omega] at h1 h2 h3
  have e : endM inn (m - (d + 1) + 1) t = ((endM inn (m - (d + 1)) (stpT inn 2001 t)).1, (endM inn (m - (d + 1)) (stpT inn 2001 t)).2.1, (endM inn (m - (d + 1)) (stpT inn 2001 t)).2.2 + 1) := by
    rw [endM, if_pos hn, if_neg hs]
  rw [e] at h1 h2 h3
  exact ⟨by omega, h1, h2, by rw [h3]; simp only; omega, h4, h5.imp fun M h => ⟨err_stp inn M 2001 t u h4.1 h.1, h.2⟩, by omega⟩
theorem OnWayM.gd {inn : Bool} {u : Int} {m d : Nat} {t0 t : Lm} (h : OnWayM inn u m t0 d t) : GdM u t := ⟨h.hu.1, by have := h.hu.2; have := h.sz; omega, h.er, h.sz⟩
theorem hig_zero (l : List Lm) : ∀ d, LfM l → higM 0 d l = l := by
  induction l using Lm.indL with
  | h0 => intro d _; simp [higM]
  | h k x l r ihl ihr =>
    intro d h
    obtain ⟨h1, h2, h3⟩ := (LfM_cons k x l r).1 h
    rw [higM, ihr d h3]
    by_cases hk : k = 1
    · rw [if_pos hk]
      split
      · rfl
      · rw [h1 hk, hk]; simp
    · rw [if_neg hk, ihl _ h2]
theorem higT_zero {t : Lm} (h : LfM [t]) : higT 0 0 t = t := by
  have := hig_zero [t] 0 h
  rw [higM_map] at this
  simpa using this

set_option maxHeartbeats 1000000 in
theorem outerF_any (v : Value) (t : Lm) (w : World) (X : Nat → Prop) (hv : MV w X v t) :
    Calls Try.prog 23 #[v] w fun e w' => ∃ T a c, e = .returned (.func (.func 32) #[] #[.pointer (some ⟨T, 0, none⟩)]) ∧ Blk w' T #[.int .i64 t.kind, .int .i64 t.idx, .slice a t.subs.length c] 24 ∧ SlM w' X a t.subs ∧ Below w.heap.size w w' := by
  have hmf : ∀ (fn : Fn) (first cap : Array Value) (w : World), (Instr.makeFunc fn first cap).run Try.prog w = .ok (.func fn first cap) w := fun _ _ _ _ => rfl
  obtain ⟨a, c, rfl, hs⟩ := hv
  have HB : Hid (Below w.heap.size w (w.alloc (.cells #[.int .i64 t.kind, .int .i64 t.idx, .slice a t.subs.length c] 24))) := (Below.refl _ _).alloc (Nat.le_refl _) _
  have HS := hide (hs.later HB.out)
  have HK : Hid (Blk (w.alloc (.cells #[.int .i64 t.kind, .int .i64 t.idx, .slice a t.subs.length c] 24)) w.heap.size #[.int .i64 t.kind, .int .i64 t.idx, .slice a t.subs.length c] 24) := Blk.new _ _ _
  clear hs
  go_enter Try.func23, Try.ntmps23
  go_wp2_with fail
  go_ret
  exact ⟨_, a, c, rfl, HK.out, HS.out, HB.out⟩

theorem cpM_end {w w1 : World} {x : Lm} {a : Option Addr} {c : Nat} (hs : SlM w1 (fun b => w.heap.size + 2 ≤ b) a x.subs) (h0 : Below w.heap.size w w1) (u u' u'' : Value) :
    MV (((w1.setCell ⟨w.heap.size + 1, 0, none⟩ u).setCell ⟨w.heap.size + 1, 1, none⟩ u').setCell ⟨w.heap.size + 1, 2, none⟩ u'') (fun b => w.heap.size + 2 ≤ b) (.agg #[.int .i64 x.kind, .int .i64 x.idx, .slice a x.subs.length c]) x ∧ Below w.heap.size w (((w1.setCell ⟨w.heap.size + 1, 0, none⟩ u).setCell ⟨w.heap.size + 1, 1, none⟩ u').setCell ⟨w.heap.size + 1, 2, none⟩ u'') := by
  refine ⟨⟨a, c, rfl, hs.kept fun b hb => ?_⟩, ((h0.setCell (p := ⟨w.heap.size + 1, 0, none⟩) (by simp) _).setCell (p := ⟨w.heap.size + 1, 1, none⟩) (by simp) _).setCell (p := ⟨w.heap.size + 1, 2, none⟩) (by simp) _⟩
  have hne : b ≠ w.heap.size + 1 := by omega
  rw [Below.heap_setCell _ _ _ _ (by simpa using hne), Below.heap_setCell _ _ _ _ (by simpa using hne), Below.heap_setCell _ _ _ _ (by simpa using hne)]

set_option maxHeartbeats 2000000 in
theorem raise0_any (t : Lm) (u : Int) (hg : GdM u t) (v : Value) (w : World) (X : Nat → Prop) (hv : MV w X v t) :
    Calls Try.prog 35 #[v, .int .i64 0] w fun e w' => ∃ v', e = .returned v' ∧ MV w' (fun b => w.heap.size ≤ b) v' t ∧ Below w.heap.size w w' := by
  obtain ⟨a, c, rfl, hs⟩ := hv
  obtain ⟨g1, g2, ⟨M, g3, hM⟩, g4⟩ := hg
  have hlf := lf_of_err _ _ _ g3
  have hB3 : Below w.heap.size w (((w.alloc (.cells #[.int .i64 t.kind, .int .i64 t.idx, .slice a t.subs.length c] 24)).alloc (.cells #[.int .i64 0, .int .i64 0, .slice none 0 0] 24)).alloc (.cells #[.int .i64 9223372036854775807] 59)) := (below2M _ _).alloc (by simp; omega) _
  have hz3 : (((w.alloc (.cells #[.int .i64 t.kind, .int .i64 t.idx, .slice a t.subs.length c] 24)).alloc (.cells #[.int .i64 0, .int .i64 0, .slice none 0 0] 24)).alloc (.cells #[.int .i64 9223372036854775807] 59)).heap.size = w.heap.size + 3 := by simp
  have KM : Blk (((w.alloc (.cells #[.int .i64 t.kind, .int .i64 t.idx, .slice a t.subs.length c] 24)).alloc (.cells #[.int .i64 0, .int .i64 0, .slice none 0 0] 24)).alloc (.cells #[.int .i64 9223372036854775807] 59)) (w.heap.size + 1 + 1) #[.int .i64 9223372036854775807] 59 := by
    have h := Blk.new ((w.alloc (.cells #[.int .i64 t.kind, .int .i64 t.idx, .slice a t.subs.length c] 24)).alloc (.cells #[.int .i64 0, .int .i64 0, .slice none 0 0] 24)) #[.int .i64 9223372036854775807] 59
    simpa using h
  have KR : Blk (((w.alloc (.cells #[.int .i64 t.kind, .int .i64 t.idx, .slice a t.subs.length c] 24)).alloc (.cells #[.int .i64 0, .int .i64 0, .slice none 0 0] 24)).alloc (.cells #[.int .i64 9223372036854775807] 59)) (w.heap.size + 1) #[.int .i64 0, .int .i64 0, .slice none 0 0] 24 := by
    have h := (Blk.new (w.alloc (.cells #[.int .i64 t.kind, .int .i64 t.idx, .slice a t.subs.length c] 24)) #[.int .i64 0, .int .i64 0, .slice none 0 0] 24).alloc (.cells #[.int .i64 9223372036854775807] 59)
    simpa using h
  have RS := hide (raise_any (w.heap.size + 1 + 1) 0 (by omega) (by omega) t 9223372036854775807 (.agg #[.int .i64 t.kind, .int .i64 t.idx, .slice a t.subs.length c]) (((w.alloc (.cells #[.int .i64 t.kind, .int .i64 t.idx, .slice a t.subs.length c] 24)).alloc (.cells #[.int .i64 0, .int .i64 0, .slice none 0 0] 24)).alloc (.cells #[.int .i64 9223372036854775807] 59)) (fun b => X b ∧ b < w.heap.size) ⟨a, c, rfl, (hs.mono (Y := fun b => X b ∧ b < w.heap.size) fun b h1 h2 => ⟨h1, h2⟩).later hB3⟩ (fun b hb => by omega) (by omega) (by omega) (bnd_of_err _ _ _ g1 (by omega) (by omega) g3) hlf KM)
  rw [higT_zero hlf] at RS
  have HB3 := hide hB3
  have HZ3 := hide hz3
  have HKR := hide KR
  have hsz9 : sizeM [t] ≤ 9223372036854775807 := by omega
  clear hs hB3 hz3 KM KR g3 hlf
  go_enter Try.func35, Try.ntmps35
  go_wp2_with fail
  refine RS.out.mono ?_
  rintro e w1 ⟨k', x', a', l', c', m, rfl, hF, hx, hy, _⟩
  obtain ⟨_, rfl, rfl, rfl, hsl⟩ := hy hsz9
  have h1 : w.heap.size + 3 ≤ w1.heap.size := by have := hx.size; have := HZ3.out; omega
  have B1 : Hid (Below w.heap.size w w1) := ⟨hx.os.trans HB3.out.os, hx.tape.trans HB3.out.tape, hx.output.trans HB3.out.output, by omega, fun b hb => (hx.block b (by have := HZ3.out; omega) (by omega)).trans (HB3.out.block b hb)⟩
  have R1 := hide (HKR.out.ex hx (by omega))
  have S1 : Hid (SlM w1 (fun b => w.heap.size + 2 ≤ b) a' t.subs) := hsl.mono fun b h _ => by have h' : (((w.alloc (.cells #[.int .i64 t.kind, .int .i64 t.idx, .slice a t.subs.length c] 24)).alloc (.cells #[.int .i64 0, .int .i64 0, .slice none 0 0] 24)).alloc (.cells #[.int .i64 9223372036854775807] 59)).heap.size ≤ b := h; have := HZ3.out; omega
  have r0 : w1.cell? ⟨w.heap.size + 1, 0, none⟩ = some (.int .i64 0) := R1.out.cell 0
  have r1 : w1.cell? ⟨w.heap.size + 1, 1, none⟩ = some (.int .i64 0) := R1.out.cell 1
  have r2 : w1.cell? ⟨w.heap.size + 1, 2, none⟩ = some (.slice none 0 0) := R1.out.cell 2
  have rf := R1.out.frozen
  clear hF hx hy hsl RS
  go_wp2_with fail
  refine bodyPost_ret (v := .agg #[.int .i64 t.kind, .int .i64 t.idx, .slice a' t.subs.length c']) (by simp [results, Try.results35, go_sem, World.cell?_setCell_same, World.cell?_setCell_other, r0, r1, r2]) rfl ?_
  have hE := cpM_end (c := c') S1.out B1.out (.int .i64 t.kind) (.int .i64 t.idx) (.slice a' t.subs.length c')
  exact ⟨_, rfl, hE.1.mono fun b hb _ => by omega, hE.2⟩

set_option maxHeartbeats 2000000 in
theorem copyM_any (t : Lm) (u : Int) (hg : GdM u t) (v : Value) (w : World) (X : Nat → Prop) (hv : MV w X v t) :
    Calls Try.prog 31 #[v] w fun e w' => ∃ v', e = .returned v' ∧ MV w' (fun b => w.heap.size + 2 ≤ b) v' t ∧ Below w.heap.size w w' := by
  obtain ⟨a, c, rfl, hs⟩ := hv
  have HV : Hid (MV ((w.alloc (.cells #[.int .i64 t.kind, .int .i64 t.idx, .slice a t.subs.length c] 24)).alloc (.cells #[.int .i64 0, .int .i64 0, .slice none 0 0] 24)) X (.agg #[.int .i64 t.kind, .int .i64 t.idx, .slice a t.subs.length c]) t) := ⟨a, c, rfl, hs.later (below2M _ _)⟩
  have HB0 : Hid (Below w.heap.size w ((w.alloc (.cells #[.int .i64 t.kind, .int .i64 t.idx, .slice a t.subs.length c] 24)).alloc (.cells #[.int .i64 0, .int .i64 0, .slice none 0 0] 24))) := below2M _ _
  have KR : Hid (Blk ((w.alloc (.cells #[.int .i64 t.kind, .int .i64 t.idx, .slice a t.subs.length c] 24)).alloc (.cells #[.int .i64 0, .int .i64 0, .slice none 0 0] 24)) (w.heap.size + 1) #[.int .i64 0, .int .i64 0, .slice none 0 0] 24) := by
    have h := Blk.new (w.alloc (.cells #[.int .i64 t.kind, .int .i64 t.idx, .slice a t.subs.length c] 24)) #[.int .i64 0, .int .i64 0, .slice none 0 0] 24
    unfold Hid
    simpa using h
  clear hs
  go_enter Try.func31, Try.ntmps31
  go_wp2_with fail
  refine (raise0_any t u hg _ _ X HV.out).mono ?_
  rintro e w1 ⟨v1, rfl, ⟨a1, c1, rfl, hs1⟩, hb1⟩
  have B1 := hide (HB0.out.trans (hb1.mono (by simp; omega)))
  have R1 := hide (KR.out.below hb1 KR.out.lt)
  have S1 : Hid (SlM w1 (fun b => w.heap.size + 2 ≤ b) a1 t.subs) := hs1.mono fun b h _ => by simp at h; omega
  have r0 : w1.cell? ⟨w.heap.size + 1, 0, none⟩ = some (.int .i64 0) := R1.out.cell 0
  have r1 : w1.cell? ⟨w.heap.size + 1, 1, none⟩ = some (.int .i64 0) := R1.out.cell 1
  have r2 : w1.cell? ⟨w.heap.size + 1, 2, none⟩ = some (.slice none 0 0) := R1.out.cell 2
  have rf := R1.out.frozen
  clear hs1 hb1
  go_wp2_with fail
  refine bodyPost_ret (v := .agg #[.int .i64 t.kind, .int .i64 t.idx, .slice a1 t.subs.length c1]) (by simp [results, Try.results31, go_sem, World.cell?_setCell_same, World.cell?_setCell_other, r0, r1, r2]) rfl ?_
  have hE := cpM_end (c := c1) S1.out B1.out (.int .i64 t.kind) (.int .i64 t.idx) (.slice a1 t.subs.length c1)
  exact ⟨_, rfl, hE.1, hE.2⟩
end Go.Proofs.Ytaifameeoipjjaa
