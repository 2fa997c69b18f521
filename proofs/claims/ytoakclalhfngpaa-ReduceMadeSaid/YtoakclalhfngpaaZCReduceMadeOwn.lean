/- Several texts in one. -/
import Derived.Test.YtoakclalhfngpaaL24
import Derived.Test.YtoakclalhfngpaaLn7
/- Walks: the code's isIdle. -/
namespace Go.Proofs.Ytoakclalhfngpaa
open Go.RowKit
set_option linter.unusedSimpArgs false
set_option linter.unusedVariables false
set_option maxRecDepth 8000

theorem idle_three (ix : Int) (f x : Lm) : idleT ⟨3, ix, [f, x]⟩ = (decide (usesM 0 [f] = 0) && varZ x) := by unfold idleT varZ; simp [Bool.and_assoc]
theorem bl_set3L {w W : World} (h : Below w.heap.size w W) (j : Nat) (hj : w.heap.size ≤ j) (u u' u'' : Value) : Below w.heap.size w (((W.setCell ⟨j, 0, none⟩ u).setCell ⟨j, 1, none⟩ u').setCell ⟨j, 2, none⟩ u'') :=
  ((h.setCell (p := ⟨j, 0, none⟩) (by simpa using hj) _).setCell (p := ⟨j, 1, none⟩) (by simpa using hj) _).setCell (p := ⟨j, 2, none⟩) (by simpa using hj) _
set_option maxHeartbeats 2000000 in
theorem isIdle_any (y : Lm) (v : Value) (w : World) (X : Nat → Prop) (hv : MV w X v y) (hsh : ShM [y]) (hsz : sizeM [y] ≤ 10000) :
    Calls Try.prog 49 #[v] w fun e w' => e = .returned (.bool (idleT y)) ∧ Below w.heap.size w w' := by
  obtain ⟨kd, ix, l⟩ := y
  obtain ⟨a, c, rfl, hs⟩ := hv
  by_cases k3 : kd = 3
  case neg =>
    have e3 : (kd != 3) = true := by simpa using k3
    have e4 : (kd == 3) = false := by simpa using k3
    have HT : Hid (false = idleT ⟨kd, ix, l⟩) := by unfold Hid idleT; simp [k3]
    have HB : Hid (∀ o, Below w.heap.size w (w.alloc o)) := fun o => (Below.refl _ _).alloc (Nat.le_refl _) _
    go_enter Try.func49, Try.ntmps49
    go_wp2_with fail
    go_ret
    exact ⟨ret_boolM HT.out, HB.out _⟩
  case pos =>
    subst k3
    rw [ShM_cons] at hsh
    have hl2 : l.length = 2 := by simpa [subsK] using hsh.1
    obtain ⟨f, x, rfl⟩ : ∃ f x, l = [f, x] := by
      match l, hl2 with
      | [f, x], _ => exact ⟨f, x, rfl⟩
    have hsf : sizeM [f] ≤ 10000 := by
      have h2 : sizeM [f] ≤ sizeM [f, x] := sizeM_take_le [f, x] 1
      have h4 : sizeM [(⟨3, ix, [f, x]⟩ : Lm)] = 1 + sizeM [f, x] := by simp [sizeM]
      omega
    obtain ⟨bf, of, af, cf, rfl, f0, f0', f1, hxf⟩ := hs.get (Below.refl _ _) (fun _ _ h => h) 0 (by simp)
    obtain ⟨bf2, of2, ax, cx, ebf, x0, x0', x1, hxx⟩ := hs.get (Below.refl _ _) (fun _ _ h => h) 1 (by simp)
    simp at ebf
    obtain ⟨rfl, rfl⟩ := ebf
    simp only [Nat.zero_mul, Nat.one_mul, Nat.add_zero, List.getElem_cons_zero, List.getElem_cons_succ, List.length_cons, List.length_nil] at f0 f0' f1 x0 x0' x1 hxf hxx
    have HXF := hide hxf
    have HC : Hid (w.cell? ⟨bf, of, none⟩ = some (.int .i64 f.kind) ∧ w.cell? ⟨bf, of + 1, none⟩ = some (.int .i64 f.idx) ∧ w.cell? ⟨bf, of + 2, none⟩ = some (.slice af f.subs.length cf) ∧ w.cell? ⟨bf, of + 3, none⟩ = some (.int .i64 x.kind) ∧ w.cell? ⟨bf, of + 3 + 1, none⟩ = some (.int .i64 x.idx) ∧ w.cell? ⟨bf, of + 3 + 2, none⟩ = some (.slice ax x.subs.length cx)) := ⟨f0, f0', f1, x0, x0', x1⟩
    have B1 : Below w.heap.size w (w.alloc (.cells #[.int .i64 3, .int .i64 ix, .slice (some ⟨bf, of, none⟩) 2 c] 27)) := (Below.refl _ _).alloc (Nat.le_refl _) _
    have T1 : Hid (Blk (w.alloc (.cells #[.int .i64 3, .int .i64 ix, .slice (some ⟨bf, of, none⟩) 2 c] 27)) w.heap.size #[.int .i64 3, .int .i64 ix, .slice (some ⟨bf, of, none⟩) 2 c] 27) := Blk.new _ _ _
    clear f0 f0' f1 x0 x0' x1 hxf hxx hs hsh hl2
    have g0 : (w.alloc (.cells #[.int .i64 3, .int .i64 ix, .slice (some ⟨bf, of, none⟩) 2 c] 27)).cell? ⟨bf, of, none⟩ = some (.int .i64 f.kind) := cell_later B1 HC.out.1
    have g1 : (w.alloc (.cells #[.int .i64 3, .int .i64 ix, .slice (some ⟨bf, of, none⟩) 2 c] 27)).cell? ⟨bf, of + 1, none⟩ = some (.int .i64 f.idx) := cell_later B1 HC.out.2.1
    have g2 : (w.alloc (.cells #[.int .i64 3, .int .i64 ix, .slice (some ⟨bf, of, none⟩) 2 c] 27)).cell? ⟨bf, of + 2, none⟩ = some (.slice af f.subs.length cf) := cell_later B1 HC.out.2.2.1
    have g3 : (w.alloc (.cells #[.int .i64 3, .int .i64 ix, .slice (some ⟨bf, of, none⟩) 2 c] 27)).cell? ⟨bf, of + 3, none⟩ = some (.int .i64 x.kind) := cell_later B1 HC.out.2.2.2.1
    have g4 : (w.alloc (.cells #[.int .i64 3, .int .i64 ix, .slice (some ⟨bf, of, none⟩) 2 c] 27)).cell? ⟨bf, of + 3 + 1, none⟩ = some (.int .i64 x.idx) := cell_later B1 HC.out.2.2.2.2.1
    have g5 : (w.alloc (.cells #[.int .i64 3, .int .i64 ix, .slice (some ⟨bf, of, none⟩) 2 c] 27)).cell? ⟨bf, of + 3 + 2, none⟩ = some (.slice ax x.subs.length cx) := cell_later B1 HC.out.2.2.2.2.2
    go_enter Try.func49, Try.ntmps49
    go_wp2_with fail
    refine (holds_any f _ 0 _ _ (by exact HXF.out.later B1) (by omega) (by omega)).mono ?_
    rintro e w2 ⟨rfl, hb2⟩
    have k2 := B1.trans (hb2.mono B1.size)
    have T2 := hide (T1.out.below hb2 T1.out.lt)
    have t0 : w2.cell? ⟨w.heap.size, 0, none⟩ = some (.int .i64 3) := T2.out.cell 0
    have t1 : w2.cell? ⟨w.heap.size, 1, none⟩ = some (.int .i64 ix) := T2.out.cell 1
    have t2 : w2.cell? ⟨w.heap.size, 2, none⟩ = some (.slice (some ⟨bf, of, none⟩) 2 c) := T2.out.cell 2
    clear hb2 g0 g1 g2 g3 g4 g5
    have g0 : w2.cell? ⟨bf, of, none⟩ = some (.int .i64 f.kind) := cell_later k2 HC.out.1
    have g1 : w2.cell? ⟨bf, of + 1, none⟩ = some (.int .i64 f.idx) := cell_later k2 HC.out.2.1
    have g2 : w2.cell? ⟨bf, of + 2, none⟩ = some (.slice af f.subs.length cf) := cell_later k2 HC.out.2.2.1
    have g3 : w2.cell? ⟨bf, of + 3, none⟩ = some (.int .i64 x.kind) := cell_later k2 HC.out.2.2.2.1
    have g4 : w2.cell? ⟨bf, of + 3 + 1, none⟩ = some (.int .i64 x.idx) := cell_later k2 HC.out.2.2.2.2.1
    have g5 : w2.cell? ⟨bf, of + 3 + 2, none⟩ = some (.slice ax x.subs.length cx) := cell_later k2 HC.out.2.2.2.2.2
    by_cases hu : usesM 0 [f] = 0
    · have hd : decide (0 < usesM 0 [f]) = false := by simp [hu]
      rw [hd]
      by_cases hx1 : x.kind = 1
      · have ex1 : (x.kind == 1) = true := by simpa using hx1
        by_cases hx0 : x.idx = 0
        · have ex0 : (x.idx == 0) = true := by simpa using hx0
          have HT : Hid (true = idleT ⟨3, ix, [f, x]⟩) := by unfold Hid; rw [idle_three]; simp [varZ, hu, hx1, hx0]
          go_wp2_with fail
          go_ret
          exact ⟨ret_boolM HT.out, by first | exact k2 | exact k2.alloc k2.size _ | exact bl_set3L (k2.alloc k2.size _) _ (by have := k2.size; omega) _ _ _⟩
        · have ex0 : (x.idx == 0) = false := by simpa using hx0
          have HT : Hid (false = idleT ⟨3, ix, [f, x]⟩) := by unfold Hid; rw [idle_three]; simp [varZ, hu, hx1, hx0]
          go_wp2_with fail
          go_ret
          exact ⟨ret_boolM HT.out, by first | exact k2 | exact k2.alloc k2.size _ | exact bl_set3L (k2.alloc k2.size _) _ (by have := k2.size; omega) _ _ _⟩
      · have ex1 : (x.kind == 1) = false := by simpa using hx1
        have HT : Hid (false = idleT ⟨3, ix, [f, x]⟩) := by unfold Hid; rw [idle_three]; simp [varZ, hu, hx1]
        go_wp2_with fail
        go_ret
        exact ⟨ret_boolM HT.out, by first | exact k2 | exact k2.alloc k2.size _ | exact bl_set3L (k2.alloc k2.size _) _ (by have := k2.size; omega) _ _ _⟩
    · have hd : decide (0 < usesM 0 [f]) = true := by simp; omega
      rw [hd]
      have HT : Hid (false = idleT ⟨3, ix, [f, x]⟩) := by unfold Hid; rw [idle_three]; simp [varZ, hu]
      go_wp2_with fail
      go_ret
      exact ⟨ret_boolM HT.out, by first | exact k2 | exact k2.alloc k2.size _ | exact bl_set3L (k2.alloc k2.size _) _ (by have := k2.size; omega) _ _ _⟩
#print axioms isIdle_any
end Go.Proofs.Ytoakclalhfngpaa

/- Walks: a term under one binder less. -/
namespace Go.Proofs.Ytoakclalhfngpaa
open Go.RowKit
set_option linter.unusedSimpArgs false
set_option linter.unusedVariables false
set_option maxRecDepth 8000

theorem lf_of_sh (l : List Lm) : ShM l → LfM l := by
  induction l using Lm.indL with
  | h0 => intro _; exact LfM_nil
  | h k x l r ihl ihr =>
    intro h
    rw [ShM_cons] at h
    exact (LfM_cons k x l r).2 ⟨fun hk => List.length_eq_zero_iff.1 (by have := h.1; subst hk; simpa [subsK] using this), ihl h.2.1, ihr h.2.2⟩
set_option maxHeartbeats 2000000 in
theorem lower_any (t : Lm) (hsz : sizeM [t] ≤ 10000) (hbn : BndM [t]) (hsh : ShM [t]) (v : Value) (w : World) (X : Nat → Prop) (hv : MV w X v t) :
    Calls Try.prog 50 #[v, .int .i64 (-1)] w fun e w' => ∃ v', e = .returned v' ∧ MV w' (fun b => w.heap.size ≤ b) v' (higT (-1) 0 t) ∧ Below w.heap.size w w' := by
  obtain ⟨a, c, rfl, hs⟩ := hv
  have hlf := lf_of_sh [t] hsh
  have hB3 : Below w.heap.size w (((w.alloc (.cells #[.int .i64 t.kind, .int .i64 t.idx, .slice a t.subs.length c] 27)).alloc (.cells #[.int .i64 0, .int .i64 0, .slice none 0 0] 27)).alloc (.cells #[.int .i64 9223372036854775807] 71)) := (below2M _ _).alloc (by simp; omega) _
  have hz3 : (((w.alloc (.cells #[.int .i64 t.kind, .int .i64 t.idx, .slice a t.subs.length c] 27)).alloc (.cells #[.int .i64 0, .int .i64 0, .slice none 0 0] 27)).alloc (.cells #[.int .i64 9223372036854775807] 71)).heap.size = w.heap.size + 3 := by simp
  have KM : Blk (((w.alloc (.cells #[.int .i64 t.kind, .int .i64 t.idx, .slice a t.subs.length c] 27)).alloc (.cells #[.int .i64 0, .int .i64 0, .slice none 0 0] 27)).alloc (.cells #[.int .i64 9223372036854775807] 71)) (w.heap.size + 1 + 1) #[.int .i64 9223372036854775807] 71 := by
    have h := Blk.new ((w.alloc (.cells #[.int .i64 t.kind, .int .i64 t.idx, .slice a t.subs.length c] 27)).alloc (.cells #[.int .i64 0, .int .i64 0, .slice none 0 0] 27)) #[.int .i64 9223372036854775807] 71
    simpa using h
  have KR : Blk (((w.alloc (.cells #[.int .i64 t.kind, .int .i64 t.idx, .slice a t.subs.length c] 27)).alloc (.cells #[.int .i64 0, .int .i64 0, .slice none 0 0] 27)).alloc (.cells #[.int .i64 9223372036854775807] 71)) (w.heap.size + 1) #[.int .i64 0, .int .i64 0, .slice none 0 0] 27 := by
    have h := (Blk.new (w.alloc (.cells #[.int .i64 t.kind, .int .i64 t.idx, .slice a t.subs.length c] 27)) #[.int .i64 0, .int .i64 0, .slice none 0 0] 27).alloc (.cells #[.int .i64 9223372036854775807] 71)
    simpa using h
  have RS := hide (raise_any (w.heap.size + 1 + 1) (-1) (by omega) (by omega) t 9223372036854775807 (.agg #[.int .i64 t.kind, .int .i64 t.idx, .slice a t.subs.length c]) (((w.alloc (.cells #[.int .i64 t.kind, .int .i64 t.idx, .slice a t.subs.length c] 27)).alloc (.cells #[.int .i64 0, .int .i64 0, .slice none 0 0] 27)).alloc (.cells #[.int .i64 9223372036854775807] 71)) (fun b => X b ∧ b < w.heap.size) ⟨a, c, rfl, (hs.mono (Y := fun b => X b ∧ b < w.heap.size) fun b h1 h2 => ⟨h1, h2⟩).later hB3⟩ (fun b hb => by omega) (by omega) (by omega) hbn hlf KM)
  have HB3 := hide hB3
  have HZ3 := hide hz3
  have HKR := hide KR
  have hsz9 : sizeM [higT (-1) 0 t] ≤ 9223372036854775807 := by have h := size_hig [t] (-1) 0; rw [higM_one] at h; omega
  clear hs hB3 hz3 KM KR hlf
  go_enter Try.func50, Try.ntmps50
  go_wp2_with fail
  refine RS.out.mono ?_
  rintro e w1 ⟨k', x', a', l', c', m, rfl, hF, hx, hy, _⟩
  obtain ⟨_, rfl, rfl, rfl, hsl⟩ := hy hsz9
  have h1 : w.heap.size + 3 ≤ w1.heap.size := by have := hx.size; have := HZ3.out; omega
  have B1 : Hid (Below w.heap.size w w1) := ⟨hx.os.trans HB3.out.os, hx.tape.trans HB3.out.tape, hx.output.trans HB3.out.output, by omega, fun b hb => (hx.block b (by have := HZ3.out; omega) (by omega)).trans (HB3.out.block b hb)⟩
  have R1 := hide (HKR.out.ex hx (by omega))
  have S1 : Hid (SlM w1 (fun b => w.heap.size + 2 ≤ b) a' (higT (-1) 0 t).subs) := hsl.mono fun b h _ => by have h' : (((w.alloc (.cells #[.int .i64 t.kind, .int .i64 t.idx, .slice a t.subs.length c] 27)).alloc (.cells #[.int .i64 0, .int .i64 0, .slice none 0 0] 27)).alloc (.cells #[.int .i64 9223372036854775807] 71)).heap.size ≤ b := h; have := HZ3.out; omega
  have r0 : w1.cell? ⟨w.heap.size + 1, 0, none⟩ = some (.int .i64 0) := R1.out.cell 0
  have r1 : w1.cell? ⟨w.heap.size + 1, 1, none⟩ = some (.int .i64 0) := R1.out.cell 1
  have r2 : w1.cell? ⟨w.heap.size + 1, 2, none⟩ = some (.slice none 0 0) := R1.out.cell 2
  have rf := R1.out.frozen
  clear hF hx hy hsl RS
  go_wp2_with fail
  refine bodyPost_ret (v := .agg #[.int .i64 (higT (-1) 0 t).kind, .int .i64 (higT (-1) 0 t).idx, .slice a' (higT (-1) 0 t).subs.length c']) (by simp [results, Try.results50, go_sem, World.cell?_setCell_same, World.cell?_setCell_other, r0, r1, r2]) rfl ?_
  have hE := cpM_end (c := c') S1.out B1.out (.int .i64 (higT (-1) 0 t).kind) (.int .i64 (higT (-1) 0 t).idx) (.slice a' (higT (-1) 0 t).subs.length c')
  exact ⟨_, rfl, hE.1.mono fun b hb _ => by omega, hE.2⟩

#print axioms lower_any
end Go.Proofs.Ytoakclalhfngpaa
