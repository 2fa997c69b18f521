/- Walks: the code's isIdle. -/
import Derived.Test.YtaifameeoipjjaaL24
namespace Go.Proofs.Ytaifameeoipjjaa
open Go.RowKit
set_option linter.unusedSimpArgs false
set_option linter.unusedVariables false
set_option maxRecDepth 8000

theorem idle_three (ix : Int) (f x : Lm) : idleT ⟨3, ix, [f, x]⟩ = (decide (usesM 0 [f] = 0) && varZ x) := by unfold idleT varZ; simp [Bool.and_assoc]
theorem bl_set3L {w W : World} (h : Below w.heap.size w W) (j : Nat) (hj : w.heap.size ≤ j) (u u' u'' : Value) : Below w.heap.size w (((W.setCell ⟨j, 0, none⟩ u).setCell ⟨j, 1, none⟩ u').setCell ⟨j, 2, none⟩ u'') :=
  ((h.setCell (p := ⟨j, 0, none⟩) (by simpa using hj) _).setCell (p := ⟨j, 1, none⟩) (by simpa using hj) _).setCell (p := ⟨j, 2, none⟩) (by simpa using hj) _
set_option maxHeartbeats 2000000 in
theorem isIdle_any (y : Lm) (v : Value) (w : World) (X : Nat → Prop) (hv : MV w X v y) (hsh : ShM [y]) (hsz : sizeM [y] ≤ 10000) :
    Calls Try.prog 34 #[v] w fun e w' => e = .returned (.bool (idleT y)) ∧ Below w.heap.size w w' := by
  obtain ⟨kd, ix, l⟩ := y
  obtain ⟨a, c, rfl, hs⟩ := hv
  by_cases k3 : kd = 3
  case neg =>
    have e3 : (kd != 3) = true := by simpa using k3
    have e4 : (kd == 3) = false := by simpa using k3
    have HT : Hid (false = idleT ⟨kd, ix, l⟩) := by unfold Hid idleT; simp [k3]
    have HB : Hid (∀ o, Below w.heap.size w (w.alloc o)) := fun o => (Below.refl _ _).alloc (Nat.le_refl _) _
    go_enter Try.func34, Try.ntmps34
    go_wp2_with fail
    go_ret
    exact ⟨ret_boolM HT.out, HB.out _⟩
  case pos =>
    subst k3
    rw [ShM_cons] at hsh
    have hl2 : l.length = 2 := by simpa [subsK] using hsh.1
    obtain ⟨f, x, rfl⟩ : ∃ f x, l = [f, x] := by
      match l, hl2 with
      | [f, x], _ => exact ⟨f, x, rfl⟩
    have hsf : sizeM [f] ≤ 10000 := by
      have h2 : sizeM [f] ≤ sizeM [f, x] := sizeM_take_le [f, x] 1
      have h4 : sizeM [(⟨3, ix, [f, x]⟩ : Lm)] = 1 + sizeM [f, x] := by simp [sizeM]
      omega
    obtain ⟨bf, of, af, cf, rfl, f0, f0', f1, hxf⟩ := hs.get (Below.refl _ _) (fun _ _ h => h) 0 (by simp)
    obtain ⟨bf2, of2, ax, cx, ebf, x0, x0', x1, hxx⟩ := hs.get (Below.refl _ _) (fun _ _ h => h) 1 (by simp)
    simp at ebf
    obtain ⟨rfl, rfl⟩ := ebf
    simp only [Nat.zero_mul, Nat.one_mul, Nat.add_zero, List.getElem_cons_zero, List.getElem_cons_succ, List.length_cons, List.length_nil] at f0 f0' f1 x0 x0' x1 hxf hxx
    have HXF := hide hxf
    have HC : Hid (w.cell? ⟨bf, of, none⟩ = some (.int .i64 f.kind) ∧ w.cell? ⟨bf, of + 1, none⟩ = some (.int .i64 f.idx) ∧ w.cell? ⟨bf, of + 2, none⟩ = some (.slice af f.subs.length cf) ∧ w.cell? ⟨bf, of + 3, none⟩ = some (.int .i64 x.kind) ∧ w.cell? ⟨bf, of + 3 + 1, none⟩ = some (.int .i64 x.idx) ∧ w.cell? ⟨bf, of + 3 + 2, none⟩ = some (.slice ax x.subs.length cx)) := ⟨f0, f0', f1, x0, x0', x1⟩
    have B1 : Below w.heap.size w (w.alloc (.cells #[.int .i64 3, .int .i64 ix, .slice (some ⟨bf, of, none⟩) 2 c] 24)) := (Below.refl _ _).alloc (Nat.le_refl _) _
    have T1 : Hid (Blk (w.alloc (.cells #[.int .i64 3, .int .i64 ix, .slice (some ⟨bf, of, none⟩) 2 c] 24)) w.heap.size #[.int .i64 3, .int .i64 ix, .slice (some ⟨bf, of, none⟩) 2 c] 24) := Blk.new _ _ _
    clear f0 f0' f1 x0 x0' x1 hxf hxx hs hsh hl2
    have g0 : (w.alloc (.cells #[.int .i64 3, .int .i64 ix, .slice (some ⟨bf, of, none⟩) 2 c] 24)).cell? ⟨bf, of, none⟩ = some (.int .i64 f.kind) := cell_later B1 HC.out.1
    have g1 : (w.alloc (.cells #[.int .i64 3, .int .i64 ix, .slice (some ⟨bf, of, none⟩) 2 c] 24)).cell? ⟨bf, of + 1, none⟩ = some (.int .i64 f.idx) := cell_later B1 HC.out.2.1
    have g2 : (w.alloc (.cells #[.int .i64 3, .int .i64 ix, .slice (some ⟨bf, of, none⟩) 2 c] 24)).cell? ⟨bf, of + 2, none⟩ = some (.slice af f.subs.length cf) := cell_later B1 HC.out.2.2.1
    have g3 : (w.alloc (.cells #[.int .i64 3, .int .i64 ix, .slice (some ⟨bf, of, none⟩) 2 c] 24)).cell? ⟨bf, of + 3, none⟩ = some (.int .i64 x.kind) := cell_later B1 HC.out.2.2.2.1
    have g4 : (w.alloc (.cells #[.int .i64 3, .int .i64 ix, .slice (some ⟨bf, of, none⟩) 2 c] 24)).cell? ⟨bf, of + 3 + 1, none⟩ = some (.int .i64 x.idx) := cell_later B1 HC.out.2.2.2.2.1
    have g5 : (w.alloc (.cells #[.int .i64 3, .int .i64 ix, .slice (some ⟨bf, of, none⟩) 2 c] 24)).cell? ⟨bf, of + 3 + 2, none⟩ = some (.slice ax x.subs.length cx) := cell_later B1 HC.out.2.2.2.2.2
    go_enter Try.func34, Try.ntmps34
    go_wp2_with fail
    refine (holds_any f _ 0 _ _ (by exact HXF.out.later B1) (by omega) (by omega)).mono ?_
    rintro e w2 ⟨rfl, hb2⟩
    have k2 := B1.trans (hb2.mono B1.size)
    have T2 := hide (T1.out.below hb2 T1.out.lt)
    have t0 : w2.cell? ⟨w.heap.size, 0, none⟩ = some (.int .i64 3) := T2.out.cell 0
    have t1 : w2.cell? ⟨w.heap.size, 1, none⟩ = some (.int .i64 ix) := T2.out.cell 1
    have t2 : w2.cell? ⟨w.heap.size, 2, none⟩ = some (.slice (some ⟨bf, of, none⟩) 2 c) := T2.out.cell 2
    clear hb2 g0 g1 g2 g3 g4 g5
    have g0 : w2.cell? ⟨bf, of, none⟩ = some (.int .i64 f.kind) := cell_later k2 HC.out.1
    have g1 : w2.cell? ⟨bf, of + 1, none⟩ = some (.int .i64 f.idx) := cell_later k2 HC.out.2.1
    have g2 : w2.cell? ⟨bf, of + 2, none⟩ = some (.slice af f.subs.length cf) := cell_later k2 HC.out.2.2.1
    have g3 : w2.cell? ⟨bf, of + 3, none⟩ = some (.int .i64 x.kind) := cell_later k2 HC.out.2.2.2.1
    have g4 : w2.cell? ⟨bf, of + 3 + 1, none⟩ = some (.int .i64 x.idx) := cell_later k2 HC.out.2.2.2.2.1
    have g5 : w2.cell? ⟨bf, of + 3 + 2, none⟩ = some (.slice ax x.subs.length cx) := cell_later k2 HC.out.2.2.2.2.2
    by_cases hu : usesM 0 [f] = 0
    · have hd : decide (0 < usesM 0 [f]) = false := by simp [hu]
      rw [hd]
      by_cases hx1 : x.kind = 1
      · have ex1 : (x.kind == 1) = true := by simpa using hx1
        by_cases hx0 : x.idx = 0
        · have ex0 : (x.idx == 0) = true := by simpa using hx0
          have HT : Hid (true = idleT ⟨3, ix, [f, x]⟩) := by unfold Hid; rw [idle_three]; simp [varZ, hu, hx1, hx0]
          go_wp2_with fail
          go_ret
          exact ⟨ret_boolM HT.out, by first | exact k2 | exact k2.alloc k2.size _ | exact bl_set3L (k2.alloc k2.size _) _ (by have := k2.size; omega) _ _ _⟩
        · have ex0 : (x.idx == 0) = false := by simpa using hx0
          have HT : Hid (false = idleT ⟨3, ix, [f, x]⟩) := by unfold Hid; rw [idle_three]; simp [varZ, hu, hx1, hx0]
          go_wp2_with fail
          go_ret
          exact ⟨ret_boolM HT.out, by first | exact k2 | exact k2.alloc k2.size _ | exact bl_set3L (k2.alloc k2.size _) _ (by have := k2.size; omega) _ _ _⟩
      · have ex1 : (x.kind == 1) = false := by simpa using hx1
        have HT : Hid (false = idleT ⟨3, ix, [f, x]⟩) := by unfold Hid; rw [idle_three]; simp [varZ, hu, hx1]
        go_wp2_with fail
        go_ret
        exact ⟨ret_boolM HT.out, by first | exact k2 | exact k2.alloc k2.size _ | exact bl_set3L (k2.alloc k2.size _) _ (by have := k2.size; omega) _ _ _⟩
    · have hd : decide (0 < usesM 0 [f]) = true := by simp; omega
      rw [hd]
      have HT : Hid (false = idleT ⟨3, ix, [f, x]⟩) := by unfold Hid; rw [idle_three]; simp [varZ, hu]
      go_wp2_with fail
      go_ret
      exact ⟨ret_boolM HT.out, by first | exact k2 | exact k2.alloc k2.size _ | exact bl_set3L (k2.alloc k2.size _) _ (by have := k2.size; omega) _ _ _⟩
end Go.Proofs.Ytaifameeoipjjaa
