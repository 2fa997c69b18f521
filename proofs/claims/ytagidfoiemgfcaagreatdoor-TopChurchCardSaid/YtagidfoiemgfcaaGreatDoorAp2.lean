/- Walks: the fact that what is applied to itself takes a step. -/
import Derived.Test.YtagidfoiemgfcaaGreatDoorZCTopChurchOwn
import Derived.Test.YtagidfoiemgfcaaGreatDoorLn11
namespace Go.Proofs.YtagidfoiemgfcaaGreatDoor
open Go.RowKit
set_option linter.unusedSimpArgs false
set_option linter.unusedVariables false
set_option maxRecDepth 8000

theorem parseA_any (w : World) (hT : Tb w.heap.size w) (hS : Tse w.heap.size w) :
    Calls Tryz.prog 17 #[.string ⟨#[40, 92, 121, 46, 121, 32, 121, 41, 32, 99, 49]⟩, .slice none 0 0] w fun e w' => ∃ a c, e = .returned (.tuple #[.agg #[.int .i64 apT.kind, .int .i64 apT.idx, .slice a apT.subs.length c], .int .i64 0]) ∧ SlM w' (fun _ => True) a apT.subs ∧ Below w.heap.size w w' := by
  refine (parseL_any apS [] none 0 w (fun _ => False) ⟨none, 0, rfl, ⟨by simp, by simp⟩, Or.inl rfl⟩ hT hS).mono ?_
  rintro e w' ⟨v, rfl, h1, _, hb⟩
  obtain ⟨a, c, rfl, hs⟩ := h1 ap_read.1
  rw [ap_read.1]
  rw [ap_read.2] at hs ⊢
  exact ⟨a, c, rfl, hs.mono fun _ _ _ => trivial, hb⟩
theorem normalA_any (v : Value) (w : World) (X : Nat → Prop) (hv : MV w X v apT) :
    Calls Tryz.prog 6 #[v, .int .i64 0, .int .i64 5] w fun e w' => ∃ a c, e = .returned (.tuple #[.agg #[.int .i64 apE.kind, .int .i64 apE.idx, .slice a apE.subs.length c], .int .i64 1, .int .i64 0]) ∧ SlM w' (fun _ => True) a apE.subs ∧ Below w.heap.size w w' := by
  refine (normal_ok apT 0 5 (by omega) ap_may v w X hv).mono ?_
  rintro e w' ⟨hb, h⟩
  rw [ap_end] at h
  rcases h with ⟨_, a, c, rfl, hs⟩ | ⟨h, _⟩
  · exact ⟨a, c, rfl, hs.mono fun _ _ _ => trivial, hb⟩
  · exact absurd rfl h
theorem textA_any (v : Value) (w : World) (X : Nat → Prop) (hv : MV w X v apE) (hT : Tb w.heap.size w) :
    Calls Tryz.prog 18 #[v, .slice none 0 0] w fun e w' => e = .returned (.tuple #[.string ⟨#[99, 49, 32, 99, 49]⟩, .int .i64 0]) ∧ Below w.heap.size w w' := by
  refine (lText_any [] apE v none 0 w X (fun _ => False) hv ⟨none, 0, rfl, ⟨by simp, by simp⟩, Or.inl rfl⟩ hT).mono ?_
  rintro e w' ⟨rfl, hb⟩
  rw [ap_text.1, ap_text.2]
  exact ⟨rfl, hb⟩

set_option maxHeartbeats 2000000 in
theorem applies_any (w : World) (hT : Tb w.heap.size w) (hS : Tse w.heap.size w) :
    Calls Tryz.prog 8 #[] w fun e w' => e = .returned (.bool true) ∧ Below w.heap.size w w' := by
  have HT := hide hT
  have HSE := hide hS
  clear hT hS
  go_enter Tryz.func8, Tryz.ntmps8
  go_wp2_with fail
  refine (parseA_any w HT.out HSE.out).mono ?_
  rintro e w1 ⟨a, c, rfl, hs, hb⟩
  have B1 : Hid (Below w.heap.size w (w1.alloc (.cells #[.int .i64 apT.kind, .int .i64 apT.idx, .slice a apT.subs.length c] 26))) := hb.alloc hb.size _
  have K1 : Hid (Blk (w1.alloc (.cells #[.int .i64 apT.kind, .int .i64 apT.idx, .slice a apT.subs.length c] 26)) w1.heap.size #[.int .i64 apT.kind, .int .i64 apT.idx, .slice a apT.subs.length c] 26) := Blk.new w1 _ _
  have S1 := hide (hs.later ((Below.refl _ _).alloc (Nat.le_refl _) (.cells #[.int .i64 apT.kind, .int .i64 apT.idx, .slice a apT.subs.length c] 26)))
  have c0 := K1.out.cell 0
  have c1 := K1.out.cell 1
  have c2 := K1.out.cell 2
  simp only [List.getElem?_toArray, List.getElem?_cons_succ, List.getElem?_cons_zero] at c0 c1 c2
  clear hs hb
  go_wp2_with fail
  generalize (w1.alloc (.cells #[.int .i64 apT.kind, .int .i64 apT.idx, .slice a apT.subs.length c] 26)) = w2 at *
  refine (normalA_any _ _ _ ⟨a, c, rfl, by exact S1.out⟩).mono ?_
  rintro e w3 ⟨ax, cx, rfl, hs, hb⟩
  have B3 := hide (B1.out.trans (hb.mono B1.out.size))
  have B4 : Hid (Below w.heap.size w (w3.alloc (.cells #[.int .i64 apE.kind, .int .i64 apE.idx, .slice ax apE.subs.length cx] 26))) := B3.out.alloc B3.out.size _
  have K4 : Hid (Blk (w3.alloc (.cells #[.int .i64 apE.kind, .int .i64 apE.idx, .slice ax apE.subs.length cx] 26)) w3.heap.size #[.int .i64 apE.kind, .int .i64 apE.idx, .slice ax apE.subs.length cx] 26) := Blk.new w3 _ _
  have S4 := hide (hs.later ((Below.refl _ _).alloc (Nat.le_refl _) (.cells #[.int .i64 apE.kind, .int .i64 apE.idx, .slice ax apE.subs.length cx] 26)))
  clear hs hb c0 c1 c2 B1 K1 S1 B3
  have c0 := K4.out.cell 0
  have c1 := K4.out.cell 1
  have c2 := K4.out.cell 2
  simp only [List.getElem?_toArray, List.getElem?_cons_succ, List.getElem?_cons_zero] at c0 c1 c2
  go_wp2_with fail
  generalize (w3.alloc (.cells #[.int .i64 apE.kind, .int .i64 apE.idx, .slice ax apE.subs.length cx] 26)) = w4 at *
  refine (textA_any _ _ _ ⟨ax, cx, rfl, by exact S4.out⟩ (HT.out.raise B4.out B4.out.size)).mono ?_
  rintro e w5 ⟨rfl, hb⟩
  have B5 := hide (B4.out.trans (hb.mono B4.out.size))
  clear hb
  go_wp2_with fail
  go_ret
  exact ⟨rfl, B5.out⟩
end Go.Proofs.YtagidfoiemgfcaaGreatDoor
