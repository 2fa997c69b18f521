
/- Walks: the reader's small functions. -/
import Derived.Test.YthlgknglalcggajPrs
import Derived.Test.YthlgknglalcggajZTopNoneOwn
import Derived.Deep.RegionHeld3
namespace Go.Proofs.Ythlgknglalcggaj
open Go.RowKit
set_option linter.unusedSimpArgs false
set_option linter.unusedVariables false
set_option maxRecDepth 8000

theorem isSign_any (n : Int) (w : World) : Calls Try.prog 135 #[.int .u8 n] w fun e w' => e = .returned (.bool (alnB n)) ∧ w' = w := by
  go_enter Try.func135, Try.ntmps135
  go_wp2_with (first | (go_at_call 89; refine (isLetter_any _ _).mono ?_; rintro e w' ⟨rfl, rfl⟩) | (go_at_call 88; refine (isDigit_any _ _).mono ?_; rintro e w' ⟨rfl, rfl⟩))
  all_goals (go_ret; exact ⟨ret_bool (by simp_all [alnB]), rfl⟩)

/-- The reader's box. -/
def Bx (w : World) (B : Nat) (s : ByteArray) (i k : Nat) : Prop := Blk w B #[.string s, .int .i64 (i : Int), .int .i64 (k : Int)] 118
theorem Bx.c0 {w : World} {B i k : Nat} {s : ByteArray} (h : Bx w B s i k) : w.cell? ⟨B, 0, none⟩ = some (.string s) := Blk.cell h 0
theorem Bx.c1 {w : World} {B i k : Nat} {s : ByteArray} (h : Bx w B s i k) : w.cell? ⟨B, 1, none⟩ = some (.int .i64 (i : Int)) := Blk.cell h 1
theorem Bx.c2 {w : World} {B i k : Nat} {s : ByteArray} (h : Bx w B s i k) : w.cell? ⟨B, 2, none⟩ = some (.int .i64 (k : Int)) := Blk.cell h 2
theorem Bx.lt {w : World} {B i k : Nat} {s : ByteArray} (h : Bx w B s i k) : B < w.heap.size := Blk.lt h
theorem Bx.drewN {w : World} {B i k : Nat} {s : ByteArray} (h : Bx w B s i k) (n : Nat) : Bx (w.drewN n) B s i k := h
theorem Bx.next {w : World} {B i k : Nat} {s : ByteArray} (h : Bx w B s i k) : Bx (w.setCell ⟨B, 1, none⟩ (.int .i64 ((i : Int) + 1))) B s (i + 1) k := Blk.set h 1 _
theorem Bx.more {w : World} {B i k : Nat} {s : ByteArray} (h : Bx w B s i k) : Bx (w.setCell ⟨B, 2, none⟩ (.int .i64 ((k : Int) + 1))) B s i (k + 1) := Blk.set h 2 _

/-- What taking a sign does. -/
def TookPost (w : World) (B i k : Nat) (s : ByteArray) (c : Int) (e : Ending) (w' : World) : Prop :=
  if i < s.size ∧ byteAt s i = c then e = .returned (.bool true) ∧ Bx w' B s (i + 1) k ∧ Ex B w w' ∧ w'.heap.size = w.heap.size else e = .returned (.bool false) ∧ ∃ n, w' = w.drewN n

end Go.Proofs.Ythlgknglalcggaj
