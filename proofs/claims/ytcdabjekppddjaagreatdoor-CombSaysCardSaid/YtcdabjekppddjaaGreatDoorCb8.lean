/- Walks: rows made of rows: what closures tell of their places; the term of a row. -/
import Derived.Test.YtcdabjekppddjaaGreatDoorCb7
import Derived.Test.YtcdabjekppddjaaGreatDoorCb5
namespace Go.Proofs.YtcdabjekppddjaaGreatDoor
open Go.RowKit
set_option linter.unusedSimpArgs false
set_option linter.unusedVariables false
set_option maxRecDepth 8000

/-- The row's closure. -/
abbrev ro1 (B : Nat) : Value := .func (.func 94) #[] #[.pointer (some ⟨B, 0, none⟩)]
/-- A row R lies behind the closure over box B. -/
def RoL (w : World) (Y : Nat → Prop) (B : Nat) (R : List Tm) : Prop := ∃ al cl, Blk w B #[.slice al R.length cl] 22 ∧ Sl w Y al R.reverse ∧ R.length ≤ 100000
theorem RoL.at {w : World} {Y : Nat → Prop} {B : Nat} {R : List Tm} (h : RoL w Y B R) (p : Nat) (hp : p < R.length) : Calls Tryz.prog 94 #[.int .i64 (p : Int), .pointer (some ⟨B, 0, none⟩)] w fun e w' => TPost w Y R[p] e w' := by
  obtain ⟨al, cl, h1, h2, _⟩ := h
  exact rowOf1_any R al cl B p w Y h1 h2 hp
theorem RoL.later {w w' : World} {Y : Nat → Prop} {B : Nat} {R : List Tm} (h : RoL w Y B R) (hb : Below w.heap.size w w') : RoL w' Y B R := by
  obtain ⟨al, cl, h1, h2, h3⟩ := h
  exact ⟨al, cl, h1.below hb h1.lt, h2.later hb, h3⟩
theorem RoL.len {w : World} {Y : Nat → Prop} {B : Nat} {R : List Tm} (h : RoL w Y B R) : R.length ≤ 100000 := by
  obtain ⟨_, _, _, _, h⟩ := h
  exact h
/-- While a row's term is made. -/
def TmI (w : World) (Y : Nat → Prop) (n : Int) (F : Value) (T : Nat) (x : Tm) (wr : World) : Prop :=
  Below w.heap.size w wr ∧ Blk wr w.heap.size #[.int .i64 n, F] 88 ∧ Blk wr (w.heap.size + 1) #[.string ⟨#[]⟩, .slice none 0 0] 24 ∧ w.heap.size + 2 ≤ T ∧ T < wr.heap.size ∧ ∃ ax cx, Blk wr T #[.string x.name, .slice ax x.args.length cx] 24 ∧ Sl wr (fun b => (Y b ∧ b < w.heap.size) ∨ (w.heap.size + 2 ≤ b ∧ b ≠ T)) ax x.args
theorem TmI.put {w wr w2 : World} {Y : Nat → Prop} {n : Int} {F : Value} {T : Nat} {x y : Tm} {a : Option Addr} {c : Nat} (h : TmI w Y n F T x wr) (hb : Below wr.heap.size wr w2) (hs : Sl w2 (fun b => ((Y b ∧ b < w.heap.size) ∨ (w.heap.size + 2 ≤ b ∧ b ≠ T)) ∨ wr.heap.size ≤ b) a y.args) :
    TmI w Y n F T y ((w2.setCell ⟨T, 0, none⟩ (.string y.name)).setCell ⟨T, 1, none⟩ (.slice a y.args.length c)) := by
  obtain ⟨h1, h2, h3, h4, h5, ax, cx, h6, h7⟩ := h
  have hs1 := h1.size
  have hs2 := hb.size
  refine ⟨((h1.trans (hb.mono hs1)).setCell (p := ⟨T, 0, none⟩) (by simp; omega) _).setCell (p := ⟨T, 1, none⟩) (by simp; omega) _, ((h2.below hb (by omega)).setOther _ _ (by omega)).setOther _ _ (by omega), ((h3.below hb (by omega)).setOther _ _ (by omega)).setOther _ _ (by omega), h4, by simp [World.setCell]; omega, a, c, ((h6.below hb (by omega)).set 0 _).set 1 _, ?_⟩
  have hs3 : Sl w2 (fun b => (Y b ∧ b < w.heap.size) ∨ (w.heap.size + 2 ≤ b ∧ b ≠ T)) a y.args := hs.mono fun b hb _ => hb.elim id fun h => Or.inr ⟨by omega, by omega⟩
  refine hs3.kept fun b hb => ?_
  have hne : b ≠ T := by rcases hb with hb | hb <;> omega
  rw [Below.heap_setCell _ _ _ _ (by simpa using hne), Below.heap_setCell _ _ _ _ (by simpa using hne)]
end Go.Proofs.YtcdabjekppddjaaGreatDoor
