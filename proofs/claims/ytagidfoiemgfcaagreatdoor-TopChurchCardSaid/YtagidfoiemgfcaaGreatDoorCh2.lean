/- Walks: what the law TopChurch asks of working out, steps and development. -/
import Derived.Test.YtagidfoiemgfcaaGreatDoorAp2
import Derived.Test.YtagidfoiemgfcaaGreatDoorCh1
import Derived.Test.YtagidfoiemgfcaaGreatDoorLn11i
import Derived.Test.YtagidfoiemgfcaaGreatDoorLf1e
import Derived.Test.YtagidfoiemgfcaaGreatDoorZCTopChurchOwn
namespace Go.Proofs.YtagidfoiemgfcaaGreatDoor
open Go.RowKit
set_option linter.unusedSimpArgs false
set_option linter.unusedVariables false
set_option maxRecDepth 8000

/-- A lambda term in a box. -/
def Bx (w : World) (A : Nat) (t : Lm) (a : Option Addr) (c : Nat) : Prop := Blk w A #[.int .i64 t.kind, .int .i64 t.idx, .slice a t.subs.length c] 26 ∧ SlM w (fun _ => True) a t.subs
theorem Bx.later {w w' : World} {A : Nat} {t : Lm} {a : Option Addr} {c : Nat} (h : Bx w A t a c) (hb : Below w.heap.size w w') : Bx w' A t a c := ⟨h.1.below hb h.1.lt, h.2.later hb⟩
theorem Bx.alloc {w : World} {A : Nat} {t : Lm} {a : Option Addr} {c : Nat} (h : Bx w A t a c) (o : Obj) : Bx (w.alloc o) A t a c := h.later ((Below.refl _ _).alloc (Nat.le_refl _) o)
theorem Bx.new {w : World} {t : Lm} {a : Option Addr} {c : Nat} {X : Nat → Prop} (h : SlM w X a t.subs) : Bx (w.alloc (.cells #[.int .i64 t.kind, .int .i64 t.idx, .slice a t.subs.length c] 26)) w.heap.size t a c :=
  ⟨Blk.new w _ _, (h.mono fun _ _ _ => trivial).later ((Below.refl _ _).alloc (Nat.le_refl _) _)⟩
theorem Bx.cs {w : World} {A : Nat} {t : Lm} {a : Option Addr} {c : Nat} (h : Bx w A t a c) : w.cell? ⟨A, 0, none⟩ = some (.int .i64 t.kind) ∧ w.cell? ⟨A, 1, none⟩ = some (.int .i64 t.idx) ∧ w.cell? ⟨A, 2, none⟩ = some (.slice a t.subs.length c) := ⟨h.1.cell 0, h.1.cell 1, h.1.cell 2⟩
theorem Bx.mv {w : World} {A : Nat} {t : Lm} {a : Option Addr} {c : Nat} (h : Bx w A t a c) : MV w (fun _ => True) (.agg #[.int .i64 t.kind, .int .i64 t.idx, .slice a t.subs.length c]) t := ⟨a, c, rfl, h.2⟩

/-- What working out tells: a term, how many steps, an error; the term is as it should be where there is none. -/
def EnW (z : Int) (r : Lm) (j : Nat) (w : World) (e : Ending) (w' : World) : Prop :=
  ∃ (b : Lm) (ab : Option Addr) (cb : Nat) (k : Int), e = .returned (.tuple #[.agg #[.int .i64 b.kind, .int .i64 b.idx, .slice ab b.subs.length cb], .int .i64 k, .int .i64 z]) ∧ SlM w' (fun _ => True) ab b.subs ∧ Below w.heap.size w w' ∧ (z = 0 → b = r ∧ k = j)
theorem enW_of {inn : Bool} {m : Nat} {t : Lm} {X : Nat → Prop} {w w' : World} {e : Ending} (h : RnPost inn m t X w e w') : EnW (endM inn m t).1 (endM inn m t).2.1 (endM inn m t).2.2 w e w' := by
  obtain ⟨hb, h⟩ := h
  rcases h with ⟨h0, a, c, rfl, hs⟩ | ⟨h0, rfl⟩
  · exact ⟨_, a, c, _, by rw [h0], hs.mono fun _ _ _ => trivial, hb, fun _ => ⟨rfl, rfl⟩⟩
  · exact ⟨⟨0, 0, []⟩, none, 0, 0, rfl, ⟨by simp, Or.inl rfl⟩, hb, fun h => absurd h h0⟩
theorem norC_any (t : Lm) (n m : Nat) (hm : m ≤ 400) (hE : lamE n 0 t = 0) (v : Value) (w : World) (X : Nat → Prop) (hv : MV w X v t) :
    Calls Tryz.prog 6 #[v, .int .i64 (n : Int), .int .i64 (m : Int)] w fun e w' => EnW (endM false m t).1 (endM false m t).2.1 (endM false m t).2.2 w e w' :=
  (normal_ok t n m hm hE v w X hv).mono fun e w' h => enW_of h
theorem strC_any (t : Lm) (n m : Nat) (hm : m ≤ 400) (hE : lamE n 0 t = 0) (v : Value) (w : World) (X : Nat → Prop) (hv : MV w X v t) :
    Calls Tryz.prog 7 #[v, .int .i64 (n : Int), .int .i64 (m : Int)] w fun e w' => EnW (endM true m t).1 (endM true m t).2.1 (endM true m t).2.2 w e w' :=
  (strict_ok t n m hm hE v w X hv).mono fun e w' h => enW_of h
/-- What Develop tells. -/
def DvW (n : Nat) (t : Lm) (w : World) (e : Ending) (w' : World) : Prop :=
  ∃ (d : Lm) (ad : Option Addr) (cd : Nat) (z : Int), e = .returned (.tuple #[.agg #[.int .i64 d.kind, .int .i64 d.idx, .slice ad d.subs.length cd], .int .i64 z]) ∧ SlM w' (fun b => w.heap.size ≤ b) ad d.subs ∧ Below w.heap.size w w' ∧ (z = 0 → ChOk n t d) ∧ (z = 0 ∨ z = 8)
theorem devC_any (t : Lm) (n : Nat) (hn : n ≤ 40) (he : errM n 0 [t] = 0) (hz : sizeM [t] ≤ 200) (v : Value) (w : World) (X : Nat → Prop) (hv : MV w X v t) :
    Calls Tryz.prog 11 #[v, .int .i64 (n : Int)] w fun e w' => DvW n t w e w' := by
  refine (rDevelop_any t n v w X hv).mono ?_
  rintro e w' ⟨hb, h⟩
  have hd := ch_dev hn he hz
  rcases h with ⟨h0, a, c, rfl, hs⟩ | ⟨h0, rfl⟩
  · refine ⟨_, a, c, 0, rfl, hs, hb, fun _ => ?_, Or.inl rfl⟩
    rcases hd with hd | hd
    · rw [hd] at h0; cases h0
    · exact hd.2
  · refine ⟨⟨0, 0, []⟩, none, 0, _, rfl, ⟨by simp, Or.inl rfl⟩, hb, fun h => absurd h h0, ?_⟩
    rcases hd with hd | hd
    · exact Or.inr hd
    · exact absurd hd.1 h0

/-- One more behind a row: what the row holds then, and that nothing older has changed. -/
theorem app_oneC {wS w w1 : World} {N : Nat} {a : Option Addr} {c : Nat} {l : List Lm} {xs : List Value} {d : Lm} {ad : Option Addr} {cd : Nat} (hS : Below wS.heap.size wS w) (hSN : wS.heap.size ≤ N) (hN : N ≤ w.heap.size)
    (h : RowM w N 26 (fun _ => False) (.slice a l.length c) l xs) (hb : Below w.heap.size w w1) (hd : SlM w1 (fun b => w.heap.size ≤ b) ad d.subs) (hl : l.length ≤ 100000) :
    ∃ g cap w3, (Builtin.append_ #[24, 24] 24 #[.slice a l.length c, .slice (some ⟨w1.heap.size, 0, none⟩) 1 1]).run Tryz.prog (w1.alloc (.cells #[.int .i64 d.kind, .int .i64 d.idx, .slice ad d.subs.length cd] 26)) = .ok (.slice (some ⟨g, 0, none⟩) (l.length + 1) cap) w3 ∧
      SlM w3 (fun _ => True) (some ⟨g, 0, none⟩) (l ++ [d]) ∧ Below wS.heap.size wS w3 := by
  obtain ⟨i0, hi, hz0, hz1, hz2⟩ := info_parts Tryz.infoLam
  have hlt := h.own.lt
  have hbs := hb.size
  obtain ⟨g, cap, w3, hr, ho, hg, hat, hgl⟩ := run_append_lies (P := Tryz.prog) (w := w1.alloc (.cells #[.int .i64 d.kind, .int .i64 d.idx, .slice ad d.subs.length cd] 26)) 24 24 N 26 i0 _ 3 40 Tryz.underlying24 hi hz0 hz1 hz2 rfl (by decide) _ l.length xs ((h.below hb).own.alloc _)
    ⟨w1.heap.size, 0, none⟩ 1 1 [.int .i64 d.kind, .int .i64 d.idx, .slice ad d.subs.length cd] rfl (cell_lam_new _ _ _ _ _) (fun y hy => by simp at hy; rcases hy with rfl | rfl | rfl <;> rfl) (by decide) (by unfold maxLen; omega) (by omega) (by simp; omega) _ rfl
  have hp := h.push (w1 := w1) (w3 := w3) (t := d) hN (fun b h => h.elim) hb ⟨ad, cd, rfl, hd.mono fun b h _ => Or.inr h⟩ _ rfl ho hg hat
  obtain ⟨a', c', e, hs⟩ := hp.sl
  simp only [Value.slice.injEq] at e
  obtain ⟨rfl, _, _⟩ := e
  refine ⟨g, cap, w3, hr, hs.mono fun _ _ _ => trivial, ?_⟩
  have hss := hS.size
  exact ((hS.trans (hb.mono (by omega))).alloc (by omega) _).grown hg (by simp; omega) (fun k hk => by have := (hlt k hk).1; omega)
end Go.Proofs.YtagidfoiemgfcaaGreatDoor
