/- Walks: terms made of numerals. -/
import Derived.Test.YtmapeiecapiliaaTn1
import Derived.Test.YtmapeiecapiliaaPk
namespace Go.Proofs.Ytmapeiecapiliaa
open Go.RowKit
set_option linter.unusedSimpArgs false
set_option linter.unusedVariables false
set_option maxRecDepth 8000

/-- A lambda term that may be doesn't lie where an empty one lies. -/
theorem liesM_ne {w : World} {P T : Nat} (hP : Blk w P #[.int .i64 0, .int .i64 0, .slice none 0 0] T) (m : Int) (l : List Lm) : ∀ (X : Nat → Prop) (u : Int) (b o : Nat), errM u m l = 0 → LiesM w X b o l → LiesM w (fun b => X b ∧ b ≠ P) b o l := by
  induction l using Lm.indL with
  | h0 => intro X u b o _ _; simp [LiesM]
  | h k x l r ihl ihr =>
    intro X u b o he hl
    obtain ⟨h1, h2⟩ := err_two0.1 he
    obtain ⟨h3, h4⟩ := err_one0.1 h1
    have hk := (knE_zero.1 h3).1
    simp only [LiesM] at hl ⊢
    obtain ⟨hx, c0, c1, ⟨a, c, c2, hlen, hor⟩, hr⟩ := hl
    have hne : b ≠ P := by
      intro e
      subst e
      have h := hP.cell o
      rw [c0] at h
      match o, h with
      | 0, h => simp at h; omega
      | 1, h => simp at h; omega
      | 2, h => simp at h
      | o + 3, h => simp at h
    refine ⟨⟨hx, hne⟩, c0, c1, ⟨a, c, c2, hlen, ?_⟩, ihr X u b (o + 3) h2 hr⟩
    rcases hor with h | ⟨b', o', e, h⟩
    · exact Or.inl h
    · exact Or.inr ⟨b', o', e, ihl X _ b' o' h4 h⟩
theorem slM_ne {w : World} {P T : Nat} (hP : Blk w P #[.int .i64 0, .int .i64 0, .slice none 0 0] T) {X : Nat → Prop} {a : Option Addr} {l : List Lm} {u m : Int} (he : errM u m l = 0) (h : SlM w X a l) : SlM w (fun b => X b ∧ b ≠ P) a l := by
  obtain ⟨hl, h | ⟨b, o, e, h⟩⟩ := h
  · exact ⟨hl, Or.inl h⟩
  · exact ⟨hl, Or.inr ⟨b, o, e, liesM_ne hP m l X u b o he h⟩⟩
theorem slM_set {w : World} {P T : Nat} (hP : Blk w P #[.int .i64 0, .int .i64 0, .slice none 0 0] T) {a : Option Addr} {l : List Lm} {u m : Int} (he : errM u m l = 0) (h : SlM w (fun _ => True) a l) (x0 x1 x2 : Value) : SlM (((w.setCell ⟨P, 0, none⟩ x0).setCell ⟨P, 1, none⟩ x1).setCell ⟨P, 2, none⟩ x2) (fun _ => True) a l := by
  refine ((slM_ne hP he h).kept fun b hb => ?_).mono fun _ _ _ => trivial
  have hne := hb.2
  rw [Below.heap_setCell _ _ _ _ (by simpa using hne), Below.heap_setCell _ _ _ _ (by simpa using hne), Below.heap_setCell _ _ _ _ (by simpa using hne)]
theorem subsL {x : Lm} {u m : Int} (h : errM u m [x] = 0) : ∃ u', errM u' m x.subs = 0 := by
  obtain ⟨k, i, l⟩ := x
  exact ⟨_, (err_one0.1 h).2⟩
theorem subsX {t : LX} (ho : t.ok 0 = true) : ∃ u, errM u 0 t.m.subs = 0 := by
  exact subsL (m_ok t 0 ho)
theorem hgN_any (k y : Nat) (hk : k < 5) (hy : y ≤ 2) (a : Option Addr) (c : Nat) (w : World) (X : Nat → Prop) (hs : SlM w X a [(LX.l (LX.it k)).m]) :
    Calls Try.prog 8 #[.agg #[.int .i64 2, .int .i64 0, .slice a 1 c], .int .i64 (y : Int), .int .i64 0] w fun e w' => ∃ a' c', e = .returned (.agg #[.int .i64 2, .int .i64 0, .slice a' 1 c']) ∧ SlM w' (fun _ => True) a' [(LX.l ((LX.it k).hig y 2)).m] ∧ Below w.heap.size w w' := by
  have h5 := t5X k hk
  have he := m_ok _ _ h5.1
  have hz := m_sz (numX k)
  have h := higher_any (y : Int) (by omega) (by omega) (numX k).m (.agg #[.int .i64 2, .int .i64 0, .slice a 1 c]) 0 w X ⟨a, c, rfl, hs⟩ (by omega) (by rw [hz]; have := h5.2; omega) (bnd_of_err _ _ _ (by omega) (by rw [hz]; have := h5.2; omega) (by omega) he)
  have e1 : higT (y : Int) 0 (numX k).m = ((numX k).hig y 0).m := m_hig y (numX k) 0
  rw [e1] at h
  refine h.mono ?_
  rintro e w' ⟨a', c', rfl, h1, h2⟩
  exact ⟨a', c', rfl, h1.mono fun _ _ _ => trivial, h2⟩
theorem appX_any (f x : LX) (fv xv : Value) (w : World) (hf : MV w (fun _ => True) fv f.m) (hx : MV w (fun _ => True) xv x.m) :
    Calls Try.prog 7 #[fv, xv] w fun e w' => ∃ a c, e = .returned (.agg #[.int .i64 3, .int .i64 0, .slice a 2 c]) ∧ SlM w' (fun _ => True) a [f.m, x.m] ∧ Below w.heap.size w w' := by
  refine (appR_any f.m x.m fv xv w _ hf hx).mono ?_
  rintro e w' ⟨a', c', rfl, h1, h2⟩
  exact ⟨a', c', rfl, h1.mono fun _ _ _ => trivial, h2⟩
theorem funX_any (x : LX) (xv : Value) (w : World) (hx : MV w (fun _ => True) xv x.m) :
    Calls Try.prog 6 #[xv] w fun e w' => ∃ a c, e = .returned (.agg #[.int .i64 2, .int .i64 0, .slice a 1 c]) ∧ SlM w' (fun _ => True) a [x.m] ∧ Below w.heap.size w w' := by
  refine (funR_any x.m xv w _ hx).mono ?_
  rintro e w' ⟨a', c', rfl, h1, h2⟩
  exact ⟨a', c', rfl, h1.mono fun _ _ _ => trivial, h2⟩
theorem numX_any (k : Nat) (hk : k < 5) (w : World) :
    Calls Try.prog 5 #[.int .i64 (k : Int)] w fun e w' => ∃ a c, e = .returned (.tuple #[.agg #[.int .i64 2, .int .i64 0, .slice a 1 c], .int .i64 0]) ∧ SlM w' (fun _ => True) a [(LX.l (LX.it k)).m] ∧ Below w.heap.size w w' := by
  refine (number_ok k (by omega) w).mono ?_
  rintro e w' ⟨a', c', rfl, h1, h2⟩
  rw [itM_it] at h1
  exact ⟨a', c', rfl, h1.mono fun _ _ _ => trivial, h2⟩
theorem bl_setA {w W : World} (h : Below w.heap.size w W) (j : Nat) (hj : w.heap.size ≤ j) (u u' u'' : Value) : Below w.heap.size w (((W.setCell ⟨j, 0, none⟩ u).setCell ⟨j, 1, none⟩ u').setCell ⟨j, 2, none⟩ u'') :=
  ((h.setCell (p := ⟨j, 0, none⟩) (by simpa using hj) _).setCell (p := ⟨j, 1, none⟩) (by simpa using hj) _).setCell (p := ⟨j, 2, none⟩) (by simpa using hj) _
/-- A term that was made. -/
def MkX (t : LX) (wA : World) (s : Value) (wc : World) : Prop :=
  ∃ (P k : Nat) (a : Option Addr) (c : Nat), s = .pointer (some ⟨P, 0, none⟩) ∧ wA.heap.size ≤ P ∧ Blk wc P #[.int .i64 t.m.kind, .int .i64 t.m.idx, .slice a t.m.subs.length c] 25 ∧ SlM wc (fun _ => True) a t.m.subs ∧ Below wA.heap.size wA wc
theorem mkX_last {t : LX} {wA w1 : World} {a : Option Addr} {c : Nat} (k : Below wA.heap.size wA w1) (hs : SlM w1 (fun _ => True) a t.m.subs) :
    MkX t wA (.pointer (some ⟨w1.heap.size, 0, none⟩)) (w1.alloc (.cells #[.int .i64 t.m.kind, .int .i64 t.m.idx, .slice a t.m.subs.length c] 25)) :=
  ⟨_, 0, a, c, rfl, k.size, Blk.new _ _ _, hs.later ((Below.refl _ _).alloc (Nat.le_refl _) _), k.alloc k.size _⟩
theorem mkX_first {t : LX} (ho : t.ok 0 = true) {wA w1 : World} {a : Option Addr} {c P : Nat} (hPA : wA.heap.size ≤ P) (hP : Blk w1 P #[.int .i64 0, .int .i64 0, .slice none 0 0] 25) (k : Below wA.heap.size wA w1) (hs : SlM w1 (fun _ => True) a t.m.subs) :
    MkX t wA (.pointer (some ⟨P, 0, none⟩)) (((w1.setCell ⟨P, 0, none⟩ (.int .i64 t.m.kind)).setCell ⟨P, 1, none⟩ (.int .i64 t.m.idx)).setCell ⟨P, 2, none⟩ (.slice a t.m.subs.length c)) := by
  obtain ⟨u, hu⟩ := subsX ho
  exact ⟨P, 0, a, c, rfl, hPA, blk_set3 hP _ _ _, slM_set hP hu hs _ _ _, bl_setA k P hPA _ _ _⟩
#print axioms mkX_first
end Go.Proofs.Ytmapeiecapiliaa
