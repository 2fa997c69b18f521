
/- Walks: a term with another one at a place, as the document says. -/
import Derived.Test.YtmgggmlgmpfedaaZTopPathOwn
import Derived.Test.YtmgggmlgmpfedaaPutM
import Derived.Test.YtmgggmlgmpfedaaSlq
namespace Go.Proofs.Ytmgggmlgmpfedaa
open Go.RowKit
set_option linter.unusedSimpArgs false
set_option linter.unusedVariables false
set_option maxRecDepth 8000

/-- What a round that appends does: the row at block M holds what is appended to. -/
theorem put_step {w wr w1 w3 : World} {M T : Nat} {Y : Nat → Prop} {u : Value} {L : List Tm} {t : Tm} {xs : List Value} {o2 : Obj} {s s' : ByteArray} {a1 : Option Addr} {n1 c1 g cap n : Nat} (hn : L.length = n) (hrow : Row wr (M + 1) T Y u L xs) (hb : Below w.heap.size w wr) (hM : w.heap.size ≤ M) (hY : ∀ b, Y b → b < w.heap.size)
    (h2 : Blk wr M #[.string s, u] T) (hsz : M + 1 ≤ wr.heap.size)
    (hb1 : Below wr.heap.size wr w1) (ht : TV w1 (fun b => Y b ∨ wr.heap.size ≤ b) (.agg #[.string s', .slice a1 n1 c1]) t)
    (hown : w3.ownsRow (M + 1) T 2 (.slice (some ⟨g, 0, none⟩) (n + 1) cap) (n + 1) (xs ++ [.string s', .slice a1 n1 c1])) (hg : (w1.alloc o2).grownBy w3 u.ownBlock) (hat : u.ownBlock = some g ∨ g = (w1.alloc o2).heap.size) :
    let w4 := w3.setCell ⟨M, 1, none⟩ (.slice (some ⟨g, 0, none⟩) (n + 1) cap)
    Row w4 (M + 1) T Y (.slice (some ⟨g, 0, none⟩) (n + 1) cap) (L ++ [t]) (xs ++ [.string s', .slice a1 n1 c1]) ∧ Below w.heap.size w w4 ∧ (∀ b cs, b < M → Blk wr b cs T → Blk w4 b cs T) ∧ Blk w4 M #[.string s, .slice (some ⟨g, 0, none⟩) (n + 1) cap] T ∧ M + 1 ≤ w4.heap.size := by
  intro w4
  subst hn
  have hlt' := hrow.own.lt
  have hs1 := hb1.size
  have hsg := hg.size
  simp at hsg
  have hp := hrow.push (w1 := w1) (w2 := w1.alloc o2) (w3 := w3) hsz (fun b h => by have := hY b h; omega) hb1 ht o2 rfl hown hg hat
  have hw3 : Below w.heap.size w w3 := ((hb.trans (hb1.mono hb.size)).alloc (by have := hb.size; omega) o2).grown hg (by have := hb.size; simp; omega) (fun j hj => by have := (hlt' j hj).1; omega)
  have hA : Below w.heap.size w w4 := hw3.setCell (p := ⟨M, 1, none⟩) hM _
  have hbk : ∀ b cs, b < M + 1 → Blk wr b cs T → Blk w3 b cs T := fun b cs hb h => ((h.below hb1 h.lt).alloc o2).grown hg (hrow.ne hb)
  refine ⟨hp.setCell (by omega) (fun h => by have := hY _ h; omega) _, hA, fun b cs hb h => (hbk b cs (by omega) h).setOther _ _ (by omega), (hbk _ _ (by omega) h2).set 1 _, by simp [w4, World.setCell]; omega⟩

theorem put_blk {wr w1 w3 : World} {o2 : Obj} {M T : Nat} {Y : Nat → Prop} {u : Value} {L : List Tm} {xs : List Value} {b : Nat} {cs : Array Value} (hrow : Row wr (M + 1) T Y u L xs) (h : Blk wr b cs T) (hb1 : Below wr.heap.size wr w1) (hg : (w1.alloc o2).grownBy w3 u.ownBlock) (hM : b < M + 1) : Blk w3 b cs T :=
  ((h.below hb1 h.lt).alloc o2).grown hg (hrow.ne hM)

theorem own_later {w w' : World} {N T size : Nat} {v : Value} {n : Nat} {xs : List Value} (h : w.ownsRow N T size v n xs) (hb : Below w.heap.size w w') : w'.ownsRow N T size v n xs :=
  h.kept (w' := w') (row := none) ⟨hb.os, hb.tape, hb.output, hb.size, fun j hj _ => hb.block j hj⟩ (by rcases Option.eq_none_or_eq_some (Value.ownBlock v) with h | ⟨x, h⟩; exact Or.inl h; exact Or.inr (by rw [h]; simp))

/-- What holds at each round's head of putting at a place. -/
def PutInv (w : World) (X : Nat → Prop) (x : Tm) (zs : List Int) (z : Int) (s : ByteArray) (l : List Tm) (a : Option Addr) (c : Nat) (ax : Option Addr) (cx : Nat) (i : Value) (wr : World) : Prop :=
  ∃ (k : Nat) (q : Value) (xs : List Value), k ≤ l.length ∧ i = .int .i64 k ∧ Row wr (w.heap.size + 1 + 1 + 1 + 1) 28 X q ((putL (putT x zs) z 0 l).take k) xs ∧ Below w.heap.size w wr ∧ Blk wr w.heap.size #[.string s, .slice a l.length c] 28 ∧ Blk wr (w.heap.size + 1) #[.string x.name, .slice ax x.args.length cx] 28 ∧ Blk wr (w.heap.size + 1 + 1) #[.string ⟨#[]⟩, .slice none 0 0] 28 ∧ Blk wr (w.heap.size + 1 + 1 + 1) #[.string s, q] 28 ∧ w.heap.size + 1 + 1 + 1 + 1 ≤ wr.heap.size

theorem two_one (s : ByteArray) (a : Option Addr) (n c : Nat) : ∀ u ∈ [Value.string s, .slice a n c], u.oneCell' = true := fun x hx => by
  simp at hx; rcases hx with rfl | rfl <;> rfl

theorem drew_below {wr w1 : World} (hb1 : Below wr.drew.heap.size wr.drew w1) : Below wr.heap.size wr w1 := (below_drewN (Below.refl _ _) 1).trans hb1

end Go.Proofs.Ytmgggmlgmpfedaa
