
/- Walks: the row that a term is, as the document says. -/
import Derived.Test.YtgimfiffcalbfaaCb2
namespace Go.Proofs.Ytgimfiffcalbfaa
open Go.RowKit
set_option linter.unusedSimpArgs false
set_option linter.unusedVariables false
set_option maxRecDepth 8000

theorem cells_new2 (w : World) (o1 : Obj) (a b : Value) (T : Nat) : ∀ (j : Nat) (u : Value), [a, b][j]? = some u → ((w.alloc o1).alloc (.cells #[a, b] T)).drew.cell? ((⟨w.heap.size + 1, 0, none⟩ : Addr).add j) = some u := by
  intro j u h
  have := cell_two_new (w.alloc o1) a b T j u h
  simpa using this

theorem Row.mono {w : World} {N N' T : Nat} {Y Y' : Nat → Prop} {v : Value} {l : List Tm} {xs : List Value} (h : Row w N T Y v l xs) (hY : ∀ b, Y b → Y' b) (hN : N' ≤ N) : Row w N' T Y' v l xs :=
  ⟨ownsRow_base h.own hN, h.row.imp fun a l hs => hs.mono fun b hb _ => hb.imp (hY b) fun h => ⟨by omega, h.2⟩⟩

def RwPost (w : World) (X : Nat → Prop) (t : Tm) (e : Ending) (w' : World) : Prop :=
  ∃ ah ch lv xs, e = .returned (.tuple #[.agg #[.string (rowH t).name, .slice ah 0 ch], lv]) ∧ Row w' w.heap.size 25 (fun b => X b ∧ b < w.heap.size) lv (rowL t) xs ∧ Below w.heap.size w w'

theorem rw_end {w w1 w3 : World} {X : Nat → Prop} {lv : Value} {f x : Tm} {xs : List Value} {o1 o2 : Obj} {ah a2 : Option Addr} {ch c2 g cap : Nat} {u u' : Value}
    (hrow : Row w1 (w.heap.size + 2) 25 (fun b => X b ∧ b < w.heap.size) lv (rowL f) xs) (hb : Below w.heap.size w w1) (hsz : w.heap.size + 2 ≤ w1.heap.size)
    (hx : TV w1 (fun b => X b ∧ b < w.heap.size) (.agg #[.string x.name, .slice a2 x.args.length c2]) x)
    (hown : w3.ownsRow (w.heap.size + 2) 25 2 (.slice (some ⟨g, 0, none⟩) ((rowL f).length + 1) cap) ((rowL f).length + 1) (xs ++ [.string x.name, .slice a2 x.args.length c2])) (hg : ((w1.alloc o1).alloc o2).drew.grownBy w3 lv.ownBlock) (hat : lv.ownBlock = some g ∨ g = ((w1.alloc o1).alloc o2).drew.heap.size) :
    RwPost w X (apT f x) (.returned (.tuple #[.agg #[.string (rowH f).name, .slice ah 0 ch], .slice (some ⟨g, 0, none⟩) ((rowL f).length + 1) cap])) ((w3.setCell ⟨w.heap.size + 1, 0, none⟩ u).setCell ⟨w.heap.size + 1, 1, none⟩ u') := by
  have hb1 : Below w1.heap.size w1 (w1.alloc o1).drew := ((Below.refl _ _).alloc (Nat.le_refl _) o1).drew
  have hlt := hrow.own.lt
  have hp := hrow.push (w1 := (w1.alloc o1).drew) (w2 := (w1.alloc o1).drew.alloc o2) (w3 := w3) hsz (fun b h => by have := h.2; omega) hb1 ((hx.later hb1).mono fun b h _ => Or.inl h) o2 rfl hown hg hat
  have hw3 : Below w.heap.size w w3 := ((hb.trans (hb1.mono (by omega))).alloc (by simp; omega) o2).grown hg (by simp; omega) (fun k hk => by have := (hlt k hk).1; omega)
  refine ⟨ah, ch, .slice (some ⟨g, 0, none⟩) ((rowL f).length + 1) cap, xs ++ [.string x.name, .slice a2 x.args.length c2], by rw [(row_ap f x).1], ?_, ((hw3.setCell (p := ⟨w.heap.size + 1, 0, none⟩) (by simp) u).setCell (p := ⟨w.heap.size + 1, 1, none⟩) (by simp) u')⟩
  rw [(row_ap f x).2]
  exact ((hp.setCell (b := w.heap.size + 1) (by omega) (fun h => by have := h.2; omega) u).setCell (by omega) (fun h => by have := h.2; omega) u').mono (fun _ h => h) (by omega)

end Go.Proofs.Ytgimfiffcalbfaa
