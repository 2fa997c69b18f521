/- Walks: a term of the set with as few knots as may be, as the document says (SomeOf). -/
import Derived.Test.YtdencaekailmcaaAv12
import Derived.Deep.LoopGhost
namespace Go.Proofs.Ytdencaekailmcaa
open Go.RowKit
set_option linter.unusedSimpArgs false
set_option linter.unusedVariables false
set_option maxRecDepth 8000

/-- What is kept all through. -/
structure SfW (w : World) (H B : Nat) (st : Fs) (ac : Array Value) (wr : World) : Prop where
  dv : DoV wr H B st
  bl : Below w.heap.size w wr
  bx : Blk wr w.heap.size ac 25
  br : Blk wr (w.heap.size + 1) #[.string ⟨#[]⟩, .slice none 0 0] 28
  hs : w.heap.size + 2 ≤ H ∧ w.heap.size + 2 ≤ B
theorem SfW.later {w w1 w2 : World} {H B : Nat} {st : Fs} {ac : Array Value} (h : SfW w H B st ac w1) (hb : Below w1.heap.size w1 w2) : SfW w H B st ac w2 :=
  ⟨h.dv.later hb, h.bl.trans (hb.mono h.bl.size), h.bx.below hb h.bx.lt, h.br.below hb h.br.lt, h.hs⟩
/-- The term that is made, in the box D + 1 beside the move's box D. -/
structure SfT (w0 : World) (H B D : Nat) (mc : Array Value) (nm : ByteArray) (uv : Value) (l : List Tm) (xs : List Value) (wr : World) : Prop where
  row : Row wr (D + 2) 28 (fun b => (H < b ∧ B < b) ∧ b < D) uv l xs
  bl : Below D w0 wr
  ka : Blk wr D mc 50
  out : Blk wr (D + 1) #[.string nm, uv] 28
theorem SfT.later {w0 w1 w2 : World} {H B D : Nat} {mc : Array Value} {nm : ByteArray} {uv : Value} {l : List Tm} {xs : List Value} (h : SfT w0 H B D mc nm uv l xs w1) (hb : Below w1.heap.size w1 w2) : SfT w0 H B D mc nm uv l xs w2 :=
  ⟨h.row.below hb, h.bl.trans (hb.mono (by have := h.ka.lt; omega)), h.ka.below hb h.ka.lt, h.out.below hb h.out.lt⟩
structure SfI (w : World) (n H B : Nat) (ms : List Mv) (st0 : Fs) (ac : Array Value) (g : Nat) (q : Value) (wr : World) : Prop where
  ex : ∃ (st : Fs) (b : Bool), q = .bool b ∧ SfW w H B st ac wr ∧ OkF st ∧ st.length = n ∧ rkF 100000 st + b.toNat ≤ g ∧ (b = true → ∀ e, FinF ms st e → FinF ms st0 e) ∧ (b = false → FinF ms st0 st)
structure SfJ (w : World) (H B : Nat) (ms : List Mv) (st : Fs) (ac : Array Value) (q i : Value) (wr : World) : Prop where
  ex : ∃ k : Nat, k ≤ ms.length ∧ i = .int .i64 (k : Int) ∧ q = .bool (newsF st (ms.take k)) ∧ SfW w H B (passF st (ms.take k)) ac wr
/-- The inner loop. -/
structure SfK (w0 : World) (H B D : Nat) (mc : Array Value) (nm : ByteArray) (st : Fs) (f : List Int) (q i : Value) (wr : World) : Prop where
  ex : ∃ (j : Nat) (b : Bool) (uv : Value) (l : List Tm) (xs : List Value), j ≤ f.length ∧ i = .int .i64 (j : Int) ∧ q = .bool b ∧ (b = true → argO st (f.take j) = some l) ∧ (b = false → argO st f = none) ∧ l.length ≤ j ∧ SfT w0 H B D mc nm uv l xs wr
/-- The best so far. -/
structure SfL (w : World) (H B : Nat) (st : Fs) (la : List Int) (ac : Array Value) (q i : Value) (wr : World) : Prop where
  ex : ∃ (k : Nat), k ≤ la.length ∧ i = .int .i64 (k : Int) ∧ ((q = .int .i64 (-1) ∧ bstF st (la.take k) = none) ∨ ∃ (s : Nat) (t : Tm), q = .int .i64 (s : Int) ∧ s < st.length ∧ atF st (s : Int) = some t ∧ bstF st (la.take k) = some t)
  sf : SfW w H B st ac wr
end Go.Proofs.Ytdencaekailmcaa
