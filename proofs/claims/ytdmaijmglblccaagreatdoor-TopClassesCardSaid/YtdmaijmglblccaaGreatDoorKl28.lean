/- Walks: kinds are joined till no round joins any (ClosureOf, its last part). -/
import Derived.Test.YtdmaijmglblccaaGreatDoorKl27
import Derived.BigQuiet
import Derived.Deep.LoopGhost
namespace Go.Proofs.YtdmaijmglblccaaGreatDoor
open Go.RowKit
set_option linter.unusedSimpArgs false
set_option linter.unusedVariables false
set_option maxRecDepth 8000

/-- What stands fast while kinds are joined: the terms, and their parts by numbers. -/
structure FxK (L : List Tm) (bl : List (List Nat)) (A : Nat) (oa : Option Addr) (n oc gb G : Nat) (w : World) : Prop where
  bx : Blk w A #[.slice oa n oc] 23
  nA : A ≠ G
  ln : L.length = n
  tm : ∀ i, i < n → ∃ g ax cx, oa = some ⟨g, 0, none⟩ ∧ g ≠ G ∧ w.cell? ⟨g, i * 2, none⟩ = some (.string (gd L noK i).name) ∧ w.cell? ⟨g, i * 2 + 1, none⟩ = some (.slice ax (gd L noK i).args.length cx)
  bw : ∀ i, i < n → ∃ ai ci, w.cell? ⟨gb, i, none⟩ = some (.slice ai (gd bl [] i).length ci) ∧ ∀ j, j < (gd bl [] i).length → ∃ gi, ai = some ⟨gi, 0, none⟩ ∧ gi ≠ G ∧ w.cell? ⟨gi, j, none⟩ = some (.int .i64 ((gd (gd bl [] i) 0 j : Nat) : Int))
  nb : gb ≠ G
  sl : Sl w (fun b => b ≠ G) oa L
theorem cell_exq {Q : Nat → Prop} {w w' : World} {a : Addr} {v : Value} (he : ExQ Q w w') (hq : ¬ Q a.block) (h : w.cell? a = some v) : w'.cell? a = some v :=
  (World.cell?_of_block (he.block a.block (World.block_lt_of_cell? w _ h) hq)).trans h
theorem FxK.exq {L : List Tm} {bl : List (List Nat)} {A : Nat} {oa : Option Addr} {n oc gb G : Nat} {w w' : World} (h : FxK L bl A oa n oc gb G w) (he : ExQ (fun b => b = G) w w') : FxK L bl A oa n oc gb G w' :=
  ⟨h.bx.exq he h.nA, h.nA, h.ln, fun i hi => by
    obtain ⟨g, ax, cx, e, h1, h2, h3⟩ := h.tm i hi
    exact ⟨g, ax, cx, e, h1, cell_exq he h1 h2, cell_exq he h1 h3⟩, fun i hi => by
    obtain ⟨ai, ci, h1, h2⟩ := h.bw i hi
    refine ⟨ai, ci, cell_exq he h.nb h1, fun j hj => ?_⟩
    obtain ⟨gi, e, h3, h4⟩ := h2 j hj
    exact ⟨gi, e, h3, cell_exq he h3 h4⟩, h.nb, h.sl.exq he fun b hb e => hb e⟩
/-- Each equation's sides are of one kind. -/
def GvK (ls : List Pr) (L : List Tm) (K : List Nat) : Prop := ∀ p ∈ ls, ∃ i k, i < L.length ∧ k < L.length ∧ gd L noK i = p.l ∧ gd L noK k = p.r ∧ gd K 0 i = gd K 0 k
/-- Does it begin with that region? -/
def headIsK (n : Nat) : Code → Bool
  | .region m _ _ => m == n
  | .seq a _ => headIsK n a
  | .scope c => headIsK n c
  | .block _ c => headIsK n c
  | _ => false
/-- The statements from a region on. -/
def seqFromK (n : Nat) : Code → Code
  | .seq a b => bif headIsK n a then .seq a b else seqFromK n b
  | .scope c => seqFromK n c
  | c => c
/-- At each round's head. -/
structure AgK (ls : List Pr) (L : List Tm) (bl : List (List Nat)) (B G n : Nat) (w3 : World) (g : Nat) (ag : Value) (wr : World) : Prop where
  ex : ∃ (K : List Nat) (b : Bool), ag = .bool b ∧ KdA B G n K wr ∧ KdI ls L K ∧ GvK ls L K ∧ (b = false → ∀ i, i < n → ∀ k, k < i → okP L bl K i k) ∧ (b = true → cnK n K + 1 ≤ g)
  fr : ExQ (fun b => b = G) w3 wr
/-- Within a round. -/
structure AiK (ls : List Pr) (L : List Tm) (bl : List (List Nat)) (B G n : Nat) (w3 : World) (K0 : List Nat) (ag iv : Value) (wr : World) : Prop where
  ex : ∃ (K : List Nat) (b : Bool) (i : Nat), ag = .bool b ∧ iv = .int .i64 (i : Int) ∧ i ≤ n ∧ KdA B G n K wr ∧ KdI ls L K ∧ GvK ls L K ∧ (b = false → K = K0 ∧ ∀ i', i' < i → ∀ k, k < i' → okP L bl K i' k) ∧ (b = true → cnK n K < cnK n K0)
  fr : ExQ (fun b => b = G) w3 wr
structure AkK (ls : List Pr) (L : List Tm) (bl : List (List Nat)) (B G n : Nat) (w3 : World) (K0 : List Nat) (i : Nat) (ag kv : Value) (wr : World) : Prop where
  ex : ∃ (K : List Nat) (b : Bool) (k : Nat), ag = .bool b ∧ kv = .int .i64 (k : Int) ∧ k ≤ i ∧ KdA B G n K wr ∧ KdI ls L K ∧ GvK ls L K ∧ (b = false → K = K0 ∧ (∀ i', i' < i → ∀ k', k' < i' → okP L bl K i' k') ∧ ∀ k', k' < k → okP L bl K i k') ∧ (b = true → cnK n K < cnK n K0)
  fr : ExQ (fun b => b = G) w3 wr
/-- Within a pair. -/
structure AjK (K pi pk : List Nat) (B G n : Nat) (w3 : World) (ok jv : Value) (wr : World) : Prop where
  ex : ∃ (z : Bool) (j : Nat), ok = .bool z ∧ jv = .int .i64 (j : Int) ∧ j ≤ pi.length ∧ (z = true ↔ ∀ j', j' < j → gd K 0 (gd pi 0 j') = gd K 0 (gd pk 0 j')) ∧ KdA B G n K wr
  fr : ExQ (fun b => b = G) w3 wr
end Go.Proofs.YtdmaijmglblccaaGreatDoor
