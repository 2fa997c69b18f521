/- Plain: automata on terms: both at once, one beside the other. -/
import Derived.Test.YtdmaijmglblccaaGreatDoorZClosureMadeOwn
namespace Go.Proofs.YtdmaijmglblccaaGreatDoor
open Go.RowKit
set_option linter.unusedSimpArgs false
set_option linter.unusedVariables false
set_option maxRecDepth 8000

/-- A move, an automaton. -/
structure Mv where
  name : ByteArray
  frm : List Int
  to : Int
structure Au where
  st : Int
  mv : List Mv
  la : List Int

/-- What a move is that may be. -/
structure OkMv (n : Int) (m : Mv) : Prop where
  nm : (nameB m.name && !varB m.name) = true
  len : m.frm.length ≤ 4
  frm : ∀ s ∈ m.frm, 0 ≤ s ∧ s < n
  to : 0 ≤ m.to ∧ m.to < n
structure OkAu (S M : Nat) (A : Au) : Prop where
  pos : 0 ≤ A.st
  st : A.st ≤ S
  len : A.mv.length ≤ M
  mv : ∀ m ∈ A.mv, OkMv A.st m
  la : ∀ s ∈ A.la, 0 ≤ s ∧ s < A.st
/-- Where a term may end. -/
def bitAt (l : List Bool) (i : Int) : Bool := (l[i.toNat]?).getD false
/-- Both at once. -/
def twoI (q s r : Int) : Int := s * q + r
/-- A piece of memory of both. -/
def Rl (p q : Int) (x a b : List Bool) : Prop := ∀ s r : Int, (0 ≤ s ∧ s < p) → (0 ≤ r ∧ r < q) → bitAt x (twoI q s r) = (bitAt a s && bitAt b r)
def RlL (p q : Int) : List (List Bool) → List (List Bool) → List (List Bool) → Prop
  | [], [], [] => True
  | x :: X, a :: A, b :: B => Rl p q x a b ∧ RlL p q X A B
  | _, _, _ => False
theorem RlL.len {p q : Int} : ∀ {X A B : List (List Bool)}, RlL p q X A B → X.length = A.length ∧ X.length = B.length
  | [], [], [], _ => ⟨rfl, rfl⟩
  | x :: X, a :: A, b :: B, h => by have := RlL.len h.2; simp [this.1, this.2]; omega
  | [], [], _ :: _, h => h.elim
  | [], _ :: _, _, h => h.elim
  | _ :: _, [], _, h => h.elim
  | _ :: _, _ :: _, [], h => h.elim
/-- A piece of memory of one beside the other. -/
def Rs (p q : Int) (x a b : List Bool) : Prop := (∀ s : Int, (0 ≤ s ∧ s < p) → bitAt x s = bitAt a s) ∧ ∀ r : Int, (0 ≤ r ∧ r < q) → bitAt x (p + r) = bitAt b r
def RsL (p q : Int) : List (List Bool) → List (List Bool) → List (List Bool) → Prop
  | [], [], [] => True
  | x :: X, a :: A, b :: B => Rs p q x a b ∧ RsL p q X A B
  | _, _, _ => False
theorem RsL.len {p q : Int} : ∀ {X A B : List (List Bool)}, RsL p q X A B → X.length = A.length ∧ X.length = B.length
  | [], [], [], _ => ⟨rfl, rfl⟩
  | x :: X, a :: A, b :: B, h => by have := RsL.len h.2; simp [this.1, this.2]; omega
  | [], [], _ :: _, h => h.elim
  | [], _ :: _, _, h => h.elim
  | _ :: _, [], _, h => h.elim
  | _ :: _, _ :: _, [], h => h.elim
end Go.Proofs.YtdmaijmglblccaaGreatDoor
