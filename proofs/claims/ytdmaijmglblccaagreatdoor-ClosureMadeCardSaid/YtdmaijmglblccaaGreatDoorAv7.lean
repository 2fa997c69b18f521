/- Plain: of each state the first term that may end in it, as it is found step by step. -/
import Derived.Test.YtdmaijmglblccaaGreatDoorAv6
import Derived.Test.YtdmaijmglblccaaGreatDoorZClosureMadeOwn
namespace Go.Proofs.YtdmaijmglblccaaGreatDoor
open Go.RowKit
set_option linter.unusedSimpArgs false
set_option linter.unusedVariables false
set_option maxRecDepth 8000

def txB (t : Tm) : ByteArray := ⟨(txtL [t]).toArray⟩
/-- It has fewer knots, or of as many the first text. -/
def agT (t u : Tm) : Bool := if sizeL [t] = sizeL [u] then ltB (txB t) (txB u) else decide (sizeL [t] < sizeL [u])
abbrev Fs := List (Option Tm)
def atF (st : Fs) (s : Int) : Option Tm := (st[s.toNat]?).join
def argO (st : Fs) : List Int → Option (List Tm)
  | [] => some []
  | s :: r => match atF st s, argO st r with
    | some t, some l => some (t :: l)
    | _, _ => none
def byM (st : Fs) (m : Mv) : Option Tm := match argO st m.frm with
  | none => none
  | some l => if 2000 < 1 + sizeL l then none else some ⟨m.name, l⟩
/-- Does a move tell something better? -/
def newM (st : Fs) (m : Mv) : Option Tm := match byM st m with
  | none => none
  | some t => match atF st m.to with
    | none => some t
    | some u => if agT t u = true then some t else none
def stepF (st : Fs) (m : Mv) : Fs := match newM st m with
  | none => st
  | some t => st.set m.to.toNat (some t)
def passF (st : Fs) (ms : List Mv) : Fs := ms.foldl stepF st
def newsF (st : Fs) : List Mv → Bool
  | [] => false
  | m :: r => (newM st m).isSome || newsF (stepF st m) r
/-- Passes till there is nothing new. -/
inductive FinF (ms : List Mv) : Fs → Fs → Prop
  | done {st : Fs} : newsF st ms = false → FinF ms st (passF st ms)
  | more {st e : Fs} : newsF st ms = true → FinF ms (passF st ms) e → FinF ms st e
/-- What may stand there. -/
structure OkT (t : Tm) : Prop where
  err : errL [t] = 0
  sz : sizeL [t] ≤ 2000
  opn : opnB t = false
end Go.Proofs.YtdmaijmglblccaaGreatDoor
