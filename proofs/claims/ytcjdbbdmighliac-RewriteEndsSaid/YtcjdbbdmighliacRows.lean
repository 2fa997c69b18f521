/-
  NARROWER THAN 'FOR EVERY INPUT', by the rows' own cells (each row's printed sentence says how): OrderSays: loops · RewriteSays: loops · RewriteEnds: loops.
  DERIVED. THE GIVEN ROWS OF THIS SEAT. 4 by the template 'for every input the law returns true; each argument reads behind the call as it read before'; 0 by the template 'total and deterministic' (their statements: YtcjdbbdmighliacTotals.lean).
  GIVEN WITH THE SEED: the statements are not yours to turn. If you find one false, say at which input.
  Laid BY PROGRAM, IN A SANDBOX (cutbox-rows.mjs): the forced cells as the released guide's own fill.sh prints them over the translation 44adec5d0f3e0b0c… (all of the seat's roots in one cut). By AI agents, Wed Nov 11 2026. No macro, syntax, notation, axiom, sorry.
-/
import Derived.Test.YtcjdbbdmighliacChecked
import GoSem.Claim
import GoSem.ClaimJoined
import GoSem.ClaimMapViews
import Derived.JoinedTies
import Derived.KernelRfl
namespace Go.Proofs.Ytcjdbbdmighliac
/- THE CELL 'sum', in the pinned program and in every row, IS THE sha256 OF THE DUMP (.gsa) THAT YtcjdbbdmighliacProg.lean LOADS. Nothing in Lean hashes anything: it is a label: what it is worth is what the hold of that sum in a sandbox is worth. -/
noncomputable def Try.pinned : Pinned := { name := "ytcjdbbdmighliac", sum := "44adec5d0f3e0b0cbdda3a0d0d3e4520b47f3ed478e3da0e20c55f447c84da2b", checked := Try.checked }
namespace Rows
def none {H : Type} : Left H := { results := [], args := [] }

/-- 'metaprunelaw.OrderSays': WHATEVER THE INPUT: true; the input reads as it did. -/
def orderSaysSpec : ChangeSpec := { name := "orderSays", fn := fun _ => fun
  | [d1, d2, d3] => { results := [.lit (.bool true)], args := [d1, d2, d3] }
  | _ => none }
def orderSaysRow : OpenClaim := { program := "ytcjdbbdmighliac", sum := "44adec5d0f3e0b0cbdda3a0d0d3e4520b47f3ed478e3da0e20c55f447c84da2b", func := "metaprune/metaprunelaw.OrderSays", spec := "orderSays", inPlace := ["internal/abi.NoEscape"], unfollowed := true, recurses := true, loops := true, plainKeys := false, apart := false }
def OrderSaysSaid : Prop := orderSaysRow.holds Try.pinned (OpenSpec.ofChange orderSaysSpec)

/-- ITS FALSE NEIGHBOUR: 'it returns false'. Refute it at one input. -/
def orderSaysWrong : ChangeSpec := { name := "orderSays", fn := fun _ => fun
  | [d1, d2, d3] => { results := [.lit (.bool false)], args := [d1, d2, d3] }
  | _ => none }
def OrderSaysWrongFalsely : Prop := orderSaysRow.holds Try.pinned (OpenSpec.ofChange orderSaysWrong)

/-- 'metaprunelaw.OrderMade': WHATEVER THE INPUT: true; the input reads as it did. -/
def orderMadeSpec : ChangeSpec := { name := "orderMade", fn := fun _ => fun
  | [d1, d2, d3, d4] => { results := [.lit (.bool true)], args := [d1, d2, d3, d4] }
  | _ => none }
def orderMadeRow : OpenClaim := { program := "ytcjdbbdmighliac", sum := "44adec5d0f3e0b0cbdda3a0d0d3e4520b47f3ed478e3da0e20c55f447c84da2b", func := "metaprune/metaprunelaw.OrderMade", spec := "orderMade", inPlace := ["internal/abi.NoEscape"], unfollowed := true, recurses := true, plainKeys := false, apart := false }
def OrderMadeSaid : Prop := orderMadeRow.holds Try.pinned (OpenSpec.ofChange orderMadeSpec)

/-- ITS FALSE NEIGHBOUR: 'it returns false'. Refute it at one input. -/
def orderMadeWrong : ChangeSpec := { name := "orderMade", fn := fun _ => fun
  | [d1, d2, d3, d4] => { results := [.lit (.bool false)], args := [d1, d2, d3, d4] }
  | _ => none }
def OrderMadeWrongFalsely : Prop := orderMadeRow.holds Try.pinned (OpenSpec.ofChange orderMadeWrong)

/-- 'metaprunelaw.RewriteSays': WHATEVER THE INPUT: true; the input reads as it did. -/
def rewriteSaysSpec : ChangeSpec := { name := "rewriteSays", fn := fun _ => fun
  | [d1, d2] => { results := [.lit (.bool true)], args := [d1, d2] }
  | _ => none }
def rewriteSaysRow : OpenClaim := { program := "ytcjdbbdmighliac", sum := "44adec5d0f3e0b0cbdda3a0d0d3e4520b47f3ed478e3da0e20c55f447c84da2b", func := "metaprune/metaprunelaw.RewriteSays", spec := "rewriteSays", unfollowed := true, recurses := true, loops := true, plainKeys := false, apart := false }
def RewriteSaysSaid : Prop := rewriteSaysRow.holds Try.pinned (OpenSpec.ofChange rewriteSaysSpec)

/-- ITS FALSE NEIGHBOUR: 'it returns false'. Refute it at one input. -/
def rewriteSaysWrong : ChangeSpec := { name := "rewriteSays", fn := fun _ => fun
  | [d1, d2] => { results := [.lit (.bool false)], args := [d1, d2] }
  | _ => none }
def RewriteSaysWrongFalsely : Prop := rewriteSaysRow.holds Try.pinned (OpenSpec.ofChange rewriteSaysWrong)

/-- 'metaprunelaw.RewriteEnds': WHATEVER THE INPUT: true; the input reads as it did. -/
def rewriteEndsSpec : ChangeSpec := { name := "rewriteEnds", fn := fun _ => fun
  | [d1, d2, d3, d4] => { results := [.lit (.bool true)], args := [d1, d2, d3, d4] }
  | _ => none }
def rewriteEndsRow : OpenClaim := { program := "ytcjdbbdmighliac", sum := "44adec5d0f3e0b0cbdda3a0d0d3e4520b47f3ed478e3da0e20c55f447c84da2b", func := "metaprune/metaprunelaw.RewriteEnds", spec := "rewriteEnds", unfollowed := true, recurses := true, loops := true, plainKeys := false, apart := false }
def RewriteEndsSaid : Prop := rewriteEndsRow.holds Try.pinned (OpenSpec.ofChange rewriteEndsSpec)

/-- ITS FALSE NEIGHBOUR: 'it returns false'. Refute it at one input. -/
def rewriteEndsWrong : ChangeSpec := { name := "rewriteEnds", fn := fun _ => fun
  | [d1, d2, d3, d4] => { results := [.lit (.bool false)], args := [d1, d2, d3, d4] }
  | _ => none }
def RewriteEndsWrongFalsely : Prop := rewriteEndsRow.holds Try.pinned (OpenSpec.ofChange rewriteEndsWrong)

/- THE SECOND FORM. 'bulk': how many values and letters a reading holds, each counted each time it is reached (what is shared counts as often as it is met; a slice's spare places count too). A statement '..UptoSaid' is the law's where the arguments, and the package variables that the reading takes, are together of bulk at most 1048576: NARROWER than '..Said'. Prove '..Said' where nothing that the law and all that it calls make is longer than what came in: it says more and counts as full. Else prove '..UptoSaid'. A law counts once. -/
mutual
def uptoBulk {H : Type} : DataW H → Nat
  | .lit (.string bytes) => bytes.length + 1
  | .lit _ => 1
  | .nil => 1
  | .ptr d => uptoBulk d + 1
  | .slice elems spare => uptoBulkAll elems + uptoBulkAll spare + 1
  | .agg parts => uptoBulkAll parts + 1
  | .iface _ d => uptoBulk d + 1
  | .map entries => uptoBulkEntries entries + 1
  | .held _ => 1
def uptoBulkAll {H : Type} : List (DataW H) → Nat
  | [] => 0
  | d :: r => uptoBulk d + uptoBulkAll r
def uptoBulkEntries {H : Type} : List (Lit × DataW H) → Nat
  | [] => 0
  | x :: r => uptoBulkEntry x + uptoBulkEntries r
def uptoBulkEntry {H : Type} : Lit × DataW H → Nat
  | (.string bytes, d) => bytes.length + uptoBulk d + 1
  | (_, d) => uptoBulk d + 1
 end
def uptoSmall : (H : Type) → List (DataW H) → Bool := fun _ ds => decide (uptoBulkAll ds ≤ 1048576)
def OpenSpec.upto (s : _root_.Go.ChangeSpec) : _root_.Go.OpenSpec := { _root_.Go.OpenSpec.ofChange s with cond := some uptoSmall }

/-- 'metaprunelaw.OrderSays', WHERE WHAT IT READS IS OF BULK AT MOST 1048576: true; the input reads as it did. -/
def orderSaysUptoRow : OpenClaim := { program := "ytcjdbbdmighliac", sum := "44adec5d0f3e0b0cbdda3a0d0d3e4520b47f3ed478e3da0e20c55f447c84da2b", func := "metaprune/metaprunelaw.OrderSays", spec := "orderSays", inPlace := ["internal/abi.NoEscape"], unfollowed := true, recurses := true, loops := true, plainKeys := false, apart := false, narrowed := true }
def OrderSaysUptoSaid : Prop := orderSaysUptoRow.holds Try.pinned (OpenSpec.upto orderSaysSpec)

/-- 'metaprunelaw.OrderMade', WHERE WHAT IT READS IS OF BULK AT MOST 1048576: true; the input reads as it did. -/
def orderMadeUptoRow : OpenClaim := { program := "ytcjdbbdmighliac", sum := "44adec5d0f3e0b0cbdda3a0d0d3e4520b47f3ed478e3da0e20c55f447c84da2b", func := "metaprune/metaprunelaw.OrderMade", spec := "orderMade", inPlace := ["internal/abi.NoEscape"], unfollowed := true, recurses := true, plainKeys := false, apart := false, narrowed := true }
def OrderMadeUptoSaid : Prop := orderMadeUptoRow.holds Try.pinned (OpenSpec.upto orderMadeSpec)

/-- 'metaprunelaw.RewriteSays', WHERE WHAT IT READS IS OF BULK AT MOST 1048576: true; the input reads as it did. -/
def rewriteSaysUptoRow : OpenClaim := { program := "ytcjdbbdmighliac", sum := "44adec5d0f3e0b0cbdda3a0d0d3e4520b47f3ed478e3da0e20c55f447c84da2b", func := "metaprune/metaprunelaw.RewriteSays", spec := "rewriteSays", unfollowed := true, recurses := true, loops := true, plainKeys := false, apart := false, narrowed := true }
def RewriteSaysUptoSaid : Prop := rewriteSaysUptoRow.holds Try.pinned (OpenSpec.upto rewriteSaysSpec)

/-- 'metaprunelaw.RewriteEnds', WHERE WHAT IT READS IS OF BULK AT MOST 1048576: true; the input reads as it did. -/
def rewriteEndsUptoRow : OpenClaim := { program := "ytcjdbbdmighliac", sum := "44adec5d0f3e0b0cbdda3a0d0d3e4520b47f3ed478e3da0e20c55f447c84da2b", func := "metaprune/metaprunelaw.RewriteEnds", spec := "rewriteEnds", unfollowed := true, recurses := true, loops := true, plainKeys := false, apart := false, narrowed := true }
def RewriteEndsUptoSaid : Prop := rewriteEndsUptoRow.holds Try.pinned (OpenSpec.upto rewriteEndsSpec)

end Rows
end Go.Proofs.Ytcjdbbdmighliac
