import Derived.Test.YthaililgaompeaaGreatDoorW162
import Derived.Test.YthaililgaompeaaGreatDoorW164
namespace Go.Proofs.YthaililgaompeaaGreatDoor
set_option linter.all false
set_option maxRecDepth 20000
set_option maxHeartbeats 8000000
open Go.RowKit
def Fb (rs:List Pr) (inner:Bool) (x:Tm):Bool:=DE rs x&&(!inner||((Ap [x]).drop 1).all λy=>!DE rs y)
def Eo (rs:List Pr) (inner:Bool) (t:Tm) (p:List Int):Bool:=match AA t p with
 |some x=>Fb rs inner x
 |none=>false
def De (rs:List Pr) (inner:Bool) (t:Tm):Option (List Int):=(Ez t).find? (Eo rs inner t)
