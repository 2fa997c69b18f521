import Derived.Test.YtlkeafenklamjaaGreatDoorW162
import Derived.Test.YtlkeafenklamjaaGreatDoorW164
namespace Go.Proofs.YtlkeafenklamjaaGreatDoor
set_option linter.unusedSimpArgs false
set_option linter.unusedVariables false
set_option maxRecDepth 20000
set_option maxHeartbeats 8000000
open Go.RowKit
def Dl (rs:List Pr) (inner:Bool) (x:Tm):Bool:=EU rs x&&(!inner||((Ao [x]).drop 1).all λy=>!fitsB rs y)
def Eb (rs:List Pr) (inner:Bool) (t:Tm) (p:List Int):Bool:=match AU t p with
 |some x=>Dl rs inner x
 |none=>false
def DO (rs:List Pr) (inner:Bool) (t:Tm):Option (List Int):=(Br t).find? (Eb rs inner t)
theorem PL {f:List Int->Bool}:∀ {ps:List (List Int)},ps.any f=false->ps.find? f=none
 | [],_=>rfl
 |p::ps,h=>by
  rw[List.any_cons,Bool.or_eq_false_iff]at h
  rw[JT,h.1]
  exact PL h.2
theorem PM {f:List Int->Bool}:∀ {ps:List (List Int)} {i:Nat} (h:i<ps.length),(ps.take i).any f=false->f ps[i]=true->ps.find? f=some ps[i]
 | [],i,h,_,_=>by simp at h
 |p::ps,0,h,_,h2=>by
  simp only[Et] at h2 ⊢
  rw[JT,h2]
 |p::ps,i+1,h,h1,h2=>by
  rw[F9,List.any_cons,Bool.or_eq_false_iff]at h1
  simp only[F8] at h2 ⊢
  rw[JT,h1.1]
  exact PM (by simpa using h) h1.2 h2
theorem WT {l:List (List Int)} {f:List Int->Bool} {k:Nat} (h:k<l.length):(l.take (k+1)).any f=((l.take k).any f||f l[k]):=by
 rw[Bo h,He]
 simp
def Fi (rs:List Pr) (l:List Tm) (k:Nat):Bool:=((l.take k).drop 1).all λy=>!fitsB rs y
theorem Mu (rs:List Pr) (l:List Tm):Fi rs l 1=true:=by
 unfold Fi
 cases l<;>simp
theorem WU {rs:List Pr} {l:List Tm} {k:Nat} (h1:1<=k) (h:k<l.length):Fi rs l (k+1)=(Fi rs l k&&!fitsB rs l[k]):=by
 unfold Fi
 rw[Bo h,List.drop_append_of_le_length (by simp; omega),List.all_append]
 simp
theorem WV {rs:List Pr} {l:List Tm} {k:Nat} (h:Fi rs l k=false):((l.drop 1).all λy=>!fitsB rs y)=false:=by
 rw[I4]
 intro h2
 unfold Fi at h
 rw[I4]at h
 refine h (H9.2 λy hy=>H9.1 h2 y ?_)
 rw[List.drop_take]at hy
 exact List.mem_of_mem_take hy
end Go.Proofs.YtlkeafenklamjaaGreatDoor
