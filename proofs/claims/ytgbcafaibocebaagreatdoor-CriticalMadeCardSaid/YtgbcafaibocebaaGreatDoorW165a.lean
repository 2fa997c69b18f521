import Derived.Test.YtgbcafaibocebaaGreatDoorW162
import Derived.Test.YtgbcafaibocebaaGreatDoorW164
namespace Go.Proofs.YtgbcafaibocebaaGreatDoor
set_option linter.all false
set_option maxRecDepth 20000
set_option maxHeartbeats 8000000
open Go.RowKit
def Du (rs:List Pr) (inner:Bool) (x:Tm):Bool:=DF rs x&&(!inner||((Ao [x]).drop 1).all λy=>!DF rs y)
def Em (rs:List Pr) (inner:Bool) (t:Tm) (p:List Int):Bool:=match AV t p with
 |some x=>Du rs inner x
 |none=>false
def DY (rs:List Pr) (inner:Bool) (t:Tm):Option (List Int):=(Bs t).find? (Em rs inner t)
theorem QC {f:List Int->Bool}:∀ {ps:List (List Int)},ps.any f=false->ps.find? f=none
 | [],_=>rfl
 |p::ps,h=>by
  rw[List.any_cons,Bool.or_eq_false_iff]at h;rw[Ko,h.1];exact QC h.2
theorem QE {f:List Int->Bool}:∀ {ps:List (List Int)} {i:Nat} (h:i<ps.length),(ps.take i).any f=false->f ps[i]=true->ps.find? f=some ps[i]
 | [],i,h,_,_=>by simp at h
 |p::ps,0,h,_,h2=>by
  simp only[EI] at h2 ⊢;rw[Ko,h2]
 |p::ps,i+1,h,h1,h2=>by
  rw[Ff,List.any_cons,Bool.or_eq_false_iff]at h1;simp only[Gw] at h2 ⊢;rw[Ko,h1.1];exact QE (by simpa using h) h1.2 h2
theorem Ye {l:List (List Int)} {f:List Int->Bool} {k:Nat} (h:k<l.length):(l.take (k+1)).any f=((l.take k).any f||f l[k]):=by
 rw[Bo h,HH];simp
def Fw (rs:List Pr) (l:List Tm) (k:Nat):Bool:=((l.take k).drop 1).all λy=>!DF rs y
theorem M4 (rs:List Pr) (l:List Tm):Fw rs l 1=true:=by
 unfold Fw;cases l<;>simp
theorem Yf {rs:List Pr} {l:List Tm} {k:Nat} (h1:1<=k) (h:k<l.length):Fw rs l (k+1)=(Fw rs l k&&!DF rs l[k]):=by
 unfold Fw;rw[Bo h,List.drop_append_of_le_length (by simp; omega),List.all_append];simp
theorem Yg {rs:List Pr} {l:List Tm} {k:Nat} (h:Fw rs l k=false):((l.drop 1).all λy=>!DF rs y)=false:=by
 rw[Jw];intro h2;unfold Fw at h;rw[Jw]at h;refine h (Hx.2 λy hy=>Hx.1 h2 y ?_);rw[List.drop_take]at hy;exact List.mem_of_mem_take hy
