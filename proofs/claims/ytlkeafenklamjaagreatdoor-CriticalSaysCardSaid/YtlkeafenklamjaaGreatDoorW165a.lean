import Derived.Test.YtlkeafenklamjaaGreatDoorW162
import Derived.Test.YtlkeafenklamjaaGreatDoorW164
namespace Go.Proofs.YtlkeafenklamjaaGreatDoor
set_option linter.all false
set_option maxRecDepth 20000
set_option maxHeartbeats 8000000
open Go.RowKit
def Dj (rs:List Pr) (inner:Bool) (x:Tm):Bool:=Dw rs x&&(!inner||((Ao [x]).drop 1).all λy=>!Dw rs y)
def Eb (rs:List Pr) (inner:Bool) (t:Tm) (p:List Int):Bool:=match AR t p with
 |some x=>Dj rs inner x
 |none=>false
def DO (rs:List Pr) (inner:Bool) (t:Tm):Option (List Int):=(Bq t).find? (Eb rs inner t)
theorem PK {f:List Int->Bool}:∀ {ps:List (List Int)},ps.any f=false->ps.find? f=none
 | [],_=>rfl
 |p::ps,h=>by
  rw[List.any_cons,Bool.or_eq_false_iff]at h
  rw[JS,h.1]
  exact PK h.2
theorem PL {f:List Int->Bool}:∀ {ps:List (List Int)} {i:Nat} (h:i<ps.length),(ps.take i).any f=false->f ps[i]=true->ps.find? f=some ps[i]
 | [],i,h,_,_=>by simp at h
 |p::ps,0,h,_,h2=>by
  simp only[Et] at h2 ⊢
  rw[JS,h2]
 |p::ps,i+1,h,h1,h2=>by
  rw[F8,List.any_cons,Bool.or_eq_false_iff]at h1
  simp only[F7] at h2 ⊢
  rw[JS,h1.1]
  exact PL (by simpa using h) h1.2 h2
theorem WQ {l:List (List Int)} {f:List Int->Bool} {k:Nat} (h:k<l.length):(l.take (k+1)).any f=((l.take k).any f||f l[k]):=by
 rw[Bm h,He]
 simp
def Fh (rs:List Pr) (l:List Tm) (k:Nat):Bool:=((l.take k).drop 1).all λy=>!Dw rs y
theorem Ms (rs:List Pr) (l:List Tm):Fh rs l 1=true:=by
 unfold Fh
 cases l<;>simp
theorem WR {rs:List Pr} {l:List Tm} {k:Nat} (h1:1<=k) (h:k<l.length):Fh rs l (k+1)=(Fh rs l k&&!Dw rs l[k]):=by
 unfold Fh
 rw[Bm h,List.drop_append_of_le_length (by simp; omega),List.all_append]
 simp
theorem WT {rs:List Pr} {l:List Tm} {k:Nat} (h:Fh rs l k=false):((l.drop 1).all λy=>!Dw rs y)=false:=by
 rw[I4]
 intro h2
 unfold Fh at h
 rw[I4]at h
 refine h (G8.2 λy hy=>G8.1 h2 y ?_)
 rw[List.drop_take]at hy
 exact List.mem_of_mem_take hy
end Go.Proofs.YtlkeafenklamjaaGreatDoor
