import Derived.Test.YthaililgaompeaaGreatDoorW63
namespace Go.Proofs.YthaililgaompeaaGreatDoor
set_option linter.all false
set_option maxRecDepth 20000
set_option maxHeartbeats 8000000
open Go.RowKit
theorem FJ {s:ByteArray} {x:Tm}:∀ {ls:List Bd},As ls s=some x->∃d,d∈ls/\d.nm=s/\d.t=x
 | [],h=>by cases h
 |d::r,h=>by
  rw[As]at h;split at h
  ·rename_i e;exact⟨d,by simp,e,by simpa using h⟩
  ·obtain⟨d',h1,h2,h3⟩:=FJ h;exact⟨d',by simp[h1],h2,h3⟩
theorem Ha {s:ByteArray} {a r:List Tm} (h:Af (⟨s,a⟩::r)=0):(Aj s=true->a=[])/\Af a=0/\Af r=0:=by
 rw[Af]at h;split at h
 ·split at h
  ·cases h
  ·rename_i h1 h2;split at h
   ·rename_i h3;refine⟨λhv=>?_,h3,h⟩;cases a with
    |nil=>rfl
    |cons x y=>simp[hv] at h2
   ·rename_i h3; exact absurd h h3
 ·cases h
