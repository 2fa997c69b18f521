import Derived.Test.YtgbcafaibocebaaGreatDoorW63
namespace Go.Proofs.YtgbcafaibocebaaGreatDoor
set_option linter.all false
set_option maxRecDepth 20000
set_option maxHeartbeats 8000000
open Go.RowKit
theorem FU {s:ByteArray} {x:Tm}:∀ {ls:List Bd},As ls s=some x->∃d,d∈ls/\d.nm=s/\d.t=x
 | [],h=>by cases h
 |d::r,h=>by
  rw[As]at h;split at h
  ·rename_i e;exact⟨d,by simp,e,by simpa using h⟩
  ·obtain⟨d',h1,h2,h3⟩:=FU h;exact⟨d',by simp[h1],h2,h3⟩
theorem GR {s:ByteArray} {a r:List Tm} (h:Ah (⟨s,a⟩::r)=0):(Al s=true->a=[])/\Ah a=0/\Ah r=0:=by
 rw[Ah]at h;split at h
 ·split at h
  ·cases h
  ·rename_i h1 h2;split at h
   ·rename_i h3;refine⟨λhv=>?_,h3,h⟩;cases a with
    |nil=>rfl
    |cons x y=>simp[hv] at h2
   ·rename_i h3; exact absurd h h3
 ·cases h
