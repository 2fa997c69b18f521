import Derived.Test.YtlkeafenklamjaaGreatDoorW114
namespace Go.Proofs.YtlkeafenklamjaaGreatDoor
set_option linter.all false
set_option maxRecDepth 20000
set_option maxHeartbeats 8000000
open Go.RowKit
theorem Sa {w:World} {B T:Nat} {l r:Tm} {a1 a2:Option Addr} {c1 c2:Nat} (h:Ac w B #[.string l.name,.slice a1 l.args.length c1,.string r.name,.slice a2 r.args.length c2] T) (h1:Sl w (λ_=>True) a1 l.args) (h2:Sl w (λ_=>True) a2 r.args):QV w (λ_=>True) (.slice (some ⟨B,0,none⟩) 1 1) [⟨l,r⟩]:=by
 refine⟨some ⟨B,0,none⟩,1,rfl,by simp,Ae ⟨B,0,rfl,trivial,λi hi=>?_⟩⟩
 have e:i=0:=by simp at hi; omega
 subst e
 exact⟨a1,c1,a2,c2,h.cell 0,h.cell 1,h.cell 2,h.cell 3,h1,h2⟩
end Go.Proofs.YtlkeafenklamjaaGreatDoor
