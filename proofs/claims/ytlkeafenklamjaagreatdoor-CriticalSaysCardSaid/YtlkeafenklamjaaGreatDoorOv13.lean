import Derived.Test.YtlkeafenklamjaaGreatDoorZGCriticalSaysOwn
namespace Go.Proofs.YtlkeafenklamjaaGreatDoor
set_option linter.all false
set_option maxRecDepth 20000
set_option maxHeartbeats 8000000
open Go.RowKit
theorem FR.of_runO:∀(n:Nat) (s:List Bd) (l:List Pr) (e:Int) (sf:List Bd),AQ false n s l=some (e,sf)->e≠8->FR s l e sf
 |0,_,_,_,_,h,_=>by cases h
 |n+1,s,[],e,sf,h,_=>by
  rw[AQ]at h
  cases h
  exact FR.done s
 |n+1,s,p::l,e,sf,h,h8=>by
  rw[AQ,ES]at h
  by_cases hz:2000<Ab [Ag s p.l]∨2000<Ab [Ag s p.r]
  ·unfold Bf at h
   rw[As hz]at h
   cases h
   exact absurd rfl h8
  ·rw[MY (by omega) (by omega)]at h
   cases hf:DR s (Ag s p.l) (Ag s p.r) with
   |go s' l'=>
    rw[hf]at h
    exact FR.step hf (FR.of_runO n s' (l'++l) e sf h h8)
   |stop e'=>
    rw[hf]at h
    cases h
    exact FR.stop hf
theorem jH {n:Nat} {l:List Pr} {R:Int×List Bd} (h:AQ false n [] l=some R) (h0:R.1=0) (he:Ah (Aw l)=0):Bv R.2:=
 ((FR.of_runO n [] l R.1 R.2 h (by rw[h0]; decide)).run IB he).1.1
theorem jI {ls:List Bd} (h:Ct ls):Hp ls:=by
 intro k hk
 have key:∀(l:List Bd) (n:ByteArray),(∀d∈l,d.nm≠n)->Ar l n=none:=by
  intro l n
  induction l with
  |nil=>intro _; rfl
  |cons d r ih=>
   intro h
   rw[Ar,An (h d (by simp))]
   exact ih λe he=>h e (by simp[he])
 refine key _ _ λd hd=>?_
 obtain⟨i,hi,rfl⟩:=Hb hd
 rw[Hh]at hi
 rw[List.getElem_take]
 exact JU.1 h i k (by omega) hk (by omega)
open Classical in
noncomputable def AC (ls:List Pr):Int×List Bd:=if h:∃r n,AQ false n [] ls=some r then Classical.choose h else (0,[])
theorem Nt {ls:List Pr} (h:Ah (Aw ls)=0):∃g,AQ false g [] ls=some (AC ls):=by
 obtain⟨n,r,hr⟩:=P5 ls h
 have hx:∃r n,AQ false n [] ls=some r:=⟨r,n,hr⟩
 unfold AC
 rw[DX hx]
 exact Classical.choose_spec hx
theorem Nu (ls:List Pr) (h:Ck ls=0):∃g,AQ false g [] ls=some (AC ls):=Nt (HH h).1
theorem jJ (ls:List Pr) (h:Ck ls=0) (h0:(AC ls).1=0):Bv (AC ls).2:=by
 obtain⟨g,hg⟩:=Nu ls h
 exact jH hg h0 (HH h).1
theorem TL (ls:List Pr) (h:Ck ls=0) (h0:(AC ls).1=0):Hp (AC ls).2:=jI (jJ ls h h0).1
theorem TN {ls:List Bd} (h:EH ls) {t:Tm} (ht:Ah [t]=0):fT ls t=Ag ls t:=by
 have h1:=Ky h [t] ht
 rw[Ba]at h1
 obtain⟨s,l⟩:=t
 rw[fL]at h1
 exact(List.cons.inj h1).1
end Go.Proofs.YtlkeafenklamjaaGreatDoor
