import Derived.Test.YtgbcafaibocebaaGreatDoorZLCriticalMadeOwn
namespace Go.Proofs.YtgbcafaibocebaaGreatDoor
set_option linter.all false
set_option maxRecDepth 20000
set_option maxHeartbeats 8000000
open Go.RowKit
theorem FR.of_runO:∀(n:Nat) (s:List Bd) (l:List Pr) (e:Int) (sf:List Bd),AU false n s l=some (e,sf)->e≠8->FR s l e sf
 |0,_,_,_,_,h,_=>by cases h
 |n+1,s,[],e,sf,h,_=>by
  rw[AU]at h;cases h;exact FR.done s
 |n+1,s,p::l,e,sf,h,h8=>by
  rw[AU,E8]at h;by_cases hz:2000<Ab [Ag s p.l]∨2000<Ab [Ag s p.r]
  ·unfold Bh at h;rw[Ar hz]at h;cases h;exact absurd rfl h8
  ·rw[ND (by omega) (by omega)]at h;cases a:D3 s (Ag s p.l) (Ag s p.r) with
   |go s' l'=>rw[a]at h;exact FR.step a (FR.of_runO n s' (l'++l) e sf h h8)
   |stop e'=>rw[a]at h;cases h;exact FR.stop a
theorem mG {n:Nat} {l:List Pr} {R:Int×List Bd} (h:AU false n [] l=some R) (h0:R.1=0) (he:Ah (Ax l)=0):BG R.2:=
 ((FR.of_runO n [] l R.1 R.2 h (by rw[h0]; decide)).run Ja he).1.1
theorem mH {ls:List Bd} (h:Cx ls):Ii ls:=by
 intro k hk;have key:∀(l:List Bd) (n:ByteArray),(∀d∈l,d.nm≠n)->As l n=none:=by
  intro l n;induction l with
  |nil=>intro _; rfl
  |cons d r a=>intro h;rw[As,Aj (h d (by simp))];exact a λe he=>h e (by simp[he])
 refine key _ _ λd hd=>?_;obtain⟨i,hi,rfl⟩:=Hz hd;rw[H9]at hi;rw[List.getElem_take];exact Kr.1 h i k (by omega) hk (by omega)
open Classical in
noncomputable def AE (ls:List Pr):Int×List Bd:=if h:∃r n,AU false n [] ls=some r then Classical.choose h else (0,[])
theorem N9 {ls:List Pr} (h:Ah (Ax ls)=0):∃g,AU false g [] ls=some (AE ls):=by
 obtain⟨n,r,a⟩:=QZ ls h;have hx:∃r n,AU false n [] ls=some r:=⟨r,n,a⟩;unfold AE;rw[D7 hx];exact Classical.choose_spec hx
theorem Oa (ls:List Pr) (h:Co ls=0):∃g,AU false g [] ls=some (AE ls):=N9 (Iv h).1
theorem mI (ls:List Pr) (h:Co ls=0) (h0:(AE ls).1=0):BG (AE ls).2:=by
 obtain⟨g,a⟩:=Oa ls h;exact mG a h0 (Iv h).1
theorem UM (ls:List Pr) (h:Co ls=0) (h0:(AE ls).1=0):Ii (AE ls).2:=mH (mI ls h h0).1
theorem UN {ls:List Bd} (h:ES ls) {t:Tm} (ht:Ah [t]=0):fT ls t=Ag ls t:=by
 have h1:=Le h [t] ht;rw[Bb]at h1;obtain⟨s,l⟩:=t;rw[fL]at h1;exact(List.cons.inj h1).1
