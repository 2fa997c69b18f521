import Derived.Test.YtacmmcnnhfmepaaGreatDoorIf20
namespace Go.Proofs.YtacmmcnnhfmepaaGreatDoor
set_option linter.all false
set_option maxRecDepth 20000
set_option maxHeartbeats 8000000
open Go.RowKit
theorem UY (s:ByteArray):∀l:List ByteArray,Bz s l<=l.length
 | []=>by simp[Bz]
 |a::r=>by
  have:=UY s r;simp only[Bz,Cg];split<;>omega
theorem mH (c:List ByteArray) (hn:c.length<=2000) (l:List Tm):AW l->Bk (DT c l)/\DW (DT c l):=by
 induction l using Tm.indL with
 |h0=>intro _; rw[H4]; exact⟨by simp[Bk],by simp[DW]⟩
 |h s l r g i=>
  intro h;obtain⟨h1,h2,h3⟩:=AW.cons.1 h;have f:=g h2;have i2:=i h3;rw[Gz,FG,Kl];rcases h1 with ⟨_,h1⟩|⟨_,h1⟩
  ·have d:l=[]:=h1;subst d;have e:Ck c ⟨s,[]⟩=⟨((Bz s c:Nat):Int),[]⟩:=(by simp[Ck,GT]);rw[e];exact⟨⟨Ad rfl,by simp[Bk],i2.1⟩,⟨_,rfl,by have:=UY s c; omega⟩,by simp[DW],i2.2⟩
  ·have d:l.length=2:=h1;have e:Ck c ⟨s,l⟩=⟨0,DT c l⟩:=(by simp[Ck,GT,d]);have j:(DT c l).length=2:=by
    match l,d with
    | [a,b],_=>rw[Gz,Gz,H4]; rfl
   rw[e];exact⟨⟨Ae j,f.1,i2.1⟩,⟨0,rfl,by omega⟩,f.2,i2.2⟩
theorem mI {R a:Int×List Bd} {x:Tm} (hx:AV DR [x]) (hd:DP DR R.2) (h1:AU R.2=true->a.1=8) (h2:AU R.2=false->a=R):Ey (R.1,R.2.map (CP CN)) (BN CN x)=Cz a x:=by
 unfold Ey;rw[show(R.1,R.2.map (CP CN)).2=R.2.map (CP CN) from rfl,PI];cases b:AU R.2 with
 |true=>rw[Aq rfl];unfold Cz;rw[h1 b,Am (by decide),Aq (by decide)]
 |false=>rw[Am (by decide),h2 b];obtain⟨e1,e2⟩:=JZ Nt hd hx;unfold Cz;rw[show(R.1,R.2.map (CP CN)).2=R.2.map (CP CN) from rfl,show(R.1,R.2.map (CP CN)).1=R.1 from rfl,e1,Lt,WA Nt e2]
theorem UZ {R:Int×List Bd} {x:Tm} (hb:Gg R.2) (hx:AW [x]) (h0:(Cz R x).1=0):Bk [(Cz R x).2]/\DW [(Cz R x).2]:=by
 unfold Cz at h0 ⊢;by_cases e1:R.1=6
 ·rw[Aq e1]at h0; cases h0
 rw[Am e1]at h0 ⊢;by_cases e2:R.1≠0
 ·rw[Aq e2]at h0; exact absurd h0 e2
 rw[Am e2]at h0 ⊢;by_cases e3:2000<Ah [Af R.2 x]
 ·rw[Aq e3]at h0; cases h0
 rw[Am e3]at h0 ⊢;have a:(AR [] (Aw [Af R.2 x])).length<=2000:=by
  have h:=Ln (Aw [Af R.2 x]) [];rw[JQ]at h;simp at h;omega
 have k:=mH _ a [Af R.2 x] (Jc hb hx);rw[Gz,H4]at k;exact k
theorem mJ {t:Lm} (he:Au 0 0 [t]=0) (hc:A0 [t]=false) (hz:Ai [t]<=60):∃(g:Nat) (R a:Int×List Bd),AZ true g [] (Ay 84 t [] 0).2.1=some a/\AZ false g [] (Ay 86 t [] 0).2.1=some R/\Ey R (Ay 86 t [] 0).1=Cz a (Ay 84 t [] 0).1/\
  ((Cz a (Ay 84 t [] 0).1).1=0->Bk [(Cz a (Ay 84 t [] 0).1).2]/\DW [(Cz a (Ay 84 t [] 0).1).2]):=by
 obtain⟨g,R,a,h1,h2,h3,b⟩:=Ux (LI (p:=84) (Ad rfl) he hc hz);obtain⟨d1,d2⟩:=Wj t 0;obtain⟨m1,m2⟩:=PN Nt false g (s:=[]) (λd hd=>by cases hd) d2 h1;obtain⟨c,e⟩:=LT (p:=84) (Ad rfl) t [] 0 he hc AW.nil;refine⟨g,(R.1,R.2.map (CP CN)),a,h2,?_,?_,λh0=>UZ (Kh true g (s:=[]) (λd hd=>by cases hd) e h2) c h0⟩
 ·rw[PR];exact m1
 ·rw[PR];exact mI d1 m2 h3 b
