import Derived.Stop.RegionWithIn
import Derived.Test.YtacmmcnnhfmepaaGreatDoorL7
namespace Go.Proofs.YtacmmcnnhfmepaaGreatDoor
set_option linter.all false
set_option maxRecDepth 9999
set_option maxHeartbeats 0
open Go.RowKit Go.Proofs.Tryz
variable {f t t0 z:Lm} {k u:Int} {l:List Lm} {y:Value} {w wr:World} {P X:Nat->Prop} {a b:Option Addr} {c d hi m:Nat} {J:World->Prop} {inn:Bool}
theorem Z7 (F B:Nat) (z:Lm) (b3:Ai [z]<=100000) (b4:Cz [z]) (b5:Dd [z]) (bq:B≠F) (t:Lm):∀(n:Nat) (v:Value) (d:Int) (w:World) (X:Nat->Prop),MV w X v t->(∀b,X b->b≠F)->n<=9223372036854775807->0<=d->d+Ai [t]<=100000->Cz [t]->Dd [t]->Ab w F #[zA n] 152->It w B F X z->
  Calls prog 126 #[zC F,v,zA d,.func (.func 127) #[] #[zC F,zC B]] w λe w'=>Fy w F (AY z d t) n e w':=by
 induction t using Lm.ind with
 |h G q l ih=>
  intro n v d w X hv bz hn aS aT ba bb hF hE;obtain⟨a,c,rfl,hs⟩:=hv;obtain⟨i0,aV,aW,aX,aY⟩:=Dw Tryz.infoLam;have IH:=Aa ih;have HS:=Aa hs;have a8:=Aa bz;have HF:=Aa hF;have HE:=Aa hE;have hl:=hs.1;have hz:Ai [(⟨G,q,l⟩:Lm)]=1+Ai l:=by simp[Ai]
  rw[hz]at aT;rw[Im]at ba;rw[IZ]at bb;obtain⟨⟨aZ,aM⟩,ba,_⟩:=ba;obtain⟨br,bb,_⟩:=bb;have bs:=Aa ba;have bt:=Aa bb;have aA:=Jj l;have aU:F<w.heap.size:=hF.lt;have f0:∀o,(w.alloc o).cell? (zD F 0)=some (zA n):=λo=>(HF.o.alloc o).cell 0;have ff:∀o,(w.alloc o).frozen? (zD F 0)=false:=λo=>(HF.o.alloc o).frozen 0;have bu:∀o o',((w.alloc o).alloc o').cell? (zD F 0)=some (zA n):=λo o'=>((HF.o.alloc o).alloc o').cell 0;have bw:∀o o',((w.alloc o).alloc o').frozen? (zD F 0)=false:=λo o'=>((HF.o.alloc o).alloc o').frozen 0;have b8:IntKind.i64.wrap ((n:Int)-1)=(n:Int)-1:=by rw[Ck]; omega
  clear ih hs hz ba bb bz hF hE;by_cases k1:G=1;case pos=>
   subst k1;have bx:l=[]:=br rfl;by_cases A:q<d
   ·obtain⟨L,Z⟩:∃L,L=Dl z d l:=⟨_,rfl⟩;have HT:Hid (AY z d ⟨1,q,l⟩=⟨1,q,L⟩):=Aa (by unfold AY;rw[Z,bx];simp[A,Dl]);have b6:¬(d<=q):=(by omega);clear bx br;have aB:Hid (L.length=l.length):=Aa (by rw[Z,EN];simp);have bc:Hid (∀k (h:k<l.length) (h':k<L.length),L[k]=AY z d l[k]):=λk h h'=>by subst Z; simp[EN]
    have bd:Ai [(⟨1,q,L⟩:Lm)]=1+Ai L:=(by simp[Ai]);clear Z;go_in;go_wp2_with fail;have E3:Hid (GS w F (w.heap.size+1+1) 1 q zB #[zA ((n:Int)-1)] ((((w.setCell (zD F 0) (zA ((n:Int)-1))).alloc (zp #[zA 1,zA q,.slice a l.length c] 24)).alloc zi).alloc (zp #[zA 1,zA q,zB] 24))):=by
     refine⟨((((Ex.refl F w).set 0 _).alloc _).alloc _).alloc _,?_,?_,(((HF.o.set 0 _).alloc _).alloc _).alloc _,by simp[World.setCell]⟩
     ·have h:=(Ab.new ((w.setCell (zD F 0) (zA ((n:Int)-1))).alloc (zp #[zA 1,zA q,.slice a l.length c] 24)) zJ 24).alloc (zp #[zA 1,zA q,zB] 24);simpa [World.setCell] using h
     ·have h:=Ab.new (((w.setCell (zD F 0) (zA ((n:Int)-1))).alloc (zp #[zA 1,zA q,.slice a l.length c] 24)).alloc zi) #[zA 1,zA q,zB] 24;simpa [World.setCell] using h
    generalize ((((w.setCell (zD F 0) (zA ((n:Int)-1))).alloc (zp #[zA 1,zA q,.slice a l.length c] 24)).alloc zi).alloc (zp #[zA 1,zA q,zB] 24))=w3 at *;generalize bf:w.heap.size+1+1=O at *;have hO:w.heap.size+2<=O:=(by omega);clear bf f0 ff bu bw;go_loopw [46] (λi wr=>JG w F O 1 q L n i wr) (λi wr=>l.length-(intOf i).toNat);case atStart=>
     refine⟨0,zB,Bp _,rfl,?_⟩;by_cases bg:n=0
     ·subst bg;exact Ae ⟨by omega,E3.o,none,0,0,rfl⟩
     ·refine Ad ⟨n-1,[],by simp[Ai]; omega,?_,Cg.start _ _ _ _⟩;rw[show((n-1:Nat):Int)=(n:Int)-1 by omega];exact E3.o
    case round=>
     obtain⟨k,u,hk,rfl,ao⟩:=hrel;have aN:=Aa hk;rw[aB.o]at hk;rcases ao with ⟨m,xs,hm,N,aq⟩|⟨bh,N,a9,P,c9,rfl⟩
     ·have f:=Aa N;have D:=Aa aq;have a6:=Aa hm;clear N aq;by_cases A:k<l.length
      ·have I:k<L.length:=by rw[aB.o]; exact A
       obtain⟨b,o,y,c',rfl,d0,bj,d1,hx⟩:=(HS.o.ex f.o.1 a8.o).get (Ac _ _) (λ_ _ h=>h) k A;obtain⟨av,cv,ev,bk⟩:=hx;simp at ev;obtain⟨rfl,rfl⟩:=ev;have aC:m<=9223372036854775807:=(by omega);have J:Hid (O≠F):=Aa (by omega);have ar:Hid (F<O+1):=Aa (by omega);have aO:(L.take k).length=k:=by simp; omega
       have aP:k<=1000000:=(by omega);have a7:Hid ((L.take k).length+1<=maxLen/\((L.take k).length+1)*40<=140737488355328):=Aa (by rw[aO];exact⟨by unfold maxLen; omega,by omega⟩);clear aO;have aD:Hid (L[k]=AY z d l[k]):=bc.o k A I;have au:Ai [l[k]]<=Ai l:=(by have h1:=Df l k A;have h2:=DJ l (k+1);omega);have R:Hid (Calls prog 126 #[zC F,.agg (zE l[k] y c'),zA d,.func (.func 127) #[] #[zC F,zC B]] (wr.alloc (zm l[k] y c')).drew λe C=>Fy (wr.alloc (zm l[k] y c')).drew F (AY z d l[k]) m e C):=(IH.o l[k] (Bv A) m _ d _ X ⟨y,c',rfl,((bk.later ((Ac _ _).alloc (Af _) (zm l[k] y c'))).later ((Ac _ _).drew))⟩ a8.o aC (by omega) (by omega) (Cz.at k A bs.o) (Dd.at k A bt.o) (by exact((f.o.2.2.2.1.alloc _).drewN 1)) (HE.o.ex f.o.1 bq a8.o |>.later ((Ac _ _).alloc (Af _) _) |>.later ((Ac _ _).drew)));have f0:∀o,(wr.alloc o).cell? (zD F 0)=some (zA m):=λo=>(f.o.2.2.2.1.alloc o).cell 0;have o1:∀o,(wr.alloc o).cell? (zD O 2)=some u:=λo=>(f.o.2.2.1.alloc o).cell 2;have b0:¬(m:Int)<0:=(by omega);rw[<-aD.o]at R;by_cases hle:Ai [L[k]]<=m
       ·have aE:Hid (Calls prog 126 #[zC F,.agg (zE l[k] y c'),zA d,.func (.func 127) #[] #[zC F,zC B]] (wr.alloc (zm l[k] y c')).drew λe C=>∃s c1,e=.returned (.agg (zE L[k] s c1))/\Ab C F #[zA ((m:Int)-Ai [L[k]])] 152/\Ex F wr C/\Ap C (λb=>wr.heap.size<=b) s L[k].subs):=R.o.mono λe C hp=>by
         obtain⟨s1,s2,s,l1,c1,m1,h1,h2,h3,h4,_⟩:=hp;obtain⟨rfl,rfl,rfl,rfl,h5⟩:=h4 hle;exact⟨s,c1,h1,h2,(((Ex.refl F wr).alloc _).drew).trans h3,h5.mono λb hb _=>by simp at hb; omega⟩
        clear R;have aF:=Aa hle;have aG:=Aa I;clear hle aD au aZ aM aS aT aA aP aC;go_wp2_with fail;go_region_law (first
         | (go_simp; go_at_call 126; refine aE.o.mono ?_; rintro e w1 ⟨s,c1,rfl,M,r,aQ⟩; have aH:∀o,(w1.alloc o).cell? (zD O 2)=some u:=λo=>((Ab.ex f.o.2.2.1 r J.o).alloc o).cell 2; have aI:w1.cell? (zD O 2)=some u:=(Ab.ex f.o.2.2.1 r J.o).cell 2)
         | (refine step_append_lies _ rfl _ _ 22 rfl (O+1) 24 i0 _ 3 40 underlying22 aV aW aX aY rfl (by decide) u (L.take k).length xs rfl (by exact(Cg.ex (B:=F) D.o r ar.o (λh=>h)).own.alloc _) (zD w1.heap.size 0) 1 1 [zA L[k].kind,zA L[k].idx,.slice s L[k].subs.length c1] rfl rfl (Fw _ _ _ _ _) (λx hx=>by simp at hx; rcases hx with rfl|rfl|rfl<;>rfl) (by decide) a7.o.1 a7.o.2 (by have:=r.size; have:=f.o.2.2.2.2; simp; omega) _ rfl ?_; intro g cap w3 ad E ah ai; have H:=Aa (((Ab.ex f.o.2.2.1 r J.o).alloc _).grown E (D.o.ne (DC _))); have aJ:w3.cell? (zD O 2)=some u:=H.o.cell 2; have aK:=H.o.frozen 2))
        all_goals
         have HK:=Aa (FU (v:=.slice (some (zD g 0)) ((L.take k).length+1) cap) aU hO f.o (λj hj=>(D.o.own.lt j hj).1) r M E);have bl:=Aa (JE (t:=L[k]) (by omega) f.o.2.2.2.2 D.o r ⟨s,c1,rfl,aQ⟩ ad E ah);clear ad E ah aH aI aJ aK H M r aQ ai;go_wp2_with fail;go_roundw
         case rel=>
          have aL:(L.take k).length=k:=by simp; omega
          have ak:min k L.length=k:=Ge (by have:=aN.o; omega);simp only[ak];have h1:=HK.o;have h2:=bl.o;have aR:=a6.o;have hle:=aF.o;simp only[aL] at h1 h2;obtain⟨m',bm⟩:∃m':Nat,(m':Int)=(m:Int)-Ai [L[k]]:=⟨m-Ai [L[k]],by omega⟩;refine⟨k+1,.slice (some (zD g 0)) (k+1) cap,by omega,by go_num,Ad ⟨m',xs++[zA L[k].kind,zA L[k].idx,.slice s L[k].subs.length c1],by rw[Df L k I]; omega,?_,?_⟩⟩
          ·rw[bm];exact h1
          ·rw[CI I];exact h2
         case measure=>simp[intOf]; omega
       ·have aE:Hid (Calls prog 126 #[zC F,.agg (zE l[k] y c'),zA d,.func (.func 127) #[] #[zC F,zC B]] (wr.alloc (zm l[k] y c')).drew λe C=>∃s1 s2 s l1 c1,e=.returned (.agg #[zA s1,zA s2,.slice s l1 c1])/\Ab C F #[zA (-1)] 152/\Ex F wr C):=R.o.mono λe C hp=>by
         obtain⟨s1,s2,s,l1,c1,m1,h1,h2,h3,_,h4⟩:=hp;obtain rfl:=h4 (by omega);exact⟨s1,s2,s,l1,c1,h1,h2,(((Ex.refl F wr).alloc _).drew).trans h3⟩
        clear R;have aF:=Aa hle;have aG:=Aa I;clear hle aD au aZ aM aS aT aA aP aC;go_wp2_with fail;go_region_law (first
         | (go_simp; go_at_call 126; refine aE.o.mono ?_; rintro e w1 ⟨s1,s2,s,l1,c1,rfl,M,r⟩; have aH:∀o,(w1.alloc o).cell? (zD O 2)=some u:=λo=>((Ab.ex f.o.2.2.1 r J.o).alloc o).cell 2; have aI:w1.cell? (zD O 2)=some u:=(Ab.ex f.o.2.2.1 r J.o).cell 2)
         | (refine step_append_lies _ rfl _ _ 22 rfl (O+1) 24 i0 _ 3 40 underlying22 aV aW aX aY rfl (by decide) u (L.take k).length xs rfl (by exact(Cg.ex (B:=F) D.o r ar.o (λh=>h)).own.alloc _) (zD w1.heap.size 0) 1 1 [zA s1,zA s2,.slice s l1 c1] rfl rfl (Fw _ _ _ _ _) (λx hx=>by simp at hx; rcases hx with rfl|rfl|rfl<;>rfl) (by decide) a7.o.1 a7.o.2 (by have:=r.size; have:=f.o.2.2.2.2; simp; omega) _ rfl ?_; intro g cap w3 ad E ah ai; have H:=Aa (((Ab.ex f.o.2.2.1 r J.o).alloc _).grown E (D.o.ne (DC _))); have aJ:w3.cell? (zD O 2)=some u:=H.o.cell 2; have aK:=H.o.frozen 2))
        all_goals
         have HK:=Aa (FU (v:=.slice (some (zD g 0)) ((L.take k).length+1) cap) aU hO f.o (λj hj=>(D.o.own.lt j hj).1) r M E);clear ad E ah aH aI aJ aK H M r ai;go_wp2_with fail;go_roundw
         case rel=>
          have aL:(L.take k).length=k:=by simp; omega
          have ak:min k L.length=k:=Ge (by have:=aN.o; omega);simp only[ak];have h0:=HK.o;have aR:=a6.o;have hle:=aF.o;simp only[aL] at h0;refine⟨k+1,.slice (some (zD g 0)) (k+1) cap,by omega,by go_num,Ae ⟨?_,h0,_,_,_,rfl⟩⟩;have h1:=Df L k I;have h2:=DJ L (k+1);omega
         case measure=>simp[intOf]; omega
      ·have bn:L.take k=L:=Bz (by rw[aB.o]; omega);rw[bn]at D a6;obtain⟨a9,c9,bo,ax⟩:=D.o.sl;subst bo;have S9:=Aa ax;clear ax;have T:=f.o.2.1.c0;have U:=f.o.2.1.c1;have V:=f.o.2.1.c2;have rf:=f.o.2.1.frozen;have Y:w.heap.size+1<wr.heap.size:=f.o.2.1.lt;have o0:=f.o.2.2.1.c0;have o1:=f.o.2.2.1.c1;have o2:=f.o.2.2.1.c2;go_wp2_with fail;refine Ao (v:=.agg #[zA 1,zA q,.slice a9 L.length c9]) (by simp[results,results126,go_sem,AL,AE,T,U,V,Y]) rfl ?_;have aR:=a6.o;rw[HT.o];refine⟨1,q,a9,L.length,c9,m,rfl,((f.o.2.2.2.1.setOther _ _ (by omega)).setOther _ _ (by omega)).setOther _ _ (by omega),((f.o.1.setNew (by omega) _ _).setNew (by omega) _ _).setNew (by omega) _ _,λh=>⟨by rw[bd]; omega,rfl,rfl,rfl,(S9.o.kept λb hb=>?_).mono λb hb _=>?_⟩,λh=>by omega⟩
       ·have bp:O+1<=b:=hb.elim False.elim id;rw[Ak _ _ _ _ (by simp; omega),Ak _ _ _ _ (by simp; omega),Ak _ _ _ _ (by simp; omega)]
       ·have bp:O+1<=b:=hb.elim False.elim id;omega
     ·have f:=Aa N;clear N;have f0:∀o,(wr.alloc o).cell? (zD F 0)=some (zA (-1)):=λo=>(f.o.2.2.2.1.alloc o).cell 0;have T:=f.o.2.1.c0;have U:=f.o.2.1.c1;have V:=f.o.2.1.c2;have rf:=f.o.2.1.frozen;have Y:w.heap.size+1<wr.heap.size:=f.o.2.1.lt;by_cases A:k<l.length
      ·obtain⟨b,o,y,c',rfl,d0,bj,d1,hx⟩:=(HS.o.ex f.o.1 a8.o).get (Ac _ _) (λ_ _ h=>h) k A;clear hx;have o0:∀o,(wr.alloc o).cell? (zD O 0)=some (zA 1):=λo=>(f.o.2.2.1.alloc o).cell 0;have o1:∀o,(wr.alloc o).cell? (zD O 1)=some (zA q):=λo=>(f.o.2.2.1.alloc o).cell 1;have o2:∀o,(wr.alloc o).cell? (zD O 2)=some (.slice a9 P c9):=λo=>(f.o.2.2.1.alloc o).cell 2;go_wp2_with fail;refine Ao (v:=.agg #[zA 1,zA q,.slice a9 P c9]) (by simp[results,results126,go_sem,AL,AE,T,U,V,Y,EI]) rfl ?_;rw[HT.o];exact⟨1,q,a9,P,c9,-1,rfl,(((f.o.2.2.2.1.setOther _ _ (by omega)).setOther _ _ (by omega)).setOther _ _ (by omega)).alloc _,(((f.o.1.setNew (by omega) _ _).setNew (by omega) _ _).setNew (by omega) _ _).alloc _,λh=>by omega,λ_=>rfl⟩
      ·have o0:=f.o.2.2.1.c0;have o1:=f.o.2.2.1.c1;have o2:=f.o.2.2.1.c2;go_wp2_with fail;refine Ao (v:=.agg #[zA 1,zA q,.slice a9 P c9]) (by simp[results,results126,go_sem,AL,AE,T,U,V,Y]) rfl ?_;rw[HT.o];exact⟨1,q,a9,P,c9,-1,rfl,((f.o.2.2.2.1.setOther _ _ (by omega)).setOther _ _ (by omega)).setOther _ _ (by omega),((f.o.1.setNew (by omega) _ _).setNew (by omega) _ _).setNew (by omega) _ _,λh=>by omega,λ_=>rfl⟩
   ·have b9:d<=q:=(by omega);have HT:Hid (AY z d ⟨1,q,l⟩=Ja z q d):=Aa (by unfold AY Ja;simp[A]);have HC:=Aa (Z4 F B z q d n ((w.alloc (zp #[zA 1,zA q,.slice a l.length c] 24)).alloc zi) X hn (by omega) (by omega) aS (by omega) b3 b4 b5 ((HF.o.alloc _).alloc _) bq a8.o ((HE.o.later ((Ac _ _).alloc (Af _) _)).later ((Ac _ _).alloc (Af _) _)));clear bx br;go_in;go_wp2_with fail;refine HC.o.mono ?_;rintro e w1 ⟨k',x',y,l',c',m,rfl,M,aM,b1,b2⟩;have R1:Hid (Ab w1 (w.heap.size+1) zJ 24):=(by have h:=(Ab.new (w.alloc (zp #[zA 1,zA q,.slice a l.length c] 24)) zJ 24).ex aM (by simp; omega);rw[Ca]at h;exact h);have HX:=Aa ((((Ex.refl F w).alloc (zp #[zA 1,zA q,.slice a l.length c] 24)).alloc zi).trans aM);have b7:=Aa M;have HY:=Aa b1;have HN:=Aa b2;clear M aM b1 b2;have T:=R1.o.c0;have U:=R1.o.c1;have V:=R1.o.c2;have rf:=R1.o.frozen;have Y:=R1.o.lt;go_wp2_with fail;refine Ao (v:=.agg #[zA k',zA x',.slice y l' c']) (by simp[results,results126,go_sem,AL,AE,T,U,V,Y]) rfl ?_;rw[HT.o];exact JD (W:=(w.alloc (zp #[zA 1,zA q,.slice a l.length c] 24)).alloc zi) aU (by omega) (by simp) b7.o HX.o HY.o HN.o
  case neg=>
   have e1:(G==1)=false:=(by simpa using k1);clear br;by_cases k2:G=2;case pos=>
    subst k2;obtain⟨L,Z⟩:∃L,L=Dl z (d+1) l:=⟨_,rfl⟩;have bA:IntKind.i64.wrap (d+1)=d+1:=by rw[Ck]; omega
    have HT:Hid (AY z d ⟨2,q,l⟩=⟨2,q,L⟩):=Aa (by unfold AY;rw[Z];simp[AR]);have aB:Hid (L.length=l.length):=Aa (by rw[Z,EN];simp);have bc:Hid (∀k (h:k<l.length) (h':k<L.length),L[k]=AY z (d+1) l[k]):=λk h h'=>by subst Z; simp[EN]
    have bd:Ai [(⟨2,q,L⟩:Lm)]=1+Ai L:=(by simp[Ai]);clear Z;go_in;go_wp2_with fail;have E3:Hid (GS w F (w.heap.size+1+1) 2 q zB #[zA ((n:Int)-1)] ((((w.setCell (zD F 0) (zA ((n:Int)-1))).alloc (zp #[zA 2,zA q,.slice a l.length c] 24)).alloc zi).alloc (zp #[zA 2,zA q,zB] 24))):=by
     refine⟨((((Ex.refl F w).set 0 _).alloc _).alloc _).alloc _,?_,?_,(((HF.o.set 0 _).alloc _).alloc _).alloc _,by simp[World.setCell]⟩
     ·have h:=(Ab.new ((w.setCell (zD F 0) (zA ((n:Int)-1))).alloc (zp #[zA 2,zA q,.slice a l.length c] 24)) zJ 24).alloc (zp #[zA 2,zA q,zB] 24);simpa [World.setCell] using h
     ·have h:=Ab.new (((w.setCell (zD F 0) (zA ((n:Int)-1))).alloc (zp #[zA 2,zA q,.slice a l.length c] 24)).alloc zi) #[zA 2,zA q,zB] 24;simpa [World.setCell] using h
    generalize ((((w.setCell (zD F 0) (zA ((n:Int)-1))).alloc (zp #[zA 2,zA q,.slice a l.length c] 24)).alloc zi).alloc (zp #[zA 2,zA q,zB] 24))=w3 at *;generalize bf:w.heap.size+1+1=O at *;have hO:w.heap.size+2<=O:=(by omega);clear bf f0 ff bu bw;go_loopw [46] (λi wr=>JG w F O 2 q L n i wr) (λi wr=>l.length-(intOf i).toNat);case atStart=>
     refine⟨0,zB,Bp _,rfl,?_⟩;by_cases bg:n=0
     ·subst bg;exact Ae ⟨by omega,E3.o,none,0,0,rfl⟩
     ·refine Ad ⟨n-1,[],by simp[Ai]; omega,?_,Cg.start _ _ _ _⟩;rw[show((n-1:Nat):Int)=(n:Int)-1 by omega];exact E3.o
    case round=>
     obtain⟨k,u,hk,rfl,ao⟩:=hrel;have aN:=Aa hk;rw[aB.o]at hk;rcases ao with ⟨m,xs,hm,N,aq⟩|⟨bh,N,a9,P,c9,rfl⟩
     ·have f:=Aa N;have D:=Aa aq;have a6:=Aa hm;clear N aq;by_cases A:k<l.length
      ·have I:k<L.length:=by rw[aB.o]; exact A
       obtain⟨b,o,y,c',rfl,d0,bj,d1,hx⟩:=(HS.o.ex f.o.1 a8.o).get (Ac _ _) (λ_ _ h=>h) k A;obtain⟨av,cv,ev,bk⟩:=hx;simp at ev;obtain⟨rfl,rfl⟩:=ev;have aC:m<=9223372036854775807:=(by omega);have J:Hid (O≠F):=Aa (by omega);have ar:Hid (F<O+1):=Aa (by omega);have aO:(L.take k).length=k:=by simp; omega
       have aP:k<=1000000:=(by omega);have a7:Hid ((L.take k).length+1<=maxLen/\((L.take k).length+1)*40<=140737488355328):=Aa (by rw[aO];exact⟨by unfold maxLen; omega,by omega⟩);clear aO;have aD:Hid (L[k]=AY z (d+1) l[k]):=bc.o k A I;have au:Ai [l[k]]<=Ai l:=(by have h1:=Df l k A;have h2:=DJ l (k+1);omega);have R:Hid (Calls prog 126 #[zC F,.agg (zE l[k] y c'),zA (d+1),.func (.func 127) #[] #[zC F,zC B]] (wr.alloc (zm l[k] y c')).drew λe C=>Fy (wr.alloc (zm l[k] y c')).drew F (AY z (d+1) l[k]) m e C):=(IH.o l[k] (Bv A) m _ (d+1) _ X ⟨y,c',rfl,((bk.later ((Ac _ _).alloc (Af _) (zm l[k] y c'))).later ((Ac _ _).drew))⟩ a8.o aC (by omega) (by omega) (Cz.at k A bs.o) (Dd.at k A bt.o) (by exact((f.o.2.2.2.1.alloc _).drewN 1)) (HE.o.ex f.o.1 bq a8.o |>.later ((Ac _ _).alloc (Af _) _) |>.later ((Ac _ _).drew)));have f0:∀o,(wr.alloc o).cell? (zD F 0)=some (zA m):=λo=>(f.o.2.2.2.1.alloc o).cell 0;have o1:∀o,(wr.alloc o).cell? (zD O 2)=some u:=λo=>(f.o.2.2.1.alloc o).cell 2;have b0:¬(m:Int)<0:=(by omega);rw[<-aD.o]at R;by_cases hle:Ai [L[k]]<=m
       ·have aE:Hid (Calls prog 126 #[zC F,.agg (zE l[k] y c'),zA (d+1),.func (.func 127) #[] #[zC F,zC B]] (wr.alloc (zm l[k] y c')).drew λe C=>∃s c1,e=.returned (.agg (zE L[k] s c1))/\Ab C F #[zA ((m:Int)-Ai [L[k]])] 152/\Ex F wr C/\Ap C (λb=>wr.heap.size<=b) s L[k].subs):=R.o.mono λe C hp=>by
         obtain⟨s1,s2,s,l1,c1,m1,h1,h2,h3,h4,_⟩:=hp;obtain⟨rfl,rfl,rfl,rfl,h5⟩:=h4 hle;exact⟨s,c1,h1,h2,(((Ex.refl F wr).alloc _).drew).trans h3,h5.mono λb hb _=>by simp at hb; omega⟩
        clear R;have aF:=Aa hle;have aG:=Aa I;clear hle aD au aZ aM aS aT aA aP aC;go_wp2_with fail;go_region_law (first
         | (go_simp; go_at_call 126; refine aE.o.mono ?_; rintro e w1 ⟨s,c1,rfl,M,r,aQ⟩; have aH:∀o,(w1.alloc o).cell? (zD O 2)=some u:=λo=>((Ab.ex f.o.2.2.1 r J.o).alloc o).cell 2; have aI:w1.cell? (zD O 2)=some u:=(Ab.ex f.o.2.2.1 r J.o).cell 2)
         | (refine step_append_lies _ rfl _ _ 22 rfl (O+1) 24 i0 _ 3 40 underlying22 aV aW aX aY rfl (by decide) u (L.take k).length xs rfl (by exact(Cg.ex (B:=F) D.o r ar.o (λh=>h)).own.alloc _) (zD w1.heap.size 0) 1 1 [zA L[k].kind,zA L[k].idx,.slice s L[k].subs.length c1] rfl rfl (Fw _ _ _ _ _) (λx hx=>by simp at hx; rcases hx with rfl|rfl|rfl<;>rfl) (by decide) a7.o.1 a7.o.2 (by have:=r.size; have:=f.o.2.2.2.2; simp; omega) _ rfl ?_; intro g cap w3 ad E ah ai; have H:=Aa (((Ab.ex f.o.2.2.1 r J.o).alloc _).grown E (D.o.ne (DC _))); have aJ:w3.cell? (zD O 2)=some u:=H.o.cell 2; have aK:=H.o.frozen 2))
        all_goals
         have HK:=Aa (FU (v:=.slice (some (zD g 0)) ((L.take k).length+1) cap) aU hO f.o (λj hj=>(D.o.own.lt j hj).1) r M E);have bl:=Aa (JE (t:=L[k]) (by omega) f.o.2.2.2.2 D.o r ⟨s,c1,rfl,aQ⟩ ad E ah);clear ad E ah aH aI aJ aK H M r aQ ai;go_wp2_with fail;go_roundw
         case rel=>
          have aL:(L.take k).length=k:=by simp; omega
          have ak:min k L.length=k:=Ge (by have:=aN.o; omega);simp only[ak];have h1:=HK.o;have h2:=bl.o;have aR:=a6.o;have hle:=aF.o;simp only[aL] at h1 h2;obtain⟨m',bm⟩:∃m':Nat,(m':Int)=(m:Int)-Ai [L[k]]:=⟨m-Ai [L[k]],by omega⟩;refine⟨k+1,.slice (some (zD g 0)) (k+1) cap,by omega,by go_num,Ad ⟨m',xs++[zA L[k].kind,zA L[k].idx,.slice s L[k].subs.length c1],by rw[Df L k I]; omega,?_,?_⟩⟩
          ·rw[bm];exact h1
          ·rw[CI I];exact h2
         case measure=>simp[intOf]; omega
       ·have aE:Hid (Calls prog 126 #[zC F,.agg (zE l[k] y c'),zA (d+1),.func (.func 127) #[] #[zC F,zC B]] (wr.alloc (zm l[k] y c')).drew λe C=>∃s1 s2 s l1 c1,e=.returned (.agg #[zA s1,zA s2,.slice s l1 c1])/\Ab C F #[zA (-1)] 152/\Ex F wr C):=R.o.mono λe C hp=>by
         obtain⟨s1,s2,s,l1,c1,m1,h1,h2,h3,_,h4⟩:=hp;obtain rfl:=h4 (by omega);exact⟨s1,s2,s,l1,c1,h1,h2,(((Ex.refl F wr).alloc _).drew).trans h3⟩
        clear R;have aF:=Aa hle;have aG:=Aa I;clear hle aD au aZ aM aS aT aA aP aC;go_wp2_with fail;go_region_law (first
         | (go_simp; go_at_call 126; refine aE.o.mono ?_; rintro e w1 ⟨s1,s2,s,l1,c1,rfl,M,r⟩; have aH:∀o,(w1.alloc o).cell? (zD O 2)=some u:=λo=>((Ab.ex f.o.2.2.1 r J.o).alloc o).cell 2; have aI:w1.cell? (zD O 2)=some u:=(Ab.ex f.o.2.2.1 r J.o).cell 2)
         | (refine step_append_lies _ rfl _ _ 22 rfl (O+1) 24 i0 _ 3 40 underlying22 aV aW aX aY rfl (by decide) u (L.take k).length xs rfl (by exact(Cg.ex (B:=F) D.o r ar.o (λh=>h)).own.alloc _) (zD w1.heap.size 0) 1 1 [zA s1,zA s2,.slice s l1 c1] rfl rfl (Fw _ _ _ _ _) (λx hx=>by simp at hx; rcases hx with rfl|rfl|rfl<;>rfl) (by decide) a7.o.1 a7.o.2 (by have:=r.size; have:=f.o.2.2.2.2; simp; omega) _ rfl ?_; intro g cap w3 ad E ah ai; have H:=Aa (((Ab.ex f.o.2.2.1 r J.o).alloc _).grown E (D.o.ne (DC _))); have aJ:w3.cell? (zD O 2)=some u:=H.o.cell 2; have aK:=H.o.frozen 2))
        all_goals
         have HK:=Aa (FU (v:=.slice (some (zD g 0)) ((L.take k).length+1) cap) aU hO f.o (λj hj=>(D.o.own.lt j hj).1) r M E);clear ad E ah aH aI aJ aK H M r ai;go_wp2_with fail;go_roundw
         case rel=>
          have aL:(L.take k).length=k:=by simp; omega
          have ak:min k L.length=k:=Ge (by have:=aN.o; omega);simp only[ak];have h0:=HK.o;have aR:=a6.o;have hle:=aF.o;simp only[aL] at h0;refine⟨k+1,.slice (some (zD g 0)) (k+1) cap,by omega,by go_num,Ae ⟨?_,h0,_,_,_,rfl⟩⟩;have h1:=Df L k I;have h2:=DJ L (k+1);omega
         case measure=>simp[intOf]; omega
      ·have bn:L.take k=L:=Bz (by rw[aB.o]; omega);rw[bn]at D a6;obtain⟨a9,c9,bo,ax⟩:=D.o.sl;subst bo;have S9:=Aa ax;clear ax;have T:=f.o.2.1.c0;have U:=f.o.2.1.c1;have V:=f.o.2.1.c2;have rf:=f.o.2.1.frozen;have Y:w.heap.size+1<wr.heap.size:=f.o.2.1.lt;have o0:=f.o.2.2.1.c0;have o1:=f.o.2.2.1.c1;have o2:=f.o.2.2.1.c2;go_wp2_with fail;refine Ao (v:=.agg #[zA 2,zA q,.slice a9 L.length c9]) (by simp[results,results126,go_sem,AL,AE,T,U,V,Y]) rfl ?_;have aR:=a6.o;rw[HT.o];refine⟨2,q,a9,L.length,c9,m,rfl,((f.o.2.2.2.1.setOther _ _ (by omega)).setOther _ _ (by omega)).setOther _ _ (by omega),((f.o.1.setNew (by omega) _ _).setNew (by omega) _ _).setNew (by omega) _ _,λh=>⟨by rw[bd]; omega,rfl,rfl,rfl,(S9.o.kept λb hb=>?_).mono λb hb _=>?_⟩,λh=>by omega⟩
       ·have bp:O+1<=b:=hb.elim False.elim id;rw[Ak _ _ _ _ (by simp; omega),Ak _ _ _ _ (by simp; omega),Ak _ _ _ _ (by simp; omega)]
       ·have bp:O+1<=b:=hb.elim False.elim id;omega
     ·have f:=Aa N;clear N;have f0:∀o,(wr.alloc o).cell? (zD F 0)=some (zA (-1)):=λo=>(f.o.2.2.2.1.alloc o).cell 0;have T:=f.o.2.1.c0;have U:=f.o.2.1.c1;have V:=f.o.2.1.c2;have rf:=f.o.2.1.frozen;have Y:w.heap.size+1<wr.heap.size:=f.o.2.1.lt;by_cases A:k<l.length
      ·obtain⟨b,o,y,c',rfl,d0,bj,d1,hx⟩:=(HS.o.ex f.o.1 a8.o).get (Ac _ _) (λ_ _ h=>h) k A;clear hx;have o0:∀o,(wr.alloc o).cell? (zD O 0)=some (zA 2):=λo=>(f.o.2.2.1.alloc o).cell 0;have o1:∀o,(wr.alloc o).cell? (zD O 1)=some (zA q):=λo=>(f.o.2.2.1.alloc o).cell 1;have o2:∀o,(wr.alloc o).cell? (zD O 2)=some (.slice a9 P c9):=λo=>(f.o.2.2.1.alloc o).cell 2;go_wp2_with fail;refine Ao (v:=.agg #[zA 2,zA q,.slice a9 P c9]) (by simp[results,results126,go_sem,AL,AE,T,U,V,Y,EI]) rfl ?_;rw[HT.o];exact⟨2,q,a9,P,c9,-1,rfl,(((f.o.2.2.2.1.setOther _ _ (by omega)).setOther _ _ (by omega)).setOther _ _ (by omega)).alloc _,(((f.o.1.setNew (by omega) _ _).setNew (by omega) _ _).setNew (by omega) _ _).alloc _,λh=>by omega,λ_=>rfl⟩
      ·have o0:=f.o.2.2.1.c0;have o1:=f.o.2.2.1.c1;have o2:=f.o.2.2.1.c2;go_wp2_with fail;refine Ao (v:=.agg #[zA 2,zA q,.slice a9 P c9]) (by simp[results,results126,go_sem,AL,AE,T,U,V,Y]) rfl ?_;rw[HT.o];exact⟨2,q,a9,P,c9,-1,rfl,((f.o.2.2.2.1.setOther _ _ (by omega)).setOther _ _ (by omega)).setOther _ _ (by omega),((f.o.1.setNew (by omega) _ _).setNew (by omega) _ _).setNew (by omega) _ _,λh=>by omega,λ_=>rfl⟩
   case neg=>
    have e2:(G==2)=false:=(by simpa using k2);obtain⟨L,Z⟩:∃L,L=Dl z d l:=⟨_,rfl⟩;have HT:Hid (AY z d ⟨G,q,l⟩=⟨G,q,L⟩):=Aa (by unfold AY;rw[Z];simp[AR,k1,k2]);have aB:Hid (L.length=l.length):=Aa (by rw[Z,EN];simp);have bc:Hid (∀k (h:k<l.length) (h':k<L.length),L[k]=AY z d l[k]):=λk h h'=>by subst Z; simp[EN]
    have bd:Ai [(⟨G,q,L⟩:Lm)]=1+Ai L:=(by simp[Ai]);clear Z;go_in;go_wp2_with fail;have E3:Hid (GS w F (w.heap.size+1+1) G q zB #[zA ((n:Int)-1)] ((((w.setCell (zD F 0) (zA ((n:Int)-1))).alloc (zp #[zA G,zA q,.slice a l.length c] 24)).alloc zi).alloc (zp #[zA G,zA q,zB] 24))):=by
     refine⟨((((Ex.refl F w).set 0 _).alloc _).alloc _).alloc _,?_,?_,(((HF.o.set 0 _).alloc _).alloc _).alloc _,by simp[World.setCell]⟩
     ·have h:=(Ab.new ((w.setCell (zD F 0) (zA ((n:Int)-1))).alloc (zp #[zA G,zA q,.slice a l.length c] 24)) zJ 24).alloc (zp #[zA G,zA q,zB] 24);simpa [World.setCell] using h
     ·have h:=Ab.new (((w.setCell (zD F 0) (zA ((n:Int)-1))).alloc (zp #[zA G,zA q,.slice a l.length c] 24)).alloc zi) #[zA G,zA q,zB] 24;simpa [World.setCell] using h
    generalize ((((w.setCell (zD F 0) (zA ((n:Int)-1))).alloc (zp #[zA G,zA q,.slice a l.length c] 24)).alloc zi).alloc (zp #[zA G,zA q,zB] 24))=w3 at *;generalize bf:w.heap.size+1+1=O at *;have hO:w.heap.size+2<=O:=(by omega);clear bf f0 ff bu bw;go_loopw [46] (λi wr=>JG w F O G q L n i wr) (λi wr=>l.length-(intOf i).toNat);case atStart=>
     refine⟨0,zB,Bp _,rfl,?_⟩;by_cases bg:n=0
     ·subst bg;exact Ae ⟨by omega,E3.o,none,0,0,rfl⟩
     ·refine Ad ⟨n-1,[],by simp[Ai]; omega,?_,Cg.start _ _ _ _⟩;rw[show((n-1:Nat):Int)=(n:Int)-1 by omega];exact E3.o
    case round=>
     obtain⟨k,u,hk,rfl,ao⟩:=hrel;have aN:=Aa hk;rw[aB.o]at hk;rcases ao with ⟨m,xs,hm,N,aq⟩|⟨bh,N,a9,P,c9,rfl⟩
     ·have f:=Aa N;have D:=Aa aq;have a6:=Aa hm;clear N aq;by_cases A:k<l.length
      ·have I:k<L.length:=by rw[aB.o]; exact A
       obtain⟨b,o,y,c',rfl,d0,bj,d1,hx⟩:=(HS.o.ex f.o.1 a8.o).get (Ac _ _) (λ_ _ h=>h) k A;obtain⟨av,cv,ev,bk⟩:=hx;simp at ev;obtain⟨rfl,rfl⟩:=ev;have aC:m<=9223372036854775807:=(by omega);have J:Hid (O≠F):=Aa (by omega);have ar:Hid (F<O+1):=Aa (by omega);have aO:(L.take k).length=k:=by simp; omega
       have aP:k<=1000000:=(by omega);have a7:Hid ((L.take k).length+1<=maxLen/\((L.take k).length+1)*40<=140737488355328):=Aa (by rw[aO];exact⟨by unfold maxLen; omega,by omega⟩);clear aO;have aD:Hid (L[k]=AY z d l[k]):=bc.o k A I;have au:Ai [l[k]]<=Ai l:=(by have h1:=Df l k A;have h2:=DJ l (k+1);omega);have R:Hid (Calls prog 126 #[zC F,.agg (zE l[k] y c'),zA d,.func (.func 127) #[] #[zC F,zC B]] (wr.alloc (zm l[k] y c')).drew λe C=>Fy (wr.alloc (zm l[k] y c')).drew F (AY z d l[k]) m e C):=(IH.o l[k] (Bv A) m _ d _ X ⟨y,c',rfl,((bk.later ((Ac _ _).alloc (Af _) (zm l[k] y c'))).later ((Ac _ _).drew))⟩ a8.o aC (by omega) (by omega) (Cz.at k A bs.o) (Dd.at k A bt.o) (by exact((f.o.2.2.2.1.alloc _).drewN 1)) (HE.o.ex f.o.1 bq a8.o |>.later ((Ac _ _).alloc (Af _) _) |>.later ((Ac _ _).drew)));have f0:∀o,(wr.alloc o).cell? (zD F 0)=some (zA m):=λo=>(f.o.2.2.2.1.alloc o).cell 0;have o1:∀o,(wr.alloc o).cell? (zD O 2)=some u:=λo=>(f.o.2.2.1.alloc o).cell 2;have b0:¬(m:Int)<0:=(by omega);rw[<-aD.o]at R;by_cases hle:Ai [L[k]]<=m
       ·have aE:Hid (Calls prog 126 #[zC F,.agg (zE l[k] y c'),zA d,.func (.func 127) #[] #[zC F,zC B]] (wr.alloc (zm l[k] y c')).drew λe C=>∃s c1,e=.returned (.agg (zE L[k] s c1))/\Ab C F #[zA ((m:Int)-Ai [L[k]])] 152/\Ex F wr C/\Ap C (λb=>wr.heap.size<=b) s L[k].subs):=R.o.mono λe C hp=>by
         obtain⟨s1,s2,s,l1,c1,m1,h1,h2,h3,h4,_⟩:=hp;obtain⟨rfl,rfl,rfl,rfl,h5⟩:=h4 hle;exact⟨s,c1,h1,h2,(((Ex.refl F wr).alloc _).drew).trans h3,h5.mono λb hb _=>by simp at hb; omega⟩
        clear R;have aF:=Aa hle;have aG:=Aa I;clear hle aD au aZ aM aS aT aA aP aC;go_wp2_with fail;go_region_law (first
         | (go_simp; go_at_call 126; refine aE.o.mono ?_; rintro e w1 ⟨s,c1,rfl,M,r,aQ⟩; have aH:∀o,(w1.alloc o).cell? (zD O 2)=some u:=λo=>((Ab.ex f.o.2.2.1 r J.o).alloc o).cell 2; have aI:w1.cell? (zD O 2)=some u:=(Ab.ex f.o.2.2.1 r J.o).cell 2)
         | (refine step_append_lies _ rfl _ _ 22 rfl (O+1) 24 i0 _ 3 40 underlying22 aV aW aX aY rfl (by decide) u (L.take k).length xs rfl (by exact(Cg.ex (B:=F) D.o r ar.o (λh=>h)).own.alloc _) (zD w1.heap.size 0) 1 1 [zA L[k].kind,zA L[k].idx,.slice s L[k].subs.length c1] rfl rfl (Fw _ _ _ _ _) (λx hx=>by simp at hx; rcases hx with rfl|rfl|rfl<;>rfl) (by decide) a7.o.1 a7.o.2 (by have:=r.size; have:=f.o.2.2.2.2; simp; omega) _ rfl ?_; intro g cap w3 ad E ah ai; have H:=Aa (((Ab.ex f.o.2.2.1 r J.o).alloc _).grown E (D.o.ne (DC _))); have aJ:w3.cell? (zD O 2)=some u:=H.o.cell 2; have aK:=H.o.frozen 2))
        all_goals
         have HK:=Aa (FU (v:=.slice (some (zD g 0)) ((L.take k).length+1) cap) aU hO f.o (λj hj=>(D.o.own.lt j hj).1) r M E);have bl:=Aa (JE (t:=L[k]) (by omega) f.o.2.2.2.2 D.o r ⟨s,c1,rfl,aQ⟩ ad E ah);clear ad E ah aH aI aJ aK H M r aQ ai;go_wp2_with fail;go_roundw
         case rel=>
          have aL:(L.take k).length=k:=by simp; omega
          have ak:min k L.length=k:=Ge (by have:=aN.o; omega);simp only[ak];have h1:=HK.o;have h2:=bl.o;have aR:=a6.o;have hle:=aF.o;simp only[aL] at h1 h2;obtain⟨m',bm⟩:∃m':Nat,(m':Int)=(m:Int)-Ai [L[k]]:=⟨m-Ai [L[k]],by omega⟩;refine⟨k+1,.slice (some (zD g 0)) (k+1) cap,by omega,by go_num,Ad ⟨m',xs++[zA L[k].kind,zA L[k].idx,.slice s L[k].subs.length c1],by rw[Df L k I]; omega,?_,?_⟩⟩
          ·rw[bm];exact h1
          ·rw[CI I];exact h2
         case measure=>simp[intOf]; omega
       ·have aE:Hid (Calls prog 126 #[zC F,.agg (zE l[k] y c'),zA d,.func (.func 127) #[] #[zC F,zC B]] (wr.alloc (zm l[k] y c')).drew λe C=>∃s1 s2 s l1 c1,e=.returned (.agg #[zA s1,zA s2,.slice s l1 c1])/\Ab C F #[zA (-1)] 152/\Ex F wr C):=R.o.mono λe C hp=>by
         obtain⟨s1,s2,s,l1,c1,m1,h1,h2,h3,_,h4⟩:=hp;obtain rfl:=h4 (by omega);exact⟨s1,s2,s,l1,c1,h1,h2,(((Ex.refl F wr).alloc _).drew).trans h3⟩
        clear R;have aF:=Aa hle;have aG:=Aa I;clear hle aD au aZ aM aS aT aA aP aC;go_wp2_with fail;go_region_law (first
         | (go_simp; go_at_call 126; refine aE.o.mono ?_; rintro e w1 ⟨s1,s2,s,l1,c1,rfl,M,r⟩; have aH:∀o,(w1.alloc o).cell? (zD O 2)=some u:=λo=>((Ab.ex f.o.2.2.1 r J.o).alloc o).cell 2; have aI:w1.cell? (zD O 2)=some u:=(Ab.ex f.o.2.2.1 r J.o).cell 2)
         | (refine step_append_lies _ rfl _ _ 22 rfl (O+1) 24 i0 _ 3 40 underlying22 aV aW aX aY rfl (by decide) u (L.take k).length xs rfl (by exact(Cg.ex (B:=F) D.o r ar.o (λh=>h)).own.alloc _) (zD w1.heap.size 0) 1 1 [zA s1,zA s2,.slice s l1 c1] rfl rfl (Fw _ _ _ _ _) (λx hx=>by simp at hx; rcases hx with rfl|rfl|rfl<;>rfl) (by decide) a7.o.1 a7.o.2 (by have:=r.size; have:=f.o.2.2.2.2; simp; omega) _ rfl ?_; intro g cap w3 ad E ah ai; have H:=Aa (((Ab.ex f.o.2.2.1 r J.o).alloc _).grown E (D.o.ne (DC _))); have aJ:w3.cell? (zD O 2)=some u:=H.o.cell 2; have aK:=H.o.frozen 2))
        all_goals
         have HK:=Aa (FU (v:=.slice (some (zD g 0)) ((L.take k).length+1) cap) aU hO f.o (λj hj=>(D.o.own.lt j hj).1) r M E);clear ad E ah aH aI aJ aK H M r ai;go_wp2_with fail;go_roundw
         case rel=>
          have aL:(L.take k).length=k:=by simp; omega
          have ak:min k L.length=k:=Ge (by have:=aN.o; omega);simp only[ak];have h0:=HK.o;have aR:=a6.o;have hle:=aF.o;simp only[aL] at h0;refine⟨k+1,.slice (some (zD g 0)) (k+1) cap,by omega,by go_num,Ae ⟨?_,h0,_,_,_,rfl⟩⟩;have h1:=Df L k I;have h2:=DJ L (k+1);omega
         case measure=>simp[intOf]; omega
      ·have bn:L.take k=L:=Bz (by rw[aB.o]; omega);rw[bn]at D a6;obtain⟨a9,c9,bo,ax⟩:=D.o.sl;subst bo;have S9:=Aa ax;clear ax;have T:=f.o.2.1.c0;have U:=f.o.2.1.c1;have V:=f.o.2.1.c2;have rf:=f.o.2.1.frozen;have Y:w.heap.size+1<wr.heap.size:=f.o.2.1.lt;have o0:=f.o.2.2.1.c0;have o1:=f.o.2.2.1.c1;have o2:=f.o.2.2.1.c2;go_wp2_with fail;refine Ao (v:=.agg #[zA G,zA q,.slice a9 L.length c9]) (by simp[results,results126,go_sem,AL,AE,T,U,V,Y]) rfl ?_;have aR:=a6.o;rw[HT.o];refine⟨G,q,a9,L.length,c9,m,rfl,((f.o.2.2.2.1.setOther _ _ (by omega)).setOther _ _ (by omega)).setOther _ _ (by omega),((f.o.1.setNew (by omega) _ _).setNew (by omega) _ _).setNew (by omega) _ _,λh=>⟨by rw[bd]; omega,rfl,rfl,rfl,(S9.o.kept λb hb=>?_).mono λb hb _=>?_⟩,λh=>by omega⟩
       ·have bp:O+1<=b:=hb.elim False.elim id;rw[Ak _ _ _ _ (by simp; omega),Ak _ _ _ _ (by simp; omega),Ak _ _ _ _ (by simp; omega)]
       ·have bp:O+1<=b:=hb.elim False.elim id;omega
     ·have f:=Aa N;clear N;have f0:∀o,(wr.alloc o).cell? (zD F 0)=some (zA (-1)):=λo=>(f.o.2.2.2.1.alloc o).cell 0;have T:=f.o.2.1.c0;have U:=f.o.2.1.c1;have V:=f.o.2.1.c2;have rf:=f.o.2.1.frozen;have Y:w.heap.size+1<wr.heap.size:=f.o.2.1.lt;by_cases A:k<l.length
      ·obtain⟨b,o,y,c',rfl,d0,bj,d1,hx⟩:=(HS.o.ex f.o.1 a8.o).get (Ac _ _) (λ_ _ h=>h) k A;clear hx;have o0:∀o,(wr.alloc o).cell? (zD O 0)=some (zA G):=λo=>(f.o.2.2.1.alloc o).cell 0;have o1:∀o,(wr.alloc o).cell? (zD O 1)=some (zA q):=λo=>(f.o.2.2.1.alloc o).cell 1;have o2:∀o,(wr.alloc o).cell? (zD O 2)=some (.slice a9 P c9):=λo=>(f.o.2.2.1.alloc o).cell 2;go_wp2_with fail;refine Ao (v:=.agg #[zA G,zA q,.slice a9 P c9]) (by simp[results,results126,go_sem,AL,AE,T,U,V,Y,EI]) rfl ?_;rw[HT.o];exact⟨G,q,a9,P,c9,-1,rfl,(((f.o.2.2.2.1.setOther _ _ (by omega)).setOther _ _ (by omega)).setOther _ _ (by omega)).alloc _,(((f.o.1.setNew (by omega) _ _).setNew (by omega) _ _).setNew (by omega) _ _).alloc _,λh=>by omega,λ_=>rfl⟩
      ·have o0:=f.o.2.2.1.c0;have o1:=f.o.2.2.1.c1;have o2:=f.o.2.2.1.c2;go_wp2_with fail;refine Ao (v:=.agg #[zA G,zA q,.slice a9 P c9]) (by simp[results,results126,go_sem,AL,AE,T,U,V,Y]) rfl ?_;rw[HT.o];exact⟨G,q,a9,P,c9,-1,rfl,((f.o.2.2.2.1.setOther _ _ (by omega)).setOther _ _ (by omega)).setOther _ _ (by omega),((f.o.1.setNew (by omega) _ _).setNew (by omega) _ _).setNew (by omega) _ _,λh=>by omega,λ_=>rfl⟩
theorem Z8 (t z:Lm) (v u:Value) (w:World) (X:Nat->Prop) (F:MV w X v t) (hu:MV w X u z) (ar:Ai [t]<=10000) (G:Cz [t]) (H:Dd [t]) (au:Ai [z]<=10000) (I:Cz [z]) (J:Dd [z]):
  Calls prog 111 #[v,u,zA 2000] w λe w'=>Below w.heap.size w w'/\((Ai [AY z 0 t]<=2000/\∃a c,e=.returned (.tuple #[.agg #[zA (AY z 0 t).kind,zA (AY z 0 t).idx,.slice a (AY z 0 t).subs.length c],.bool true])/\Ap w' (λb=>w.heap.size<=b) a (AY z 0 t).subs)∨(2000<Ai [AY z 0 t]/\e=.returned (.tuple #[.agg zJ,.bool false]))):=by
 have av:=@hmq prog;obtain⟨a,c,rfl,r⟩:=F;obtain⟨f,g,rfl,s⟩:=hu;have L:=Aa r;have M:=Aa s;clear r s;go_in;go_wp2_with fail;refine(Z7 (w.heap.size+1+1+1) (w.heap.size+1) z (by omega) I J (by omega) t 2000 _ 0 _ (λb=>X b/\b<w.heap.size) ⟨a,c,rfl,((((L.o.mono (Y:=λb=>X b/\b<w.heap.size) λb h1 h2=>⟨h1,h2⟩).later ((Ac _ _).alloc (Af _) _)).later ((Ac _ _).alloc (Af _) _)).later ((Ac _ _).alloc (Af _) _)).later ((Ac _ _).alloc (Af _) _)⟩ (λb h=>by have:=h.2; omega) (by omega) (Int.le_refl 0) (by omega) G H ?_ ⟨f,g,?_,((((M.o.mono (Y:=λb=>X b/\b<w.heap.size) λb h1 h2=>⟨h1,h2⟩).later ((Ac _ _).alloc (Af _) _)).later ((Ac _ _).alloc (Af _) _)).later ((Ac _ _).alloc (Af _) _)).later ((Ac _ _).alloc (Af _) _)⟩).mono ?_
 ·have h:=Ab.new (((w.alloc (zm t a c)).alloc (zm z f g)).alloc zi) #[zA 2000] 152;simp only[Ca] at h;exact h
 ·have h:=((Ab.new (w.alloc (zm t a c)) (zE z f g) 24).alloc zi).alloc (zp #[zA 2000] 152);simp only[Ca] at h;exact h
 rintro e w1 ⟨k',x',x,l',c',m,rfl,y,d,l,n⟩;have i:Hid (Ab w1 (w.heap.size+1+1) zJ 24):=by
  have h:=((Ab.new ((w.alloc (zm t a c)).alloc (zm z f g)) zJ 24).alloc (zp #[zA 2000] 152)).ex d (by simp);simp only[Ca] at h;exact h
 have j:Hid (Below w.heap.size w w1):=(by have h2:Below w.heap.size ((((w.alloc (zm t a c)).alloc (zm z f g)).alloc zi).alloc (zp #[zA 2000] 152)) w1:=⟨d.os,d.tape,d.output,d.size,λk hk=>d.block k (by simp; omega) (by omega)⟩;exact(((((Ac w.heap.size w).alloc (Af _) (zm t a c)).alloc (by simp) (zm z f g)).alloc (by simp; omega) zi).alloc (by simp; omega) (.cells #[zA 2000] 152)).trans h2);have N:=Aa y;have m0:∀o,(w1.alloc o).cell? (zD (w.heap.size+1+1+1) 0)=some (zA m):=λo=>(N.o.alloc o).cell 0;have A:=i.o.c0;have B:=i.o.c1;have C:=i.o.c2;have rf:=i.o.frozen;have D:=i.o.lt;clear y d;by_cases hle:Ai [AY z 0 t]<=2000
 ·obtain⟨rfl,rfl,rfl,rfl,E⟩:=l hle;have O:=Aa E;have q:=Aa hle;have aw:¬(((2000:Nat):Int)-Ai [AY z 0 t]<0):=by omega
  clear l n E hle;go_wp2_with fail;refine Ao (v:=.tuple #[.agg #[zA (AY z 0 t).kind,zA (AY z 0 t).idx,.slice x (AY z 0 t).subs.length c'],.bool true]) (by simp[results,results111,go_sem,AL,AE,EI,A,B,C,D]) rfl ?_;refine⟨(((j.o.setCell (by simp; omega) _).setCell (by simp; omega) _).setCell (by simp; omega) _).alloc (by have:=j.o.size; simpa [World.setCell] using this) _,Ad ⟨q.o,x,c',rfl,((O.o.mono (Y:=λb=>w.heap.size+4<=b/\b<w1.heap.size) λb h1 h2=>⟨by simp at h1; omega,h2⟩).kept λb hb=>?_).mono λb hb _=>by omega⟩⟩;have P:=hb.2;rw[BL _ _ _ (by simpa [World.setCell] using P),Ak _ _ _ _ (by simp; omega),Ak _ _ _ _ (by simp; omega),Ak _ _ _ _ (by simp; omega)]
 ·obtain rfl:=n (by omega);have q:=Aa hle;clear l n hle;go_wp2_with fail;refine Ao (v:=.tuple #[.agg zJ,.bool false]) (by simp[results,results111,go_sem,AL,AE,EI,A,B,C,D]) rfl ?_;exact⟨(((j.o.setCell (by simp; omega) _).setCell (by simp; omega) _).setCell (by simp; omega) _).alloc (by have:=j.o.size; simpa [World.setCell] using this) _,Ae ⟨by have:=q.o; omega,rfl⟩⟩
open Go.Shelf
attribute [local go_sem] Oper.semAt_some
def Eq (u:Int) (t:Lm):Prop:=0<=u/\u+Ai [t]<=45000/\(∃M:Int,Au u M [t]=0/\M<=40)/\Ai [t]<=2000
def Z9 (w:World) (t:Lm) (S:Lm->Bool->World->Prop) (e:Ending) (w':World):Prop:=
 (CA t=false/\e=.returned (.bool true)/\Below w.heap.size w w')∨(CA t=true/\e=.returned (.bool false)/\∃x ok,(ok=true->x=Hk t.subs)/\(ok=false->2000<Ai [Hk t.subs])/\S x ok w')
theorem kD (ht:Eq (u+1) t) (hz:Eq u z) (v x:Value) (w:World) (X:Nat->Prop) (g:MV w X v t) (hx:MV w X x z):
  Calls prog 111 #[v,x,zA 2000] w λe w'=>∃q ok a c,e=.returned (.tuple #[.agg (zE q a c),.bool ok])/\Ap w' (λb=>w.heap.size<=b) a q.subs/\Below w.heap.size w w'/\(ok=true->q=AY z 0 t)/\(ok=false->2000<Ai [AY z 0 t]):=by
 obtain⟨h1,h2,⟨M1,h3,ab⟩,h4⟩:=ht;obtain⟨h,k2,⟨M2,d,ad⟩,k4⟩:=hz;refine(Z8 t z v x w X g hx (by omega) (Jv _ _ _ h1 (by omega) (by omega) h3) (MI _ _ _ h3) (by omega) (Jv _ _ _ h (by omega) (by omega) d) (MI _ _ _ d)).mono ?_;rintro e w' ⟨hb,⟨f,a,c,rfl,i⟩|⟨f,rfl⟩⟩
 ·exact⟨_,true,a,c,rfl,i,hb,λ_=>rfl,by simp⟩
 ·exact⟨⟨0,0,[]⟩,false,none,0,rfl,⟨by simp,Ad rfl⟩,hb,by simp,λ_=>f⟩
theorem Eq.subs {x:Int} (h:Eq u ⟨k,x,l⟩) {y:Lm} (hy:y∈l):Eq (AR u k) y:=by
 obtain⟨h1,h2,⟨M,h3,a⟩,b⟩:=h;rw[KD]at h2 b;obtain⟨i,hi,rfl⟩:=List.mem_iff_getElem.1 hy;have:=MD l i hi;have hd:u<=AR u k/\AR u k<=u+1:=by unfold AR; split<;>omega
 exact⟨by omega,by omega,⟨M,MC.1 (D3.1 h3).2 _ hy,a⟩,by omega⟩
theorem Un (h:Ap w X a [f,z]):∃B o b c1 a2 c2,a=some (zD B o)/\X B/\w.cell? (zD B o)=some (zA f.kind)/\w.cell? ⟨B,o+1,none⟩=some (zA f.idx)/\w.cell? ⟨B,o+2,none⟩=some (.slice b f.subs.length c1)/\w.cell? ⟨B,o+3,none⟩=some (zA z.kind)/\w.cell? ⟨B,o+4,none⟩=some (zA z.idx)/\w.cell? ⟨B,o+5,none⟩=some (.slice a2 z.subs.length c2)/\Ap w X b f.subs/\Ap w X a2 z.subs:=by
 obtain⟨_,h|⟨B,o,rfl,h⟩⟩:=h
 ·cases h
 ·have h0:=Fe _ _ _ h 0 (by simp);have h1:=Fe _ _ _ h 1 (by simp);simp only[Gc,FG,Nat.zero_mul,Nat.one_mul,Ic] at h0 h1;obtain⟨hx,c,d,b,c1,e,g⟩:=h0;obtain⟨_,i,j,a2,c2,k,l⟩:=h1;exact⟨B,o,b,c1,a2,c2,rfl,hx,c,d,e,i,j,k,g,l⟩
theorem Uo (h:Ap w X a [f]):∃B o b c1,a=some (zD B o)/\X B/\w.cell? (zD B o)=some (zA f.kind)/\w.cell? ⟨B,o+1,none⟩=some (zA f.idx)/\w.cell? ⟨B,o+2,none⟩=some (.slice b f.subs.length c1)/\Ap w X b f.subs:=by
 obtain⟨_,h|⟨B,o,rfl,h⟩⟩:=h
 ·cases h
 ·have h0:=Fe _ _ _ h 0 (by simp);simp only[Gc,Nat.zero_mul,Ic] at h0;obtain⟨hx,c,d,b,c1,e,g⟩:=h0;exact⟨B,o,b,c1,rfl,hx,c,d,e,g⟩
theorem kE {S:Lm->Bool->World->Prop} (hP:∀b,hi<=b->P b) (hT:Hl y P J S) (hJ:Hm J) (t:Lm) (u:Int) (x:Eq u t) (v:Value) (w:World) (X:Nat->Prop) (hv:MV w X v t) (D:∀b,X b->b<w.heap.size/\P b) (aD:hi<=w.heap.size) (M:J w):
  Calls prog 96 #[v,y] w λe w'=>Z9 w t S e w':=by
 obtain⟨k,g,l⟩:=t;obtain⟨a,c,rfl,i⟩:=hv;dsimp only at i ⊢;by_cases h3:k=3;case neg=>
  have E:Hid (CA ⟨k,g,l⟩=false):=Aa (by unfold CA;simp[h3]);have e3:(k==3)=false:=Dx.2 h3;have e4:(k !=3)=true:=by simp[bne,e3]
  clear i;go_in;go_wp2_with fail;go_ret;exact Ad ⟨E.o,rfl,(Ac _ _).alloc (Af _) _⟩
 subst h3;have N:l.length=2:=by
  have:=(EC.1 (D3.1 x.2.2.1.choose_spec.1).1).2.1;rw[this]; rfl
 obtain⟨f,z,rfl⟩:∃f z,l=[f,z]:=by
  match l,N with
  | [f,z],_=>exact⟨f,z,rfl⟩
 obtain⟨B,o,a1,c1,a2,c2,rfl,aA,d0,d1,d2,d3,d4,d5,O,R⟩:=Un i;have aE:B<w.heap.size:=(D B aA).1;by_cases h2:f.kind=2;case neg=>
  have E:Hid (CA ⟨3,g,[f,z]⟩=false):=Aa (by unfold CA;simp[h2]);have e3:(f.kind==2)=false:=Dx.2 h2;have e4:(f.kind !=2)=true:=by simp[bne,e3]
  clear i;go_in;go_wp2_with fail;go_ret;exact Ad ⟨E.o,rfl,(Ac _ _).alloc (Af _) _⟩
 have U:Hid (CA ⟨3,g,[f,z]⟩=true):=Aa (by unfold CA;simp[h2]);obtain⟨kf,A,j⟩:=f;simp only at h2;subst h2;have F:Eq u ⟨2,A,j⟩:=by have:=x.subs (y:=⟨2,A,j⟩) (by simp); simpa [AR] using this
 have V:Eq u z:=by have:=x.subs (y:=z) (by simp); simpa [AR] using this
 have W:j.length=1:=(by have:=(EC.1 (D3.1 F.2.2.1.choose_spec.1).1).2.1;rw[this]; rfl);obtain⟨b,rfl⟩:∃b,j=[b]:=by
  match j,W with
  | [b],_=>exact⟨b,rfl⟩
 have ar:Eq (u+1) b:=by have:=F.subs (y:=b) (by simp); simpa [AR] using this
 obtain⟨Z,o1,a3,c3,rfl,ag,g0,g1,g2,au⟩:=Uo O;have aB:Z<w.heap.size:=(D Z ag).1;have av:Below w.heap.size w (w.alloc (zp #[zA 3,zA g,.slice (some (zD B o)) 2 c] 24)):=(Ac _ _).alloc (Af _) _;have aw:Below w.heap.size w ((w.alloc (zp #[zA 3,zA g,.slice (some (zD B o)) 2 c] 24))).drew:=av.drew;have ax:Hid (∀w',Below w.heap.size w w'->Calls prog 111 #[.agg (zE b a3 c3),.agg (zE z a2 c2),zA 2000] w' λe C=>∃q ok a5 c5,e=.returned (.tuple #[.agg (zE q a5 c5),.bool ok])/\Ap C (λb=>w.heap.size<=b/\b<C.heap.size) a5 q.subs/\Below w.heap.size w C/\(ok=true->q=Hk [⟨2,A,[b]⟩,z])/\(ok=false->2000<Ai [Hk [⟨2,A,[b]⟩,z]])):=λw' hb=>by
  refine(kD ar V _ _ w' X ⟨a3,c3,rfl,au.later hb⟩ ⟨a2,c2,rfl,R.later hb⟩).mono ?_;rintro e C ⟨q,ok,a5,c5,rfl,h5,h6,h7,h8⟩;exact⟨q,ok,a5,c5,rfl,h5.mono λb h1 h2=>⟨AJ hb.size h1,h2⟩,hb.trans (h6.mono hb.size),h7,h8⟩
 have HD:=Aa aw;have ay:Hid (∀d,Below w.heap.size w d->J d):=λd hb=>hJ _ _ M hb;have az:Hid (∀d,Below w.heap.size w d->∀b,(w.heap.size<=b/\b<d.heap.size)->b<d.heap.size/\P b):=λd hb b h=>⟨h.2,hP b (by omega)⟩;have aF:Fence.wide.fn 111:=trivial;have aG:Fence.wide.fn 112:=trivial;clear i O R au x F V ar D av aw W N M;rcases hT with ⟨T,I,Y,rfl,hT⟩|⟨lp,rfl,hT⟩
 ·have G:=Aa hT;clear hT;go_in;refine(wpIn_wide (n:=1)).1 ?_;gi_wp2
  gi_region_with (first
    | (gi_at_call 111; refine(FJ.2 (ax.o _ (by first|exact Ac _ _|exact HD.o))).mono ?_; rintro e d ⟨q,ok,a5,c5,rfl,H,m,h1,h2⟩; have a6:=G.o d _ q ok _ (by exact ay.o d m) ⟨a5,c5,rfl,H⟩ (by exact az.o d m))
    | (gi_at_call 112; refine(FJ.2 a6).mono ?_; rintro e w6 ⟨rfl,r⟩))
  all_goals
   have L:=Aa r;have s:=Aa (And.intro h1 h2);clear r;clear a6
  all_goals gi_wp2
  all_goals go_ret
  all_goals exact Ae ⟨U.o,rfl,q,ok,s.o.1,s.o.2,L.o⟩
 ·have G:=Aa hT;clear hT;go_in;refine(wpIn_wide (n:=1)).1 ?_;gi_wp2
  gi_region_with (first
    | (gi_at_call 111; refine(FJ.2 (ax.o _ (by first|exact Ac _ _|exact HD.o))).mono ?_; rintro e d ⟨q,ok,a5,c5,rfl,H,m,h1,h2⟩; obtain⟨aH,a7,aC,a8,aI,hR⟩:=G.o d _ q ok _ (by exact ay.o d m) ⟨a5,c5,rfl,H⟩ (by exact az.o d m) 0)
    | (refine hR.mono ?_; rintro e w6 ⟨rfl,r⟩))
  all_goals
   have L:=Aa r;have s:=Aa (And.intro h1 h2);clear r;skip
  all_goals gi_wp2
  all_goals go_ret
  all_goals exact Ae ⟨U.o,rfl,q,ok,s.o.1,s.o.2,L.o⟩
def kG (n:Nat) (t:Lm) (S:Lm->Bool->World->Prop) (w:World) (e:Ending) (w':World):Prop:=
 (AN [t]=false/\e=.returned (.bool true)/\Below w.heap.size w w')∨(AN [t]=true/\e=.returned (.bool false)/\∃x ok,Gr false n t x ok/\S x ok w')
def kH (n:Nat) (k xi:Int) (l:List Lm) (S:Lm->Bool->World->Prop) (w:World) (e:Ending) (w':World):Prop:=
 (AN l=false/\e=.returned (.bool true)/\Below w.heap.size w w')∨(AN l=true/\e=.returned (.bool false)/\∃i,∃h:i<l.length,AN (l.take i)=false/\AN [l[i]]=true/\∃q ok,Gr false n l[i] q ok/\S ⟨k,xi,l.set i q⟩ ok w')
def K0 (n:Nat) (s:Lm):Prop:=∀(y:Value) (P:Nat->Prop) (hi:Nat) (J:World->Prop) (S:Lm->Bool->World->Prop),(∀b,hi<=b->P b)->Hl y P J S->Hm J->∀(v:Value) (w:World) (X:Nat->Prop),MV w X v s->(∀b,X b->b<w.heap.size/\P b)->hi<=w.heap.size->J w->
  Calls prog 78 #[v,y] w λe w'=>kG n s S w e w'
theorem kI {S:Lm->Bool->World->Prop} (hP:∀b,hi<=b->P b) (hT:Hl y P J S) (f:Hm J) (k d:Int) (l:List Lm) (i:Nat) (g:i<l.length) (hlen:l.length<=1000000) (a:Option Addr) (c T I Y N:Nat) (X:Nat->Prop) (h:hi<=T) (ad:N<=T) (e:∀b,X b->b<N/\P b):
  Hl (.func (.func 112) #[] #[zC T,zC I,zC Y]) P (λW=>J W/\Ip ⟨k,d,l⟩ a c T I Y i y X W) (λx ok W=>S ⟨k,d,l.set i x⟩ ok W):=
 Ad ⟨T,I,Y,rfl,λW v x ok Z h1 h2 h3=>YT hP hT.at f k d l i g hlen a c T I Y X h W h1.1 h1.2 (λb hb=>⟨by have:=(e b hb).1; have:=h1.2.bt.lt; omega,(e b hb).2⟩) v x ok Z h2 h3⟩
theorem kJ (b:Hm J) {d:Int} {T I Y i:Nat}:Hm (λW=>J W/\Ip ⟨k,d,l⟩ a c T I Y i y X W):=
 λW W' h hb=>⟨b W W' h.1 hb,h.2.later hb⟩
theorem kK {S:Lm->Bool->World->Prop} (hP:∀b,hi<=b->P b) (hT:Hl y P J S) (H:Hm J) (n:Nat) (k f:Int) (l:List Lm) (hlen:l.length<=1000000) (I:∀s∈l,K0 n s) (a:Option Addr) (c:Nat) (w:World) (X:Nat->Prop) (D:Ap w X a l) (L:∀b,X b->b<w.heap.size/\P b) (az:hi<=w.heap.size) (M:J w):
  Calls prog 97 #[.agg #[zA k,zA f,.slice a l.length c],.func (.func 78) #[] #[],y] w λe w'=>kH n k f l S w e w':=by
 obtain⟨t,u,v,rfl⟩:∃fn p q,y=.func fn p q:=by
  rcases hT with ⟨_,_,_,h,_⟩|⟨_,h,_⟩
  ·exact⟨_,_,_,h⟩
  ·exact⟨_,_,_,h⟩
 have aH:=@hmq prog;obtain⟨g,m⟩:∃g,g=((w.alloc (zp #[zA k,zA f,.slice a l.length c] 24)).alloc (zp #[.func t u v] 118)):=⟨_,rfl⟩;have a1:Hid (Below w.heap.size w g):=Aa (by rw[m];exact Dk _ _);have N:Hid (Ab g w.heap.size #[zA k,zA f,.slice a l.length c] 24):=Aa (by rw[m];exact(Ab.new w _ _).alloc _);have O:Hid (Ab g (w.heap.size+1) #[.func t u v] 118):=Aa (by have h:=Ab.new (w.alloc (zp #[zA k,zA f,.slice a l.length c] 24)) #[.func t u v] 118;rw[m];simpa using h);have R:Hid (g.heap.size=w.heap.size+2):=Aa (by rw[m];simp);have ar:=Aa m;clear m;have a6:=Aa I;have E:=Aa H;have HT:=Aa hT;have T:=Aa hP;have F:=Aa D;have r:=Aa L;have a7:=Aa M;have aI:=D.1;clear I H hT D L M hP;go_in;go_wp2_with fail;rw[<-ar.o];clear ar;go_loopw [13] (λi wr=>∃q:Nat,q<=l.length/\i=zA q/\AN (l.take q)=false/\Below g.heap.size g wr) (λi wr=>l.length-(intOf i).toNat);case atStart=>exact⟨0,Bp _,rfl,by simp[AN],Ac _ _⟩
 case round=>
  obtain⟨q,hq,rfl,G,j⟩:=hrel;have z:=Aa (a1.o.trans (j.mono (by have:=R.o; omega)));have A:=Aa G;by_cases d:q<l.length
  ·have U:=N.o.below j N.o.lt;have V:=O.o.below j O.o.lt;obtain⟨b,o,B,c',a8,d0,d1,d2,Y⟩:=F.o.get z.o (λb hb _=>(r.o b hb).1) q d;subst a8;have aA:(q:Int)<(l.length:Int):=(by omega);have aB:w.heap.size+2<=wr.heap.size:=by have:=j.size; have:=R.o; omega
   have aJ:b<w.heap.size:=by
    obtain⟨_,h1⟩:=F.o;rcases h1 with h1|⟨b',o',e',h1⟩
    ·rw[h1]at d; simp at d
    ·cases e'; exact(r.o _ (Fe _ _ _ h1 q d).1).1
   have aC:=Aa Y;have aD:Hid (AN (l.take (q+1))=(AN (l.take q)||AN [l[q]])):=MB l q d;have aj:=Aa U;have ak:=Aa V;have Z:=a6.o l[q] (Bv d) (.func (.func 112) #[] #[zC w.heap.size,zC wr.heap.size,zC (w.heap.size+1)]) P hi (λW=>J W/\Ip ⟨k,f,l⟩ (some (zD b o)) c w.heap.size wr.heap.size (w.heap.size+1) q (.func t u v) X W) (λx ok W=>S ⟨k,f,l.set q x⟩ ok W) T.o (kI T.o HT.o E.o k f l q d hlen _ c _ _ _ w.heap.size X az (Af _) r.o) (kJ E.o) (.agg (zE l[q] B c')) ((wr.alloc (zp #[zA q] 3)).alloc (zm l[q] B c')) X (aC.o.later (Dk _ _)) (λb hb=>⟨by have:=(r.o b hb).1; simp; omega,(r.o b hb).2⟩) (by simp; omega) (by
    have aw:Below w.heap.size w ((wr.alloc (zp #[zA q] 3)).alloc (zm l[q] B c')):=z.o.trans ((Dk _ _).mono z.o.size);exact⟨E.o _ _ a7.o aw,(aj.o.alloc _).alloc _,(Ab.new wr _ _).alloc _,(ak.o.alloc _).alloc _,F.o.later aw⟩)
   have ad:=Aa Z;have aE:Hid (Below wr.heap.size wr ((wr.alloc (zp #[zA q] 3)).alloc (zm l[q] B c'))):=Dk _ _;have ae:=Aa j;clear Z U V Y G j;go_wp2_with fail;refine ad.o.mono ?_;rintro e w5 (⟨h1,rfl,ax⟩|⟨h1,rfl,x,ok,hf,ay⟩)
   ·have HN:Hid (AN (l.take (q+1))=false):=Aa (by rw[aD.o,A.o,h1];rfl);have aF:=Aa (ae.o.trans ((aE.o.trans (ax.mono (by simp; omega))).mono ae.o.size));clear h1 ax;go_wp2_with fail;go_roundw
    case rel=>exact⟨q+1,by omega,by go_num,HN.o,aF.o⟩
    case measure=>simp[intOf]; omega
   ·have C:=Aa (And.intro h1 (And.intro hf ay));clear h1 hf ay;go_wp2_with fail;go_ret;exact Ae ⟨St d C.o.1,rfl,q,d,A.o,C.o.1,x,ok,C.o.2.1,C.o.2.2⟩
  ·have aG:l.take q=l:=Bz (by omega);rw[aG]at A;clear G j;go_wp2_with fail;go_ret;exact Ad ⟨A.o,rfl,z.o⟩
theorem kL (n:Nat):∀(t:Lm) (u:Int),Ai [t]<=n->Eq u t->K0 n t:=by
 induction n with
 |zero=>intro t u h; have:=SJ t; omega
 |succ n I=>
  intro t u hn j y P hi J S hP hT A v w X hv L aw M;have an:=Aa j;have N:=Aa (kE hP hT A t u j v);obtain⟨k,d,l⟩:=t;obtain⟨a,c,rfl,B⟩:=hv;dsimp only at B N ⊢;have ao:Ai [⟨k,d,l⟩]=1+Ai l:=KD k d l;have O:Below w.heap.size w (w.alloc (zp #[zA k,zA d,.slice a l.length c] 24)):=(Ac _ _).alloc (Af _) _;have R:=Aa B;have m:=Aa L;have HT:=Aa hT;have HP:=Aa hP;have C:=Aa A;have T:=Aa M;have D:=Aa O;have aq:Hid (Ab (w.alloc (zp #[zA k,zA d,.slice a l.length c] 24)) w.heap.size #[zA k,zA d,.slice a l.length c] 24):=Ab.new _ _ _;have ad:Hid (l.length<=1000000):=Aa (by have:=Jj l;have:=j.2.2.2;omega);have ar:Hid (∀s∈l,K0 n s):=λs U=>by
   obtain⟨i,E,rfl⟩:=List.mem_iff_getElem.1 U;have:=MD l i E;exact I _ (AR u k) (by omega) (an.o.subs U)
  have V:Hid (Fx false ⟨k,d,l⟩=CA ⟨k,d,l⟩):=Aa (by unfold Fx;simp);clear I B L hT A M O j ao hn hP;go_in;go_wp2_with fail;refine(N.o _ X ⟨a,c,rfl,R.o.later D.o⟩ (λb hb=>⟨by have:=(m.o b hb).1; simp; omega,(m.o b hb).2⟩) (by simp; omega) (C.o _ _ T.o D.o)).mono ?_;rintro e w1 (⟨h1,rfl,r⟩|⟨h1,rfl,x,ok,h2,h3,W⟩)
  ·have F:=Aa (D.o.trans (r.mono (by simp)));have au:w.heap.size<w1.heap.size:=by have:=r.size; simp at this; omega
   have z:=aq.o.below r (by simp);have c0:=z.c0;have c1:=z.c1;have c2:=z.c2;have H1:=Aa h1;clear r z h1;go_wp2_with fail;refine(kK HP.o HT.o C.o n k d l ad.o ar.o a c w1 X (R.o.later F.o) (λb hb=>⟨by have:=(m.o b hb).1; omega,(m.o b hb).2⟩) (by omega) (C.o _ _ T.o F.o)).mono ?_;rintro e w2 (⟨f,rfl,Y⟩|⟨f,rfl,i,E,h5,h6,q,ok,Z,h8⟩)
   ·have g:Hid (AN [⟨k,d,l⟩]=false):=Aa (by rw[IW,H1.o,f];rfl);have av:=Aa (F.o.trans (Y.mono (by omega)));clear f Y;go_wp2_with fail;go_ret;exact Ad ⟨g.o,rfl,av.o⟩
   ·have g:Hid (AN [⟨k,d,l⟩]=true):=Aa (by rw[IW,f];simp);have G:=Aa (Gr.up (k:=k) (x:=d) E (by rw[V.o]; exact H1.o) h5 h6 Z);have H:=Aa h8;clear f h5 h6 Z h8;go_wp2_with fail;go_ret;exact Ae ⟨g.o,rfl,_,ok,G.o,H.o⟩
  ·have g:Hid (AN [⟨k,d,l⟩]=true):=Aa (by rw[IW,h1];rfl);have G:=Aa (Gr.at (inn:=false) (n:=n) (t:=⟨k,d,l⟩) (by rw[V.o]; exact h1) h2 h3);have H:=Aa W;clear h1 h2 h3 W;go_wp2_with fail;go_ret;exact Ae ⟨g.o,rfl,_,ok,G.o,H.o⟩
structure EQ (inn:Bool) (u:Int) (m:Nat) (t0:Lm) (d:Nat) (t:Lm):Prop where
 le:d<=m
 e1:(Bm inn m t0).1=(Bm inn (m-d) t).1
 e2:(Bm inn m t0).2.1=(Bm inn (m-d) t).2.1
 e3:(Bm inn m t0).2.2=(Bm inn (m-d) t).2.2+d
 hu:0<=u/\u<=40
 er:∃M:Int,Au u M [t]=0/\M<=40
 sz:Ai [t]<=2000
theorem EQ.start {M:Int} (hu:0<=u/\u<=40) (he:Au u M [t]=0) (a:Ai [t]<=2000) (b:M<=40):EQ inn u m t 0 t:=⟨Bp _,by simp,by simp,by simp,hu,⟨M,he,b⟩,a⟩
theorem kP {k:Nat} (h:AN [t]=false):Bm inn k t=(0,t,0):=by cases k<;>simp[Bm,h]
theorem EQ.fin (h:EQ inn u m t0 d t) (a:AN [t]=false):(Bm inn m t0).1=0/\(Bm inn m t0).2.1=t/\(Bm inn m t0).2.2=d:=by
 obtain⟨_,h1,h2,h3,_⟩:=h;rw[kP a]at h1 h2 h3;exact⟨h1,h2,by simpa using h3⟩
theorem EQ.fuel (h:EQ inn u m t0 m t) (a:AN [t]=true):(Bm inn m t0).1=9:=by
 rw[h.e1,Nat.sub_self]; simp[Bm,a]
theorem EQ.full (h:EQ inn u m t0 d t) (hd:d≠m) (a:AN [t]=true) (b:2000<Ai [BG inn 2001 t]):(Bm inn m t0).1=8:=by
 have:=h.le;rw[h.e1,show m-d=(m-d-1)+1 by omega]; simp[Bm,a,b]
theorem EQ.on (h:EQ inn u m t0 d t) (hd:d≠m) (b:AN [t]=true) (c:¬2000<Ai [BG inn 2001 t]):EQ inn u m t0 (d+1) (BG inn 2001 t):=by
 obtain⟨h0,h1,h2,h3,a,h5,h6⟩:=h;rw[show m-d=(m-(d+1))+1 by omega]at h1 h2 h3;have e:Bm inn (m-(d+1)+1) t=((Bm inn (m-(d+1)) (BG inn 2001 t)).1,(Bm inn (m-(d+1)) (BG inn 2001 t)).2.1,(Bm inn (m-(d+1)) (BG inn 2001 t)).2.2+1):=by
  rw[Bm,Aq b,Am c]
 rw[e]at h1 h2 h3;exact⟨by omega,h1,h2,by rw[h3]; simp only; omega,a,h5.imp λM h=>⟨Ys inn M 2001 t u a.1 h.1,h.2⟩,by omega⟩
theorem EQ.gd (h:EQ inn u m t0 d t):Eq u t:=⟨h.hu.1,by have:=h.hu.2; have:=h.sz; omega,h.er,h.sz⟩
theorem kQ (l:List Lm):∀d,Dd l->CM 0 d l=l:=by
 induction l using Lm.indL with
 |h0=>intro d _; simp[CM]
 |h k x l r a b=>
  intro d h;obtain⟨h1,h2,h3⟩:=(IZ k x l r).1 h;rw[CM,b d h3];by_cases hk:k=1
  ·rw[Aq hk];split
   ·rfl
   ·rw[h1 hk,hk]; simp
  ·rw[Am hk,a _ h2]
theorem kR (h:Dd [t]):AZ 0 0 t=t:=by
 have:=kQ [t] 0 h;rw[Eo]at this;simpa using this
theorem kS (v:Value) (t:Lm) (w:World) (X:Nat->Prop) (f:MV w X v t):
  Calls prog 58 #[v] w λe w'=>∃T a c,e=.returned (.func (.func 77) #[] #[zC T])/\Ab w' T (zE t a c) 24/\Ap w' X a t.subs/\Below w.heap.size w w':=by
 have aa:=@hmq prog;obtain⟨a,c,rfl,b⟩:=f;have d:Hid (Below w.heap.size w (w.alloc (zm t a c))):=(Ac _ _).alloc (Af _) _;have g:=Aa (b.later d.o);have h:Hid (Ab (w.alloc (zm t a c)) w.heap.size (zE t a c) 24):=Ab.new _ _ _;clear b;go_in;go_wp2_with fail;go_ret;exact⟨_,a,c,rfl,h.o,g.o,d.o⟩
theorem OL {w1:World} {x:Lm} (f:Ap w1 (λb=>w.heap.size+2<=b) a x.subs) (h0:Below w.heap.size w w1) (u u' e:Value):
  MV (((w1.setCell (zD (w.heap.size+1) 0) u).setCell (zD (w.heap.size+1) 1) u').setCell (zD (w.heap.size+1) 2) e) (λb=>w.heap.size+2<=b) (.agg (zE x a c)) x/\Below w.heap.size w (((w1.setCell (zD (w.heap.size+1) 0) u).setCell (zD (w.heap.size+1) 1) u').setCell (zD (w.heap.size+1) 2) e):=by
 refine⟨⟨a,c,rfl,f.kept λb hb=>?_⟩,((h0.setCell (p:=(zD (w.heap.size+1) 0)) (by simp) _).setCell (p:=(zD (w.heap.size+1) 1)) (by simp) _).setCell (p:=(zD (w.heap.size+1) 2)) (by simp) _⟩;have d:b≠w.heap.size+1:=by omega
 rw[Ak _ _ _ _ (by simpa using d),Ak _ _ _ _ (by simpa using d),Ak _ _ _ _ (by simpa using d)]
theorem kT (t:Lm) (u:Int) (A:Eq u t) (v:Value) (w:World) (X:Nat->Prop) (B:MV w X v t):
  Calls prog 100 #[v,zA 0] w λe w'=>∃n,e=.returned n/\MV w' (λb=>w.heap.size<=b) n t/\Below w.heap.size w w':=by
 obtain⟨a,c,rfl,q⟩:=B;obtain⟨g1,g2,⟨M,g3,hM⟩,g4⟩:=A;have g:=MI _ _ _ g3;have i:Below w.heap.size w (((w.alloc (zm t a c)).alloc zi).alloc (zp #[zA 9223372036854775807] 152)):=(Dk _ _).alloc (by simp; omega) _;have r:(((w.alloc (zm t a c)).alloc zi).alloc (zp #[zA 9223372036854775807] 152)).heap.size=w.heap.size+3:=by simp
 have s:Ab (((w.alloc (zm t a c)).alloc zi).alloc (zp #[zA 9223372036854775807] 152)) (w.heap.size+1+1) #[zA 9223372036854775807] 152:=(by have h:=Ab.new ((w.alloc (zm t a c)).alloc zi) #[zA 9223372036854775807] 152;simpa using h);have x:Ab (((w.alloc (zm t a c)).alloc zi).alloc (zp #[zA 9223372036854775807] 152)) (w.heap.size+1) zJ 24:=(by have h:=(Ab.new (w.alloc (zm t a c)) zJ 24).alloc (zp #[zA 9223372036854775807] 152);simpa using h);have j:=Aa (OK (w.heap.size+1+1) 0 (by omega) (by omega) t 9223372036854775807 (.agg (zE t a c)) (((w.alloc (zm t a c)).alloc zi).alloc (zp #[zA 9223372036854775807] 152)) (λb=>X b/\b<w.heap.size) ⟨a,c,rfl,(q.mono (Y:=λb=>X b/\b<w.heap.size) λb h1 h2=>⟨h1,h2⟩).later i⟩ (λb hb=>by omega) (by omega) (by omega) (Jv _ _ _ g1 (by omega) (by omega) g3) g s);rw[kR g]at j;have d:=Aa i;have k:=Aa r;have C:=Aa x;have D:Ai [t]<=9223372036854775807:=by omega
 clear q i r s x g3 g;go_in;go_wp2_with fail;refine j.o.mono ?_;rintro e w1 ⟨k',x',l,l',c',m,rfl,hF,hx,hy,_⟩;obtain⟨_,rfl,rfl,rfl,y⟩:=hy D;have h1:w.heap.size+3<=w1.heap.size:=by have:=hx.size; have:=k.o; omega
 have E:Hid (Below w.heap.size w w1):=⟨hx.os.trans d.o.os,hx.tape.trans d.o.tape,hx.output.trans d.o.output,by omega,λb hb=>(hx.block b (by have:=k.o; omega) (by omega)).trans (d.o.block b hb)⟩;have f:=Aa (C.o.ex hx (by omega));have F:Hid (Ap w1 (λb=>w.heap.size+2<=b) l t.subs):=y.mono λb h _=>by have h':(((w.alloc (zm t a c)).alloc zi).alloc (zp #[zA 9223372036854775807] 152)).heap.size<=b:=h; have:=k.o; omega
 have G:=f.o.c0;have H:=f.o.c1;have I:=f.o.c2;have rf:=f.o.frozen;clear hF hx hy y j;go_wp2_with fail;refine Ao (v:=.agg (zE t l c')) (by simp[results,results100,go_sem,AL,AE,G,H,I]) rfl ?_;have z:=OL (c:=c') F.o E.o (zA t.kind) (zA t.idx) (.slice l t.subs.length c');exact⟨_,rfl,z.1.mono λb hb _=>by omega,z.2⟩
theorem kU (t:Lm) (u:Int) (n:Eq u t) (v:Value) (w:World) (X:Nat->Prop) (q:MV w X v t):
  Calls prog 94 #[v] w λe w'=>∃i,e=.returned i/\MV w' (λb=>w.heap.size+2<=b) i t/\Below w.heap.size w w':=by
 obtain⟨a,c,rfl,j⟩:=q;have r:Hid (MV ((w.alloc (zm t a c)).alloc zi) X (.agg (zE t a c)) t):=⟨a,c,rfl,j.later (Dk _ _)⟩;have s:Hid (Below w.heap.size w ((w.alloc (zm t a c)).alloc zi)):=Dk _ _;have k:Hid (Ab ((w.alloc (zm t a c)).alloc zi) (w.heap.size+1) zJ 24):=by
  have h:=Ab.new (w.alloc (zm t a c)) zJ 24;unfold Hid;simpa using h
 clear j;go_in;go_wp2_with fail;refine(kT t u n _ _ X r.o).mono ?_;rintro e w1 ⟨v1,rfl,⟨f,c1,rfl,l⟩,g⟩;have x:=Aa (s.o.trans (g.mono (by simp; omega)));have d:=Aa (k.o.below g k.o.lt);have y:Hid (Ap w1 (λb=>w.heap.size+2<=b) f t.subs):=l.mono λb h _=>by simp at h; omega
 have z:=d.o.c0;have A:=d.o.c1;have B:=d.o.c2;have rf:=d.o.frozen;clear l g;go_wp2_with fail;refine Ao (v:=.agg (zE t f c1)) (by simp[results,results94,go_sem,AL,AE,z,A,B]) rfl ?_;have m:=OL (c:=c1) y.o x.o (zA t.kind) (zA t.idx) (.slice f t.subs.length c1);exact⟨_,rfl,m.1,m.2⟩
theorem kW (t z:Lm) (v x:Value) (w:World) (X:Nat->Prop) (E:MV w X v t) (hx:MV w X x z) (ao:Ai [t]<=100000) (F:Cz [t]) (G:Ai [z]<=100000) (H:Cz [z]):
  Calls Tryz.prog 53 #[v,x] w λe w'=>Mv w X (AY z 0 t) e w':=by
 obtain⟨a,c,rfl,q⟩:=E;obtain⟨d,f,rfl,r⟩:=hx;have I:=Aa q;have J:=Aa r;clear q r;have j:Hid (Below w.heap.size w ((((w.alloc (zm t a c)).alloc (zm z d f)).alloc zi).alloc (zm z d f))):=((((Ac w.heap.size w).alloc (Af _) (zm t a c)).alloc (by simp) (zm z d f)).alloc (by simp; omega) zi).alloc (by simp; omega) (zm z d f);have s:Hid (Ab ((((w.alloc (zm t a c)).alloc (zm z d f)).alloc zi).alloc (zm z d f)) (w.heap.size+1+1) zJ 24):=by
  have h:=(Ab.new ((w.alloc (zm t a c)).alloc (zm z d f)) zJ 24).alloc (zm z d f);simp only[Ca] at h;exact h
 have k:Hid (Ab ((((w.alloc (zm t a c)).alloc (zm z d f)).alloc zi).alloc (zm z d f)) (w.heap.size+1+1+1) (zE z d f) 24):=(by have h:=Ab.new (((w.alloc (zm t a c)).alloc (zm z d f)).alloc zi) (zE z d f) 24;simp only[Ca] at h;exact h);go_in;go_wp2_with fail;generalize u:((((w.alloc (zm t a c)).alloc (zm z d f)).alloc zi).alloc (zm z d f))=W at *;have l:W.heap.size=w.heap.size+4:=by rw[<-u]; simp
 clear u;have y:Ap W (λb=>(X b/\b<w.heap.size)∨b=w.heap.size+1+1+1) a t.subs:=((I.o.mono (Y:=λb=>X b/\b<w.heap.size) λb h1 h2=>⟨h1,h2⟩).below j.o (λb h _=>h.2)).mono λb h _=>Ad h;have A:Ap W (λb=>(X b/\b<w.heap.size)∨b=w.heap.size+1+1+1) d z.subs:=((J.o.mono (Y:=λb=>X b/\b<w.heap.size) λb h1 h2=>⟨h1,h2⟩).below j.o (λb h _=>h.2)).mono λb h _=>Ad h;have B:Ap W (λb=>(X b/\b<w.heap.size)∨b=w.heap.size+1+1+1) (some (zD (w.heap.size+1+1+1) 0)) [z]:=by
  refine⟨by simp,Ae ⟨_,0,rfl,YU _ _ _ λi hi=>?_⟩⟩;have L:i=0:=by simpa using hi
  subst L;exact⟨Ae rfl,k.o.cell 0,k.o.cell 1,d,f,k.o.cell 2,A⟩
 refine(Yl z _ 1 G H t _ 0 W (λb=>(X b/\b<w.heap.size)∨b=w.heap.size+1+1+1) ⟨a,c,rfl,y⟩ B (Int.le_refl 0) (by omega) F).mono ?_;rintro e w1 ⟨C,c1,rfl,D,m⟩;have g:=Aa (s.o.below m (by omega));have M:=Aa (j.o.trans (m.mono (by omega)));have N:=Aa D;clear y A B k s j m D;have O:=g.o.c0;have P:=g.o.c1;have R:=g.o.c2;have rf:=g.o.frozen;have T:=g.o.lt;have U:=Aa l;clear l;go_wp2_with fail;refine Ao (v:=.agg #[zA (AY z 0 t).kind,zA (AY z 0 t).idx,.slice C (AY z 0 t).subs.length c1]) (by simp[results,Tryz.results53,go_sem,AL,AE,O,P,R,T]) rfl ?_;have l:=U.o;refine⟨C,c1,rfl,(N.o.kept λb hb=>?_).mono λb hb _=>?_,((M.o.setCell (by simp; omega) _).setCell (by simp; omega) _).setCell (by simp; omega) _⟩
 ·have n:b≠w.heap.size+1+1:=by
   rcases hb with ⟨h|h,_⟩|h
   ·have:=h.2; omega
   ·omega
   ·omega
  rw[Ak _ _ _ _ (by simpa using n),Ak _ _ _ _ (by simpa using n),Ak _ _ _ _ (by simpa using n)]
 ·rcases hb with ⟨h|h,_⟩|h
  ·exact Ad h
  ·right; omega
  ·right; omega
def Iu (w:World) (t z:Lm) (a az:Option Addr) (c cz:Nat) (wr:World):Prop:=
 Below w.heap.size w wr/\Ab wr w.heap.size (zE t a c) 24/\Ab wr (w.heap.size+1) (zE z az cz) 24
theorem Iu.start (w:World) (t z:Lm) (a b:Option Addr) (c d:Nat):Iu w t z a b c d ((w.alloc (zm t a c)).alloc (zm z b d)):=by
 refine⟨((Ac _ _).alloc (Af _) _).alloc (by simp) _,(Ab.new w _ _).alloc _,?_⟩;have h:=Ab.new (w.alloc (zm t a c)) (zE z b d) 24;simp only[Ca] at h;exact h
theorem Iu.later {w':World} (h:Iu w t z a b c d wr) (hb:Below wr.heap.size wr w'):Iu w t z a b c d w':=
 ⟨h.1.trans (hb.mono h.1.size),h.2.1.below hb h.2.1.lt,h.2.2.below hb h.2.2.lt⟩
theorem Iu.alloc (h:Iu w t z a b c d wr) (o:Obj):Iu w t z a b c d (wr.alloc o):=h.later ((Ac _ _).alloc (Af _) o)
