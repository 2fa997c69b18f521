import Derived.Test.YtacmmcnnhfmepaaGreatDoorLg11
import Derived.Test.YtacmmcnnhfmepaaGreatDoorIf20
namespace Go.Proofs.YtacmmcnnhfmepaaGreatDoor
set_option linter.all false
set_option maxRecDepth 9999
set_option maxHeartbeats 0
open Go.RowKit Go.Proofs.Tryz
variable {W t:Lm} {y:Ty} {E z:Int}
theorem PX.Par.okL {p q:PX} (h:PX.Par p q):∀u,p.ok u->q.ok u:=by
 induction h with
 |v i=>intro u k; exact k
 |c k=>intro u k; exact k
 |l _ d=>intro u k; exact d (u+1) k
 |a _ _ h1 h2=>intro u k; exact⟨h1 u k.1,h2 u k.2⟩
 |b _ _ h1 h2=>intro u k; exact PX.ins_ok (h2 u k.2) (h1 (u+1) k.1)
theorem PX.Pars.okL {p q:PX} (h:PX.Pars p q) {u:Nat} (k:p.ok u):q.ok u:=by
 induction h with
 |refl=>exact k
 |tail _ h a=>exact h.okL u a
theorem VY (inn:Bool):∀(k:Nat) (t r:Lm) (j:Nat),Bm inn k t=(0,r,j)->Ai [t]<=2000->Ai [r]<=2000
 |0,t,r,j,h,hz=>by
  rw[Bm]at h;by_cases a:AN [t]=true
  ·rw[Aq a]at h; simp at h
  ·rw[Am a]at h;simp only[Fq,true_and] at h;rw[<-h.1]; exact hz
 |k+1,t,r,j,h,hz=>by
  rw[Bm]at h;by_cases a:AN [t]=true
  ·rw[Aq a]at h;by_cases b:2000<Ai [BG inn 2001 t]
   ·rw[Aq b]at h; simp at h
   ·rw[Am b]at h;generalize c:Bm inn k (BG inn 2001 t)=g at h;obtain⟨g1,g2,g3⟩:=g;simp only[Fq] at h;obtain⟨rfl,rfl,rfl⟩:=h;exact VY inn k _ _ _ c (by omega)
  ·rw[Am a]at h;simp only[Fq,true_and] at h;rw[<-h.1]; exact hz
def Ll (O:Int×Ty) (t:Lm) (y:Ty):Prop:=Ds O y=(true,0)->Bl [y]/\∃p:PX,p.m=t/\p.ok 0/\p.sz<=200/\HT (DF []) p (Dm y)
theorem Ll.fin {O:Int×Ty} (h:Ll O t y) (ho:Ds O y=(true,0)) {m:Nat} (he:(Bm false m t).1=0):Bl [y]/\∃q:PX,q.m=(Bm false m t).2.1/\q.st=false/\q.ok 0/\q.sz<=10000/\HT (DF []) q (Dm y):=by
 obtain⟨h0,p,rfl,h1,h2,h3⟩:=h ho;generalize a:Bm false m p.m=g at he ⊢;obtain⟨g1,g2,g3⟩:=g;have he:g1=0:=he;subst he;obtain⟨q,hq,hp,b,-⟩:=Ta false m p g2 g3 a;refine⟨h0,q,hq.symm,b,hp.okL h1,?_,HT.pars hp h3⟩;have hz:=VY false m p.m g2 g3 a (by rw[Hn]; omega);rw[hq,Hn]at hz;omega
def Hz (O:Int×Ty) (t:Lm) (y:Ty) (z:Int) (E:Int) (W:Lm):Prop:=
 ((Ds O y).2≠0/\E=(Ds O y).2/\W=⟨0,0,[]⟩)∨(Ds O y=(false,0)/\E=11/\W=⟨0,0,[]⟩)∨(Ds O y=(true,0)/\DQ t 0 z≠0/\E=DQ t 0 z/\W=⟨0,0,[]⟩)∨
 (Ds O y=(true,0)/\DQ t 0 z=0/\(Bm false z.toNat t).1≠0/\E=(Bm false z.toNat t).1/\W=⟨0,0,[]⟩)∨
 (Ds O y=(true,0)/\DQ t 0 z=0/\(Bm false z.toNat t).1=0/\∃(q:PX) (m:Int) (o:Lm),q.m=(Bm false z.toNat t).2.1/\Cr true [] q y 2000 m o/\((0<=m/\E=0/\W=o)∨(m<0/\E=8/\W=⟨0,0,[]⟩)))
theorem Hz.zero {O:Int×Ty} (h:Hz O t y z E W) (a:E≠0):W=⟨0,0,[]⟩:=by
 rcases h with ⟨_,_,h⟩|⟨_,_,h⟩|⟨_,_,_,h⟩|⟨_,_,_,_,h⟩|⟨_,_,_,_,_,_,_,_,⟨_,h,_⟩|⟨_,_,h⟩⟩
 ·exact h
 ·exact h
 ·exact h
 ·exact h
 ·exact absurd h a
 ·exact h
theorem Hz.det {O:Int×Ty} {E':Int} {W':Lm} (h:Hz O t y z E W) (h':Hz O t y z E' W'):E=E'/\W=W':=by
 have F:(false,(0:Int))≠(true,0):=by decide
 rcases h with ⟨a,rfl,rfl⟩|⟨a,rfl,rfl⟩|⟨a,b,rfl,rfl⟩|⟨a,b,c,rfl,rfl⟩|⟨a,b,c,q,m,o,d,l,e⟩<;>
  rcases h' with ⟨f,rfl,rfl⟩|⟨f,rfl,rfl⟩|⟨f,b',rfl,rfl⟩|⟨f,b',c',rfl,rfl⟩|⟨f,b',c',q',m',o',d',l',e'⟩<;>
  first
  |exact⟨rfl,rfl⟩
  | (exfalso; rw[f] at a; exact a rfl)
  | (exfalso; rw[a] at f; exact f rfl)
  | (exfalso; rw[a] at f; exact F f)
  | (exfalso; rw[f] at a; exact F a)
  |exact absurd b' b
  |exact absurd b b'
  |exact absurd c' c
  |exact absurd c c'
  |skip
 obtain rfl:=MJ (d.trans d'.symm);rcases l.both l' with ⟨g,i,rfl⟩|⟨g,i⟩
 ·rcases e with ⟨_,rfl,rfl⟩|⟨h1,_⟩
  ·rcases e' with ⟨_,rfl,rfl⟩|⟨h1,_⟩
   ·exact⟨rfl,rfl⟩
   ·omega
  ·omega
 ·rcases e with ⟨h1,_⟩|⟨_,rfl,rfl⟩
  ·omega
  ·rcases e' with ⟨h1,_⟩|⟨_,rfl,rfl⟩
   ·omega
   ·exact⟨rfl,rfl⟩
theorem Pl (O:Int×Ty) (ax:Ll O t y) (z:Int) (v u:Value) (w:World) (X Y:Nat->Prop) (hv:MV w X v t) (hu:YV w Y u y) (HH:∀w',Below w.heap.size w w'->Calls prog 37 #[v,u] w' λe aG=>e=.returned (.tuple #[.bool (Ds O y).1,zA (Ds O y).2])/\Below w'.heap.size w' aG):
  Calls prog 15 #[v,u,zA z] w λe w'=>∃(E:Int) (W:Lm) (a:Option Addr) (c:Nat),Hz O t y z E W/\e=.returned (.tuple #[.agg (zE W a c),zA E])/\Ap w' EP a W.subs/\Below w.heap.size w w'/\(E≠0->a=none/\c=0):=by
 have HV:=Aa hv;have HU:=Aa hu;have aH:=Aa HH;have aI:=Aa ax;clear HH ax;obtain⟨a,c,rfl,-⟩:=hv;obtain⟨a',c',rfl,-⟩:=hu;obtain⟨Dq,ay,az,a1⟩:=Fz w (zE t a c) (zH y a' c') zJ 24 27 24;have B2:=Aa Dq;have P:=Aa ay;have K2:=Aa az;have K3:=Aa a1;clear Dq ay az a1;go_in;go_upto_region 1 with fail;generalize (((w.alloc _).alloc _).alloc _)=w2 at *;have x0:=P.o.c0;have x1:=P.o.c1;have x2:=P.o.c2;have y0:=K2.o.c0;have y1:=K2.o.c1;go_wp2_with fail;refine(aH.o w2 B2.o).mono ?_;rintro e w3 ⟨rfl,ak⟩;have D:=Aa (B2.o.trans (ak.mono B2.o.size));have L1:=Aa (P.o.below ak P.o.lt);have L2:=Aa (K2.o.below ak K2.o.lt);have d:=Aa (K3.o.below ak K3.o.lt);clear ak x0 x1 x2 y0 y1 P K2 K3 B2;obtain⟨ok,er,aq⟩:∃ok er,Ds O y=(ok,er):=⟨_,_,rfl⟩;have F:=Aa aq;rw[aq];clear aq;(try dsimp only[zG]);(try dsimp only[zH]);(try dsimp only[zE]);(try dsimp only);by_cases ar:er=0;case neg=>
  have hne:(er !=0)=true:=by simpa using ar
  have r0:=d.o.c0;have r1:=d.o.c1;have r2:=d.o.c2;have rf:=d.o.frozen;go_wp2_with fail;have U:=C8 d.o (zA 0) (zA 0) (zB);have G:=Dn (A:=w.heap.size+1+1) D.o (by omega) (zA 0) (zA 0) (zB);generalize (((w3.setCell _ _).setCell _ _).setCell _ _)=w9 at *;have j:=U.c0;have s1:=U.c1;have s2:=U.c2;refine Ao (v:=.tuple #[.agg zJ,zA er]) (by simp[results,results15,go_sem,j,s1,s2]) rfl ?_;exact⟨er,⟨0,0,[]⟩,none,0,Ad ⟨by rw[F.o]; exact ar,by rw[F.o],rfl⟩,rfl,⟨by simp,Ad rfl⟩,G,λ_=>⟨rfl,rfl⟩⟩
 case pos=>
  subst ar;cases ok with
  |false=>have r0:=d.o.c0;have r1:=d.o.c1;have r2:=d.o.c2;have rf:=d.o.frozen;go_wp2_with fail;have U:=C8 d.o (zA 0) (zA 0) (zB);have G:=Dn (A:=w.heap.size+1+1) D.o (by omega) (zA 0) (zA 0) (zB);generalize (((w3.setCell _ _).setCell _ _).setCell _ _)=w9 at *;have j:=U.c0;have s1:=U.c1;have s2:=U.c2;refine Ao (v:=.tuple #[.agg zJ,zA 11]) (by simp[results,results15,go_sem,j,s1,s2]) rfl ?_;exact⟨11,⟨0,0,[]⟩,none,0,Ae (Ad ⟨F.o,rfl,rfl⟩),rfl,⟨by simp,Ad rfl⟩,G,λ_=>⟨rfl,rfl⟩⟩
  |true=>
   have x0:=L1.o.c0;have x1:=L1.o.c1;have x2:=L1.o.c2;by_cases r:DQ t 0 z=0;case neg=>
    have L:=Aa r;go_wp2_with fail;refine(mV t 0 z r _ w3 X (HV.o.later D.o)).mono ?_;rintro e f ⟨rfl,H⟩;have s:=Aa (D.o.trans (H.mono D.o.size));have x:=Aa (d.o.below H d.o.lt);obtain⟨k,M⟩:∃k,k=DQ t 0 z:=⟨_,rfl⟩;rw[<-M]at L ⊢;have al:=Aa M;have hne:(k !=0)=true:=(by simpa using L.o);clear H x0 x1 x2 r M L1 L2 d;go_upto_region 7 with fail;have i:Below f.heap.size f (f.alloc zi):=(Ac _ _).alloc (Af _) _;have N:=Aa (s.o.trans (i.mono s.o.size));have g:=Aa (x.o.below i x.o.lt);clear i s x;generalize an:f.alloc zi=R at *;clear an;have r0:=g.o.c0;have r1:=g.o.c1;have r2:=g.o.c2;have rf:=g.o.frozen;go_wp2_with fail;have U:=C8 g.o (zA 0) (zA 0) (zB);have G:=Dn (A:=w.heap.size+1+1) N.o (by omega) (zA 0) (zA 0) (zB);generalize (((R.setCell _ _).setCell _ _).setCell _ _)=w9 at *;have j:=U.c0;have s1:=U.c1;have s2:=U.c2;refine Ao (v:=.tuple #[.agg zJ,zA k]) (by simp[results,results15,go_sem,j,s1,s2]) rfl ?_;exact⟨k,⟨0,0,[]⟩,none,0,Ae (Ae (Ad ⟨F.o,by rw[<-al.o]; exact L.o,al.o,rfl⟩)),rfl,⟨by simp,Ad rfl⟩,G,λ_=>⟨rfl,rfl⟩⟩
   case pos=>
    have a7:BO 0 0 t=0/\0<=z/\z<=400:=by
     unfold DQ at r;split at r
     ·rename_i h; split at r
      ·cases r
      ·exact⟨h,by omega,by omega⟩
     ·rename_i h; exact absurd r h
    obtain⟨n,rfl⟩:∃n:Nat,z=(n:Int):=⟨z.toNat,by omega⟩;have L:=Aa r;have T:Hid ((n:Int).toNat=n):=Int.toNat_natCast n;go_wp2_with fail;refine(mW t 0 n (by omega) a7.1 _ w3 (λb=>X b/\b<w.heap.size) ((HV.o.mono (Y:=λb=>X b/\b<w.heap.size) λb h1 h2=>⟨h1,h2⟩).later D.o)).mono ?_;rintro e f ⟨H,ab⟩;have aJ:Hid (w.heap.size+1+1<w3.heap.size):=d.o.lt;have s:=Aa (D.o.trans (H.mono D.o.size));have N2:=Aa (L2.o.below H L2.o.lt);have x:=Aa (d.o.below H d.o.lt);clear H x0 x1 x2 r a7 L1 L2 d;rcases ab with ⟨h0,a4,c4,rfl,au⟩|⟨h0,rfl⟩;case inr=>
     obtain⟨k,M⟩:∃k,k=(Bm false n t).1:=⟨_,rfl⟩;rw[<-M]at h0 ⊢;have al:=Aa M;have H0:=Aa h0;have hne:(k !=0)=true:=(by simpa using H0.o);clear M h0;go_upto_region 7 with fail;have i:Below f.heap.size f (f.alloc zi):=(Ac _ _).alloc (Af _) _;have N:=Aa (s.o.trans (i.mono s.o.size));have g:=Aa (x.o.below i x.o.lt);clear i s x N2;generalize an:f.alloc zi=R at *;clear an;have r0:=g.o.c0;have r1:=g.o.c1;have r2:=g.o.c2;have rf:=g.o.frozen;go_wp2_with fail;have U:=C8 g.o (zA 0) (zA 0) (zB);have G:=Dn (A:=w.heap.size+1+1) N.o (by omega) (zA 0) (zA 0) (zB);generalize (((R.setCell _ _).setCell _ _).setCell _ _)=w9 at *;have j:=U.c0;have s1:=U.c1;have s2:=U.c2;refine Ao (v:=.tuple #[.agg zJ,zA k]) (by simp[results,results15,go_sem,j,s1,s2]) rfl ?_;exact⟨k,⟨0,0,[]⟩,none,0,Ae (Ae (Ae (Ad ⟨F.o,L.o,by rw[T.o,<-al.o]; exact H0.o,by rw[T.o]; exact al.o,rfl⟩))),rfl,⟨by simp,Ad rfl⟩,G,λ_=>⟨rfl,rfl⟩⟩
    case inl=>
     obtain⟨a8,q,hq,aA,aB,aC,aD⟩:=aI.o.fin F.o h0;have H0:=Aa h0;have HQ:=Aa hq;rw[<-hq];rw[<-hq]at au;clear hq h0;have S4:Hid (Ap f (λb=>b<f.heap.size/\b≠w.heap.size+1+1) a4 q.m.subs):=au.mono λb h1 h=>⟨h,h1.elim (λh1=>by have h2:=h1.1.2; omega) λh1=>by have h2:=aJ.o; omega⟩;clear au;go_upto_region 7 with fail;have i:Below f.heap.size f (f.alloc (zm q.m a4 c4)):=(Ac _ _).alloc (Af _) _;have N:=Aa (s.o.trans (i.mono s.o.size));have P5:=Aa (Ab.new f (zE q.m a4 c4) 24);have M2:=Aa (N2.o.below i N2.o.lt);have g:=Aa (x.o.below i x.o.lt);have S5:=Aa (S4.o.later i);clear i s x N2 S4;generalize an:f.alloc (zm q.m a4 c4)=R at *;clear an;have aK:Hid (w.heap.size+1+1<R.heap.size):=g.o.lt;have q0:=P5.o.c0;have q1:=P5.o.c1;have q2:=P5.o.c2;have y0:=M2.o.c0;have y1:=M2.o.c1;have ao:=Aa (And.intro a8 (And.intro aA (And.intro aB (And.intro aC aD))));clear a8 aA aB aC aD;go_wp2_with fail;refine(oR q y _ _ R (λb=>b<f.heap.size/\b≠w.heap.size+1+1) Y ao.o.2.1 ao.o.2.2.1 ao.o.2.2.2.1 ao.o.1 ao.o.2.2.2.2 ⟨a4,c4,rfl,S5.o⟩ (HU.o.later N.o)).mono ?_;rintro e B ⟨m,o,aE,av,ab⟩;have LL:=Aa aE;have V:=Aa (N.o.trans (av.mono N.o.size));have Z:=Aa (g.o.below av g.o.lt);clear aE av q0 q1 q2 y0 y1 M2 g P5 S5;rcases ab with ⟨hm,C,I,rfl,aF⟩|⟨hm,rfl⟩;case inr=>
      go_upto_region 10 with fail;have J:Below B.heap.size B (B.alloc zi):=(Ac _ _).alloc (Af _) _;have B7:=Aa (V.o.trans (J.mono V.o.size));have l:=Aa (Z.o.below J Z.o.lt);clear J Z V;generalize aw:B.alloc zi=w7 at *;clear aw;have r0:=l.o.c0;have r1:=l.o.c1;have r2:=l.o.c2;have rf:=l.o.frozen;go_wp2_with fail;have U:=C8 l.o (zA 0) (zA 0) (zB);have G:=Dn (A:=w.heap.size+1+1) B7.o (by omega) (zA 0) (zA 0) (zB);generalize (((w7.setCell _ _).setCell _ _).setCell _ _)=w9 at *;have j:=U.c0;have s1:=U.c1;have s2:=U.c2;refine Ao (v:=.tuple #[.agg zJ,zA 8]) (by simp[results,results15,go_sem,j,s1,s2]) rfl ?_;exact⟨8,⟨0,0,[]⟩,none,0,Ae (Ae (Ae (Ae ⟨F.o,L.o,by rw[T.o]; exact H0.o,q,m,o,by rw[T.o]; exact HQ.o,LL.o,Ae ⟨hm,rfl,rfl⟩⟩))),rfl,⟨by simp,Ad rfl⟩,G,λ_=>⟨rfl,rfl⟩⟩
     case inl=>
      have S6:Hid (Ap B (λb=>b≠w.heap.size+1+1) C o.subs):=aF.mono λb h _=>h.elim (λh=>h.1.2) λh=>by have h2:=aK.o; omega
      clear aF;go_upto_region 10 with fail;have J:Below B.heap.size B (B.alloc (zm o C I)):=(Ac _ _).alloc (Af _) _;have B7:=Aa (V.o.trans (J.mono V.o.size));have P7:=Aa (Ab.new B (zE o C I) 24);have l:=Aa (Z.o.below J Z.o.lt);have S7:=Aa (S6.o.later J);clear J Z V S6;generalize aw:B.alloc (zm o C I)=w7 at *;clear aw;have q0:=P7.o.c0;have q1:=P7.o.c1;have q2:=P7.o.c2;have r0:=l.o.c0;have r1:=l.o.c1;have r2:=l.o.c2;have rf:=l.o.frozen;go_wp2_with fail;have U:=C8 l.o (zA o.kind) (zA o.idx) (.slice C o.subs.length I);have GG:=Dn (A:=w.heap.size+1+1) B7.o (by omega) (zA o.kind) (zA o.idx) (.slice C o.subs.length I);have SX:Ap (((w7.setCell (zD (w.heap.size+1+1) 0) (zA o.kind)).setCell (zD (w.heap.size+1+1) 1) (zA o.idx)).setCell (zD (w.heap.size+1+1) 2) (.slice C o.subs.length I)) EP C o.subs:=(S7.o.kept λb h=>by rw[Ak _ _ _ _ h,Ak _ _ _ _ h,Ak _ _ _ _ h]).mono λ_ _ _=>trivial;generalize (((w7.setCell _ _).setCell _ _).setCell _ _)=w9 at *;have j:=U.c0;have s1:=U.c1;have s2:=U.c2;refine Ao (v:=.tuple #[.agg (zE o C I),zA 0]) (by simp[results,results15,go_sem,j,s1,s2]) rfl ?_;exact⟨0,o,C,I,Ae (Ae (Ae (Ae ⟨F.o,L.o,by rw[T.o]; exact H0.o,q,m,o,by rw[T.o]; exact HQ.o,LL.o,Ad ⟨hm,rfl,rfl⟩⟩))),rfl,SX,GG,λh=>absurd rfl h⟩
theorem qP (O:Int×Ty) (P:Ll O t y) (z:Int) (v1 v2 u:Value) (w:World) (X Y:Nat->Prop) (R:MV w X v1 t) (T:MV w X v2 t) (hu:YV w Y u y) (U:∀v w',(v=v1∨v=v2)->Below w.heap.size w w'->Calls prog 37 #[v,u] w' λe av=>e=.returned (.tuple #[.bool (Ds O y).1,zA (Ds O y).2])/\Below w'.heap.size w' av):
  Calls prog 16 #[v1,v2,u,zA z] w λe w'=>∃(E:Int) (W:Lm),Hz O t y z E W/\e=.returned (.tuple #[.bool (decide (E=0)),zA E])/\Below w.heap.size w w':=by
 have HV:=Aa R;have aw:=Aa T;have V:=Aa hu;have Z:=Aa U;have ak:=Aa P;clear U P;obtain⟨a,c,rfl,-⟩:=R;obtain⟨a2,c2,rfl,-⟩:=T;obtain⟨a',c',rfl,-⟩:=hu;obtain⟨Dq,al,an,ao⟩:=Fz w (zE t a c) (zE t a2 c2) (zH y a' c') 24 24 27;have b:=Aa Dq;have l:=Aa al;have A:=Aa an;have g:=Aa ao;clear Dq al an ao;go_in;go_upto_region 1 with fail;generalize (((w.alloc _).alloc _).alloc _)=w2 at *;have m:=l.o.c0;have n:=l.o.c1;have q:=l.o.c2;have B:=g.o.c0;have C:=g.o.c1;go_wp2_with fail;refine(Pl O ak.o z _ _ w2 X Y (HV.o.later b.o) (V.o.later b.o) (λw' h=>Z.o _ w' (Ad rfl) (b.o.trans (h.mono b.o.size)))).mono ?_;rintro e w3 ⟨E,W,a3,c3,i,rfl,aq,r,-⟩;have D:=Aa i;have F:=Aa (b.o.trans (r.mono b.o.size));have G:=Aa (A.o.below r A.o.lt);have H:=Aa (g.o.below r g.o.lt);have S3:Hid (Ap w3 EP a3 W.subs):=aq;clear i r aq m n q B C l A g;go_upto_region 2 with fail;have j:Below w3.heap.size w3 (w3.alloc (zm W a3 c3)):=(Ac _ _).alloc (Af _) _;have d:=Aa (F.o.trans (j.mono F.o.size));have I:=Aa (Ab.new w3 (zE W a3 c3) 24);have M2:=Aa (G.o.below j G.o.lt);have J:=Aa (H.o.below j H.o.lt);have S4:=Aa (S3.o.later j);clear j G H S3 F b;generalize ax:w3.alloc (zm W a3 c3)=w4 at *;clear ax;by_cases s:E=0;case neg=>
  have hne:(E !=0)=true:=by simpa using s
  have HE:=Aa s;clear s;go_wp2_with fail;refine Ao (v:=.tuple #[.bool false,zA E]) (by simp[results,results16,go_sem]) rfl ?_;exact⟨E,W,D.o,by rw[G1 HE.o],d.o⟩
 case pos=>subst s;have m:=M2.o.c0;have n:=M2.o.c1;have q:=M2.o.c2;have B:=J.o.c0;have C:=J.o.c1;go_wp2_with fail;refine(Pl O ak.o z _ _ w4 X Y (aw.o.later d.o) (V.o.later d.o) (λw' h=>Z.o _ w' (Ae rfl) (d.o.trans (h.mono d.o.size)))).mono ?_;rintro e f ⟨E2,W2,a5,c5,i,rfl,ar,x,-⟩;obtain⟨rfl,rfl⟩:=D.o.det i;have B5:=Aa (d.o.trans (x.mono d.o.size));have L:=Aa (I.o.below x I.o.lt);have S5:=Aa (S4.o.later x);have T5:Hid (Ap f EP a5 W.subs):=ar;clear i x ar m n q B C M2 J I S4;go_upto_region 5 with fail;have k:Below f.heap.size f (f.alloc (zm W a5 c5)):=(Ac _ _).alloc (Af _) _;have B6:=Aa (B5.o.trans (k.mono B5.o.size));have M:=Aa (L.o.below k L.o.lt);have N:=Aa (Ab.new f (zE W a5 c5) 24);have S6:=Aa (S5.o.later k);have T6:=Aa (T5.o.later k);clear k L S5 T5;generalize ay:f.alloc (zm W a5 c5)=w6 at *;clear ay;have m:=M.o.c0;have n:=M.o.c1;have q:=M.o.c2;have q0:=N.o.c0;have q1:=N.o.c1;have q2:=N.o.c2;go_wp2_with fail;refine(oU W _ _ w6 _ _ ⟨a3,c3,rfl,S6.o⟩ ⟨a5,c5,rfl,T6.o⟩).mono ?_;rintro e w7 ⟨rfl,au⟩;have B7:=Aa (B6.o.trans (au.mono B6.o.size));clear au;go_wp2_with fail;refine Ao (v:=.tuple #[.bool true,zA 0]) (by simp[results,results16,go_sem]) rfl ?_;exact⟨0,W,D.o,rfl,B7.o⟩
