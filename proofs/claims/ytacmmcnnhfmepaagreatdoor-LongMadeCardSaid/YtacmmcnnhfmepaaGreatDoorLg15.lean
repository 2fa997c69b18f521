import Derived.Test.YtacmmcnnhfmepaaGreatDoorLg14
namespace Go.Proofs.YtacmmcnnhfmepaaGreatDoor
set_option linter.all false
set_option maxRecDepth 9999
set_option maxHeartbeats 0
open Go.RowKit Go.Proofs.Tryz
variable {t:Lm} {y:Ty} {b:Int} {B:Nat}
theorem qQ (h:CR y≠0) (v u:Value) (w:World) (X Y:Nat->Prop) (j:MV w X v t) (hu:YV w Y u y):
  Calls prog 37 #[v,u] w λe w'=>e=.returned (.tuple #[.bool false,zA (CR y)])/\Below w.heap.size w w':=by
 have k:=Aa hu;obtain⟨a,c,rfl,-⟩:=j;obtain⟨l,c',rfl,-⟩:=hu;obtain⟨Dq,m,f⟩:=Iw w (zE t a c) (zH y l c') 24 27;have b:=Aa Dq;have g:=Aa f;clear Dq m f;obtain⟨E,d⟩:∃E,E=CR y:=⟨_,rfl⟩;have n:=Aa d;rw[<-d]at h ⊢;clear d;have hne:(E !=0)=true:=by simpa using h
 clear h;go_in;go_upto_region 1 with fail;generalize ((w.alloc _).alloc _)=w2 at *;have q:=g.o.c0;have r:=g.o.c1;go_wp2_with fail;refine(PC y _ w2 Y (k.o.later b.o)).mono ?_;rw[<-n.o];rintro e w3 ⟨rfl,i⟩;have s:=Aa (b.o.trans (i.mono b.o.size));clear i q r;go_wp2_with fail;refine Ao (v:=.tuple #[.bool false,zA E]) (by simp[results,results37,go_sem]) rfl ?_;exact⟨rfl,s.o⟩
def DS (a b:Int):Int:=if a=0 then b else a
theorem F1 {a:Int} (h:a≠0):DS a b=a:=Am h
theorem Ga:DS 0 b=b:=Aq rfl
def qR (t:Lm) (k e5 e6:Int) (W:Lm):Prop:=(e5≠0/\e6=e5/\W=⟨0,0,[]⟩)∨(e5=0/\(Bm false k.toNat t).1≠0/\e6=(Bm false k.toNat t).1)∨(e5=0/\(Bm false k.toNat t).1=0/\e6=0/\W=(Bm false k.toNat t).2.1)
def Gb (O:Int×Ty) (y:Ty):Int:=if O.1≠0 then O.1 else if FM O.2 y=true then 0 else 11
theorem qS {O:Int×Ty} {k e5:Int} (e:CR y=0->CH t≠0->O.1=CH t) (he:e5=DS (DS (DS (DS (CR y) (BO 0 0 t)) (if Bj [t]=true then 15 else 0)) (Gb O y)) (if k<0∨400<k then 3 else 0)):
  (e5≠0->Hz O t y k e5 ⟨0,0,[]⟩)/\(e5=0->Ds O y=(true,0)/\DQ t 0 k=0):=by
 by_cases h1:CR y=0
 ·have g:DS (DS (CR y) (BO 0 0 t)) (if Bj [t]=true then 15 else 0)=CH t:=(by rw[h1,Ga]; unfold CH DS; rfl);rw[g]at he;have i:DS (CH t) (Gb O y)=Gb O y:=by
   by_cases hp:CH t=0
   ·rw[hp,Ga]
   ·have ho:=e h1 hp;rw[F1 hp]; unfold Gb; rw[Aq (by rw[ho]; exact hp),ho]
  rw[i]at he;by_cases h2:O.1=0
  ·have c:Gb O y=if FM O.2 y=true then 0 else 11:=by unfold Gb; rw[Am (by simpa using h2)]
   rw[c]at he;have hp:CH t=0:=Er λhp=>hp ((e h1 hp).symm.trans h2);have j:BO 0 0 t=0:=by
    unfold CH at hp;split at hp
    ·assumption
    ·exact hp
   cases hc:FM O.2 y with
   |false=>
    rw[hc]at he;have he:e5=11:=by rw[he]; rfl
    subst he;exact⟨λ_=>Ae (Ad ⟨by rw[Nn h1 h2,hc],rfl,rfl⟩),λh=>by cases h⟩
   |true=>
    rw[hc]at he;have he:e5=if k<0∨400<k then 3 else 0:=by rw[he]; rfl
    have f:Ds O y=(true,0):=(by rw[Nn h1 h2,hc]);have d:DQ t 0 k=e5:=by unfold DQ; rw[Aq j,he]
    exact⟨λh=>Ae (Ae (Ad ⟨f,by rw[d]; exact h,d.symm,rfl⟩)),λh=>⟨f,by rw[d]; exact h⟩⟩
  ·have c:Gb O y=O.1:=by unfold Gb; rw[Aq h2]
   rw[c,F1 h2]at he;subst he;refine⟨λ_=>?_,λh=>absurd h h2⟩;by_cases a:O.1=11
   ·exact Ae (Ad ⟨Pk h1 a,a,rfl⟩)
   ·exact Ad ⟨by rw[Lk h1 a h2]; exact h2,by rw[Lk h1 a h2],rfl⟩
 ·rw[F1 (b:=BO 0 0 t) h1,F1 h1,F1 h1,F1 h1]at he;subst he;exact⟨λ_=>Ad ⟨by rw[Lj h1]; exact h1,by rw[Lj h1],rfl⟩,λh=>absurd h h1⟩
theorem Pm (t:Lm) (y:Ty) (k:Int) (O:Int×Ty) (hO:CR y=0->CH t≠0->O.1=CH t) (aW:Ll O t y) (aX:DS (DS (CR y) (BO 0 0 t)) (if Bj [t]=true then 15 else 0)=0->Ai [t]<=40->∃(R':Int×List Bd) (g:Nat),Au 0 0 [t]=0/\Bj [t]=false/\A0 true g [] (Az 84 t [] 0).2.1=some R'/\O=CG R' (Az 84 t [] 0).1/\(O.1=0->Bl [O.2])/\(O.1=0->D4 [O.2]))
  (v u:Value) (w:World) (X Y:Nat->Prop) (hv:MV w X v t) (hu:YV w Y u y) (hB:B<=w.heap.size) (hT:Tb B w) (HH:((DS (DS (CR y) (BO 0 0 t)) (if Bj [t]=true then 15 else 0))=0->Ai [t]<=40)->∀v u w',MV w' X v t->YV w' Y u y->Below w.heap.size w w'->Calls prog 37 #[v,u] w' λe bJ=>e=.returned (.tuple #[.bool (Ds O y).1,zA (Ds O y).2])/\Below w'.heap.size w' bJ):
  Calls prog 3 #[v,u,zA k] w λe w'=>e=.returned (.bool true)/\Below w.heap.size w w':=by
 have x:=Aa hv;have T:=Aa hu;have HT:=Aa hT;have I5:=Aa aX;clear hT aX;obtain⟨a,c,rfl,-⟩:=hv;obtain⟨a',c',rfl,-⟩:=hu;obtain⟨Dq,aY,aZ⟩:=Iw w (zE t a c) (zH y a' c') 24 27;have B2:=Aa Dq;have K2:=Aa aY;have L2:=Aa aZ;obtain⟨e1,ba⟩:∃e,e=CR y:=⟨_,rfl⟩;obtain⟨e2,bc⟩:∃e,e=DS e1 (BO 0 0 t):=⟨_,rfl⟩;obtain⟨e3,bd⟩:∃e,e=DS e2 (if Bj [t]=true then 15 else 0):=⟨_,rfl⟩;obtain⟨U,bf⟩:∃e,e=DS e3 (Gb O y):=⟨_,rfl⟩;obtain⟨e5,a7⟩:∃e,e=DS U (if k<0∨400<k then 3 else 0):=⟨_,rfl⟩;have a8:=Aa ba;have av:=Aa bc;have J:=Aa bd;have aK:=Aa bf;have aw:=Aa a7;clear Dq aY aZ ba bc bd bf a7;go_in;go_upto_region 1 with fail;generalize ((w.alloc _).alloc _)=w2 at *;go_cut [30] (λv wd=>∃b:Bool,v=.bool b/\Below w2.heap.size w2 wd);case first=>
  have f:=K2.o.c0;have i:=K2.o.c1;have j:=K2.o.c2;have r:=L2.o.c0;have s:=L2.o.c1;go_wp2_with fail;refine(Wp t _ w2 X (x.o.later B2.o)).mono ?_;rintro e w3 ⟨rfl,L⟩;have B3:=Aa (B2.o.trans (L.mono B2.o.size));have V:=Aa (L2.o.below L L2.o.lt);have Q3:=Aa L;clear L f i j r s;cases hd:decide (3000<Ai [t]) with
  |true=>go_wp2_with fail;go_meet;exact⟨true,rfl,Q3.o⟩
  |false=>
   clear hd;have r:=V.o.c0;have s:=V.o.c1;go_wp2_with fail;refine(We y _ w3 Y (T.o.later B3.o)).mono ?_;rintro e w4 ⟨rfl,M⟩;have Q4:=Aa (Q3.o.trans (M.mono Q3.o.size));clear M r s;cases bK:decide (3000<AB [y]) with
   |true=>go_wp2_with fail;go_meet;exact⟨true,rfl,Q4.o⟩
   |false=>
    clear bK;by_cases cc:30<k
    ·by_cases bL:k<=400
     ·go_wp2_with fail;go_meet;exact⟨true,rfl,Q4.o⟩
     ·go_wp2_with fail;go_meet;exact⟨false,by rw[G1 (show ¬k<=400 by omega)],Q4.o⟩
    ·go_wp2_with fail;go_meet;exact⟨false,rfl,Q4.o⟩
 case rest=>
 rename World=>w3;obtain⟨bb,rfl,L⟩:=hcut;have B3:=Aa (B2.o.trans (L.mono B2.o.size));have K3:=Aa (K2.o.below L K2.o.lt);have V:=Aa (L2.o.below L L2.o.lt);clear L K2 L2 B2;cases bb with
 |true=>go_wp2_with fail;go_ret;exact⟨rfl,B3.o⟩
 |false=>
 go_upto_region 3 with fail;go_cut [7] (λv wd=>v=zA e1/\Below w3.heap.size w3 wd);case first=>
  have r:=V.o.c0;have s:=V.o.c1;go_wp2_with fail;refine(Wm y _ w3 Y (T.o.later B3.o)).mono ?_;rintro e w4 ⟨rfl,M⟩;go_wp2_with fail;go_meet;exact⟨by rw[a8.o],M⟩
 case rest=>
 rename World=>w4;obtain⟨rfl,M⟩:=hcut;have B4:=Aa (B3.o.trans (M.mono B3.o.size));have K4:=Aa (K3.o.below M K3.o.lt);have L4:=Aa (V.o.below M V.o.lt);clear M K3 V B3;go_step;go_step;go_cut [7] (λv wd=>v=zA e2/\Below w4.heap.size w4 wd);case first=>
  by_cases h:e1=0
  ·subst h;have f:=K4.o.c0;have i:=K4.o.c1;have j:=K4.o.c2;go_wp2_with fail;refine(X7 t _ 0 0 w4 X (x.o.later B4.o)).mono ?_;rintro e w5 ⟨rfl,ax⟩;go_wp2_with fail;go_meet;exact⟨by rw[av.o,Ga],ax⟩
  ·have Z:(e1==0)=false:=(by simpa using h);go_wp2_with fail;go_meet;exact⟨by rw[av.o,F1 h],Ac _ _⟩
 case rest=>
 rename World=>w5;obtain⟨rfl,ax⟩:=hcut;have B5:=Aa (B4.o.trans (ax.mono B4.o.size));have K5:=Aa (K4.o.below ax K4.o.lt);have L5:=Aa (L4.o.below ax L4.o.lt);clear ax K4 L4 B4;go_step;go_step;go_cut [7] (λv wd=>v=zA e3/\Below w5.heap.size w5 wd);case first=>
  by_cases h:e2=0
  ·have h0:=Aa h;subst h;have f:=K5.o.c0;have i:=K5.o.c1;have j:=K5.o.c2;go_wp2_with fail;refine(qC t _ w5 X (x.o.later B5.o)).mono ?_;rintro e w6 ⟨rfl,ak⟩;cases hc:Bj [t] with
   |true=>rw[hc]at J;go_wp2_with fail;go_meet;exact⟨by rw[J.o,Ga]; rfl,ak⟩
   |false=>rw[hc]at J;go_wp2_with fail;go_meet;exact⟨by rw[J.o,Ga]; rfl,ak⟩
  ·have Z:(e2==0)=false:=(by simpa using h);go_wp2_with fail;go_meet;exact⟨by rw[J.o,F1 h],Ac _ _⟩
 case rest=>
 rename World=>w6;obtain⟨rfl,ak⟩:=hcut;have B6:=Aa (B5.o.trans (ak.mono B5.o.size));have N:=Aa (K5.o.below ak K5.o.lt);have L6:=Aa (L5.o.below ak L5.o.lt);clear ak K5 L5 B5;by_cases aa:e3=0/\40<Ai [t];case pos=>
  obtain⟨h,an⟩:=aa;subst h;have f:=N.o.c0;have i:=N.o.c1;have j:=N.o.c2;go_wp2_with fail;refine(Jk t _ 40 w6 X (x.o.later B6.o) (by decide) (by decide)).mono ?_;rintro e w7 ⟨rfl,P⟩;have B7:=Aa (B6.o.trans (P.mono B6.o.size));have bg:min ((Ai [t]:Nat):Int) (40+1)=41:=by omega
  rw[bg];clear bg P an f i j;go_wp2_with fail;go_ret;exact⟨rfl,B7.o⟩
 case neg=>
 go_step;go_step;go_cut [] (λwd=>Below w6.heap.size w6 wd);case first=>
  by_cases h:e3=0
  ·have an:¬40<Ai [t]:=λh2=>aa ⟨h,h2⟩;clear aa;subst h;have f:=N.o.c0;have i:=N.o.c1;have j:=N.o.c2;go_wp2_with fail;refine(Jk t _ 40 w6 X (x.o.later B6.o) (by decide) (by decide)).mono ?_;rintro e w7 ⟨rfl,P⟩;obtain⟨zz,bh⟩:∃zz,zz=min ((Ai [t]:Nat):Int) (40+1):=⟨_,rfl⟩;rw[<-bh];have bM:¬(40:Int)<zz:=(by omega);clear bh an;go_wp2_with fail;go_meet;exact P
  ·have Z:(e3==0)=false:=(by simpa using h);clear aa;go_wp2_with fail;go_meet;exact Ac _ _
 case rest=>
 rename World=>w7;have P:=hcut;have B7:=Aa (B6.o.trans (P.mono B6.o.size));have K7:=Aa (N.o.below P N.o.lt);have L7:=Aa (L6.o.below P L6.o.lt);have ai:Hid (e3=0->Ai [t]<=40):=λh=>Nat.le_of_not_lt λh2=>aa ⟨h,h2⟩;clear P hcut N L6 B6 aa;go_step;go_step;go_cut [7] (λv wd=>v=zA U/\Below w7.heap.size w7 wd);case first=>
  by_cases h:e3=0
  ·obtain⟨R',g,bN,bO,bP,bj,bk,bl⟩:=I5.o (by rw[J.o,av.o,a8.o] at h; exact h) (ai.o h);have bQ:=Aa (And.intro bk bl);subst h;have bm:U=Gb O y:=(by rw[aK.o,Ga]);have bn:=Aa bm;have bR:=Aa bj;have aQ:Ai [t]<=60:=by have:=ai.o rfl; omega
   clear bm bk bl bj;have f:=K7.o.c0;have i:=K7.o.c1;have j:=K7.o.c2;go_wp2_with fail;refine(pV bN bO aQ R' g bP _ w7 X (x.o.later B7.o)).mono ?_;rw[<-bR.o];rintro e w8 ⟨ap,cp,rfl,bo,R⟩;have C:=Aa (B7.o.trans (R.mono B7.o.size));have I:=Aa (L7.o.below R L7.o.lt);have Q8:=Aa R;have SP:=Aa bo;clear R bo f i j;go_upto_region 12 with fail;have aA:Below w8.heap.size w8 (w8.alloc (zn O.2 ap cp)):=(Ac _ _).alloc (Af _) _;have B9:=Aa (C.o.trans (aA.mono C.o.size));have L9:=Aa (I.o.below aA I.o.lt);have Q9:=Aa (Q8.o.trans (aA.mono Q8.o.size));have P9:=Aa (Ab.new w8 (zH O.2 ap cp) 27);have S9:=Aa (SP.o.later aA);clear aA C I Q8 SP;generalize aR:w8.alloc (zn O.2 ap cp)=d at *;clear aR;obtain⟨o1,aS⟩:∃o1,o1=O.1:=⟨_,rfl⟩;rw[<-aS];have bp:=Aa aS;clear aS;by_cases h1:o1=0
   ·have aL:O.1=0:=by rw[<-bp.o]; exact h1
    subst h1;have q0:=P9.o.c0;have q1:=P9.o.c1;have r:=L9.o.c0;have s:=L9.o.c1;have ay:=bQ.o;have bq:=ay.1 aL;have br:=ay.2 aL;have aM:Hid (U=if FM O.2 y=true then 0 else 11):=Aa (by rw[bn.o];unfold Gb;rw[Am (by simpa using aL)]);have bs:=Aa (And.intro bq br);clear bq br ay aL;go_wp2_with fail;refine(qI O.2 y _ _ d _ Y bs.o.1 bs.o.2 ⟨ap,cp,rfl,S9.o⟩ (T.o.later B9.o)).mono ?_;rintro e cd ⟨rfl,aB⟩;have bt:=Aa (Q9.o.trans (aB.mono Q9.o.size));clear aB q0 q1 r s;cases hc:FM O.2 y with
    |true=>rw[hc]at aM;go_wp2_with fail;go_meet;exact⟨by rw[aM.o]; rfl,bt.o⟩
    |false=>rw[hc]at aM;go_wp2_with fail;go_meet;exact⟨by rw[aM.o]; rfl,bt.o⟩
   ·have Z:(o1==0)=false:=(by simpa using h1);have bS:Hid (U=o1):=Aa (by rw[bn.o];unfold Gb;rw[<-bp.o,Aq h1]);go_wp2_with fail;go_meet;exact⟨by rw[bS.o],Q9.o⟩
  ·have Z:(e3==0)=false:=(by simpa using h);go_wp2_with fail;go_meet;exact⟨by rw[aK.o,F1 h],Ac _ _⟩
 case rest=>
 rename World=>w8;obtain⟨rfl,R⟩:=hcut;have C:=Aa (B7.o.trans (R.mono B7.o.size));have K8:=Aa (K7.o.below R K7.o.lt);have I:=Aa (L7.o.below R L7.o.lt);clear R K7 L7 B7;go_step;go_step;go_cut [7] (λv wd=>v=zA e5/\wd=w8);case first=>
  by_cases h:U=0
  ·subst h;by_cases bu:k<0
   ·have E5:Hid (e5=3):=Aa (by rw[aw.o,Ga,Aq (Ad bu)]);go_wp2_with fail;go_meet;exact⟨by rw[E5.o],rfl⟩
   ·by_cases bw:400<k
    ·have E5:Hid (e5=3):=Aa (by rw[aw.o,Ga,Aq (Ae bw)]);go_wp2_with fail;go_meet;exact⟨by rw[E5.o],rfl⟩
    ·have E5:Hid (e5=0):=Aa (by rw[aw.o,Ga,Am (λh=>h.elim bu bw)]);go_wp2_with fail;go_meet;exact⟨by rw[E5.o],rfl⟩
  ·have Z:(U==0)=false:=(by simpa using h);have E5:Hid (e5=U):=Aa (by rw[aw.o,F1 h]);go_wp2_with fail;go_meet;exact⟨by rw[E5.o],rfl⟩
 case rest=>
 rename World=>d;obtain⟨rfl,aR⟩:=hcut;subst aR;have aC:=Aa (qS (k:=k) (e5:=e5) hO (by rw[aw.o,aK.o,J.o,av.o,a8.o]));have aT:=Aa aW;have bx:=Aa (HH (λh=>ai.o (by rw[J.o,av.o,a8.o]; exact h)));clear HH;clear hO aW a8 av J aK aw I5 ai;go_upto_region 17 with fail;go_cut [10] (λv wd=>v=zC d.heap.size/\Ab wd d.heap.size zJ 24/\Below d.heap.size d wd);case first=>
  go_wp2_with fail;go_meet;exact⟨rfl,Ab.new _ _ _,(Ac _ _).alloc (Af _) _⟩
 case rest=>
 rename World=>wa;obtain⟨rfl,bz,aD⟩:=hcut;have Ba:=Aa (C.o.trans (aD.mono C.o.size));have Ka:=Aa (K8.o.below aD K8.o.lt);have La:=Aa (I.o.below aD I.o.lt);have Pa:=Aa bz;have Qa:=Aa aD;clear bz aD;go_step;go_step;go_cut [7] (λv wd=>∃(e6:Int) (W:Lm) (D:Option Addr) (cl:Nat),v=zA e6/\Ab wd d.heap.size (zE W D cl) 24/\Ap wd (λb=>b≠d.heap.size) D W.subs/\Below d.heap.size d wd/\qR t k e5 e6 W);case first=>
  by_cases h:e5=0
  ·obtain⟨aq,E⟩:=aC.o.2 h;subst h;have b0:BO 0 0 t=0/\0<=k/\k<=400:=by
    unfold DQ at E;split at E
    ·rename_i h; split at E
     ·cases E
     ·exact⟨h,by omega,by omega⟩
    ·rename_i h; exact absurd E h
   obtain⟨n,rfl⟩:∃n:Nat,k=(n:Int):=⟨k.toNat,by omega⟩;obtain⟨bT,bU,cf⟩:=MY b0.1;have bV:n<=400:=(by omega);have aN:Hid ((n:Int).toNat=n):=Int.toNat_natCast n;have f:=Ka.o.c0;have i:=Ka.o.c1;have j:=Ka.o.c2;clear aq E b0;go_wp2_with fail;refine(mX 0 n t _ wa (λb=>X b/\b<w.heap.size) bV bT bU (by omega) ((x.o.mono (Y:=λb=>X b/\b<w.heap.size) λb h1 h2=>⟨h1,h2⟩).later Ba.o)).mono ?_;rintro e wb ⟨az,aE⟩;have F:=Aa (Qa.o.trans (az.mono Qa.o.size));have l:=Aa (Pa.o.below az Pa.o.lt);have b1:Hid (w.heap.size<=d.heap.size/\d.heap.size<wa.heap.size):=⟨C.o.size,Pa.o.lt⟩;clear az f i j;have r0:=l.o.c0;have r1:=l.o.c1;have r2:=l.o.c2;have rf:=l.o.frozen;rcases aE with ⟨h0,a4,c4,rfl,b2⟩|⟨h0,rfl⟩
   ·have S4:Hid (Ap wb (λb=>b≠d.heap.size) a4 (Bm false n t).2.1.subs):=b2.mono λb h _=>h.elim (λh=>by have h2:=h.1.2; have h3:=b1.o; omega) λh=>by have h3:=b1.o; omega
    have H0:=Aa h0;clear b2 h0;obtain⟨W,hW⟩:∃W,W=(Bm false n t).2.1:=⟨_,rfl⟩;rw[<-hW]at S4 ⊢;have HW:=Aa hW;clear hW;go_wp2_with fail;go_meet;refine⟨0,W,a4,c4,rfl,C8 l.o _ _ _,(S4.o.kept λb h=>?_),Dn F.o (Af _) _ _ _,Ae (Ae ⟨rfl,by rw[aN.o]; exact H0.o,rfl,by rw[aN.o]; exact HW.o⟩)⟩;rw[Ak _ _ _ _ h,Ak _ _ _ _ h,Ak _ _ _ _ h]
   ·obtain⟨en,ar⟩:∃en,en=(Bm false n t).1:=⟨_,rfl⟩;rw[<-ar]at h0 ⊢;have b3:=Aa ar;have H0:=Aa h0;clear ar h0;go_wp2_with fail;go_meet;exact⟨en,⟨0,0,[]⟩,none,0,rfl,C8 l.o (zA 0) (zA 0) zB,⟨by simp,Ad rfl⟩,Dn F.o (Af _) (zA 0) (zA 0) zB,Ae (Ad ⟨rfl,by rw[aN.o,<-b3.o]; exact H0.o,by rw[aN.o]; exact b3.o⟩)⟩
  ·have Z:(e5==0)=false:=(by simpa using h);have H:=Aa h;clear h;go_wp2_with fail;go_meet;exact⟨e5,⟨0,0,[]⟩,none,0,rfl,Pa.o,⟨by simp,Ad rfl⟩,Qa.o,Ad ⟨H.o,rfl,rfl⟩⟩
 case rest=>
 rename World=>wb;obtain⟨e6,W,D,cl,rfl,b4,ay,az,aF⟩:=hcut;have l:=Aa b4;have Sb:Hid (Ap wb (λb=>b≠d.heap.size) D W.subs):=ay;have F:=Aa az;have HM:=Aa aF;clear b4 ay az aF Ka La Ba Pa Qa;have Bb:=Aa (C.o.trans (F.o.mono C.o.size));have Kb:=Aa (K8.o.below F.o K8.o.lt);have Lb:=Aa (I.o.below F.o I.o.lt);go_step;go_step;go_cut [7] (λv wd=>∃(e7:Int) (W WW:Lm) (D:Option Addr) (cl:Nat),v=zA e7/\Ab wd d.heap.size (zE W D cl) 24/\Ap wd EP D W.subs/\Below d.heap.size d wd/\Hz O t y k e7 WW/\(e7=0->W=WW));case first=>
  by_cases h:e6=0
  ·obtain⟨a7,ar,hW⟩:e5=0/\(Bm false k.toNat t).1=0/\W=(Bm false k.toNat t).2.1:=by
    rcases HM.o with ⟨h1,h2,_⟩|⟨h1,h2,h3⟩|⟨h1,h2,_,h4⟩
    ·exact absurd (h2.symm.trans h) h1
    ·exact absurd (h3.symm.trans h) h2
    ·exact⟨h1,h2,h4⟩
   obtain⟨aq,E⟩:=aC.o.2 a7;obtain⟨b5,q,hq,b6,b7,b8,b9⟩:=aT.o.fin aq ar;have z:=Aa (And.intro aq (And.intro E (And.intro ar hq)));obtain rfl:W=q.m:=hW.trans hq.symm;subst h;have aG:=Aa (And.intro b5 (And.intro b6 (And.intro b7 (And.intro b8 b9))));clear aq E ar hq b5 b6 b7 b8 b9 a7 hW HM;have f:=l.o.c0;have i:=l.o.c1;have j:=l.o.c2;have r:=Lb.o.c0;have s:=Lb.o.c1;go_wp2_with fail;go_at_call 14;have CL:=Vr 2001 2000 (by decide) (by decide) (λb=>b≠d.heap.size) q [] y (.agg (zE q.m D cl)) (.agg (zH y a' c')) none 0 wb aG.o.2.1 aG.o.2.2.1 (by have:=aG.o.2.2.2.1; omega) (by simp) (by simp[Bl]) aG.o.1 aG.o.2.2.2.2 ⟨D,cl,rfl,Sb.o⟩ ((T.o.later Bb.o).mono λ_ _ _=>trivial) ⟨by simp,Ad rfl⟩;refine CL.mono ?_;rintro e wc ⟨o,ao,co,m,rfl,bA,bB,aU,-⟩;have LL:=Aa bB;have Qc:=Aa (F.o.trans (aU.mono F.o.size));have Pc:=Aa (l.o.below aU l.o.lt);have So:Hid (Ap wc (λb=>b≠d.heap.size) ao o.subs):=bA.mono λb h _=>h.elim id λh=>by have h2:=l.o.lt; omega
   clear CL bA bB aU f i j r s;go_upto_region 22 with fail;have aO:Below wc.heap.size wc (wc.alloc (zm o ao co)):=(Ac _ _).alloc (Af _) _;have Qd:=Aa (Qc.o.trans (aO.mono Qc.o.size));have Pd:=Aa (Pc.o.below aO Pc.o.lt);have Bd:=Aa (Ab.new wc (zE o ao co) 24);have Sd:=Aa (So.o.later aO);clear aO Qc Pc So;generalize bW:wc.alloc (zm o ao co)=wd at *;clear bW;have f:=Bd.o.c0;have i:=Bd.o.c1;have j:=Bd.o.c2;have r0:=Pd.o.c0;have r1:=Pd.o.c1;have r2:=Pd.o.c2;have rf:=Pd.o.frozen;by_cases hm:m<0
   ·go_wp2_with fail;go_meet;exact⟨8,o,⟨0,0,[]⟩,ao,co,rfl,C8 Pd.o _ _ _,((Sd.o.kept λb h=>by rw[Ak _ _ _ _ h,Ak _ _ _ _ h,Ak _ _ _ _ h]).mono λ_ _ _=>trivial),Dn Qd.o (Af _) _ _ _,Ae (Ae (Ae (Ae ⟨z.o.1,z.o.2.1,z.o.2.2.1,q,m,o,z.o.2.2.2,LL.o,Ae ⟨hm,rfl,rfl⟩⟩))),λh=>by cases h⟩
   ·have bX:0<=m:=(by omega);go_wp2_with fail;go_meet;exact⟨0,o,o,ao,co,rfl,C8 Pd.o _ _ _,((Sd.o.kept λb h=>by rw[Ak _ _ _ _ h,Ak _ _ _ _ h,Ak _ _ _ _ h]).mono λ_ _ _=>trivial),Dn Qd.o (Af _) _ _ _,Ae (Ae (Ae (Ae ⟨z.o.1,z.o.2.1,z.o.2.2.1,q,m,o,z.o.2.2.2,LL.o,Ad ⟨bX,rfl,rfl⟩⟩))),λ_=>rfl⟩
  ·have Z:(e6==0)=false:=(by simpa using h);have H:=Aa h;clear h;go_wp2_with fail;go_meet;rcases HM.o with ⟨h1,h2,h3⟩|⟨h1,h2,h3⟩|⟨h1,h2,h3,_⟩
   ·exact⟨e6,W,⟨0,0,[]⟩,D,cl,rfl,l.o,Sb.o.mono λ_ _ _=>trivial,F.o,by rw[h2]; exact aC.o.1 h1,λh=>absurd h H.o⟩
   ·obtain⟨aq,E⟩:=aC.o.2 h1;exact⟨e6,W,⟨0,0,[]⟩,D,cl,rfl,l.o,Sb.o.mono λ_ _ _=>trivial,F.o,Ae (Ae (Ae (Ad ⟨aq,E,h2,h3,rfl⟩))),λh=>absurd h H.o⟩
   ·exact absurd h3 H.o
 case rest=>
 rename World=>we;obtain⟨e7,W2,WW,aV,bC,rfl,bD,bE,aP,bF,bG⟩:=hcut;have Pe:=Aa bD;have Se:Hid (Ap we EP aV W2.subs):=bE;have z:=Aa bF;have bY:=Aa bG;have G:=Aa (C.o.trans (aP.mono C.o.size));have Ke:=Aa (K8.o.below aP K8.o.lt);have Le:=Aa (I.o.below aP I.o.lt);clear bD bE aP bF bG Kb Lb Bb l F Sb HM aC;have f:=Ke.o.c0;have i:=Ke.o.c1;have j:=Ke.o.c2;have r:=Le.o.c0;have s:=Le.o.c1;go_wp2_with fail;go_at_call 15;refine(Pl O aT.o k _ _ we X Y (x.o.later G.o) (T.o.later G.o) (λw' h=>bx.o _ _ w' (x.o.later (G.o.trans (h.mono G.o.size))) (T.o.later (G.o.trans (h.mono G.o.size))) (G.o.trans (h.mono G.o.size)))).mono ?_;rintro e wf ⟨E2,V2,a3,c3,aH,rfl,bH,a1,bI⟩;obtain⟨rfl,rfl⟩:=z.o.det aH;have bZ:=Aa bI;have Bf:=Aa (G.o.trans (a1.mono G.o.size));have Kf:=Aa (Ke.o.below a1 Ke.o.lt);have Lf:=Aa (Le.o.below a1 Le.o.lt);have Pf:=Aa (Pe.o.below a1 Pe.o.lt);have Sf:=Aa (Se.o.later a1);have Tf:Hid (Ap wf EP a3 WW.subs):=bH;clear aH a1 bH bI f i j r s Ke Le Pe Se G;go_upto_region 26 with fail;have au:Below wf.heap.size wf (wf.alloc (zm WW a3 c3)):=(Ac _ _).alloc (Af _) _;have A:=Aa (Bf.o.trans (au.mono Bf.o.size));have Kg:=Aa (Kf.o.below au Kf.o.lt);have Lg:=Aa (Lf.o.below au Lf.o.lt);have Pg:=Aa (Pf.o.below au Pf.o.lt);have Sg:=Aa (Sf.o.later au);have Tg:=Aa (Tf.o.later au);have Ng:=Aa (Ab.new wf (zE WW a3 c3) 24);clear au Kf Lf Pf Sf Tf Bf;generalize ca:wf.alloc (zm WW a3 c3)=wg at *;clear ca;have f:=Kg.o.c0;have i:=Kg.o.c1;have j:=Kg.o.c2;have r:=Lg.o.c0;have s:=Lg.o.c1;go_wp2_with fail;go_at_call 16;refine(qP O aT.o k _ _ _ wg X Y (x.o.later A.o) (x.o.later A.o) (T.o.later A.o) (λv w' hv h=>by
  have cb:v=.agg (zE t a c):=hv.elim id id;subst cb;exact bx.o _ _ w' (x.o.later (A.o.trans (h.mono A.o.size))) (T.o.later (A.o.trans (h.mono A.o.size))) (A.o.trans (h.mono A.o.size)))).mono ?_
 rintro e wh ⟨E3,V3,aI,rfl,a6⟩;obtain⟨rfl,rfl⟩:=z.o.det aI;have Bh:=Aa (A.o.trans (a6.mono A.o.size));have Ph:=Aa (Pg.o.below a6 Pg.o.lt);have Nh:=Aa (Ng.o.below a6 Ng.o.lt);have Sh:=Aa (Sg.o.later a6);have Th:=Aa (Tg.o.later a6);clear aI a6 f i j r s Kg Lg Pg Ng Sg Tg A;have f:=Nh.o.c0;have i:=Nh.o.c1;have j:=Nh.o.c2;have r:wh.cell? (zD d.heap.size 0)=some (zA W2.kind):=Ph.o.cell 0;have s:wh.cell? (zD d.heap.size 1)=some (zA W2.idx):=Ph.o.cell 1;have y2:wh.cell? (zD d.heap.size 2)=some (.slice aV W2.subs.length bC):=Ph.o.cell 2;by_cases h7:e7=0
 ·obtain rfl:=bY.o h7;subst h7;rw[show decide ((0:Int)=0)=true from rfl];go_wp2_with fail;go_at_call 17;refine(Wv W2 _ _ wh EP EP ⟨a3,c3,rfl,Th.o⟩ ⟨aV,bC,rfl,Sh.o⟩).mono ?_;rintro e wi ⟨rfl,aJ⟩;have Bi:=Aa (Bh.o.trans (aJ.mono Bh.o.size));clear aJ;go_wp2_with fail;go_ret;exact⟨rfl,Bi.o⟩
 ·obtain rfl:=z.o.zero h7;obtain⟨rfl,rfl⟩:=bZ.o h7;have hd:decide (e7=0)=false:=G1 h7;have Z:(e7==0)=false:=by simpa using h7
  have H7:=Aa h7;rw[hd];clear h7 hd;go_wp2_with fail;go_at_call 17;refine(Ww e7 _ _ _ _ _ _ rfl wh H7.o).mono ?_;rintro e wi ⟨rfl,aJ⟩;have Bi:=Aa (Bh.o.trans (aJ.mono Bh.o.size));clear aJ;go_wp2_with fail;go_ret;exact⟨rfl,Bi.o⟩
theorem Np (h:CH t=0):BO 0 0 t=0/\Bj [t]=false:=by
 unfold CH at h;split at h
 ·rename_i h1;refine⟨h1,?_⟩;cases hc:Bj [t] with
  |false=>rfl
  |true=>rw[hc] at h; cases h
 ·rename_i h1; exact absurd h h1
theorem qT (y:Ty):AP [y]=0->Bl [y]:=by
 induction y using Ty.ind with
 |h x l c=>
  intro h;rcases Pz h with ⟨rfl,-⟩|⟨-,a,b,rfl,d,hb⟩
  ·simp[Bl]
  ·have h1:=c a (by simp) d;have h2:=c b (by simp) hb;rw[Q6];refine⟨Ae rfl,?_,by simp[Bl]⟩;show Bl [a,b];rw[Q6]at h1 ⊢;exact⟨h1.1,h1.2.1,h2⟩
theorem qU (t:Lm) (y:Ty) (k:Int) (v u:Value) (w:World) (X Y:Nat->Prop) (m:MV w X v t) (hu:YV w Y u y) (f:B<=w.heap.size) (hT:Tb B w):
  Calls prog 3 #[v,u,zA k] w λe w'=>e=.returned (.bool true)/\Below w.heap.size w w':=by
 by_cases hy:CR y=0
 ·by_cases i:CH t=0->Ai [t]<=40
  ·obtain⟨g,R,c,s,D,E,x⟩:∃(g:Nat) (R c:Int×List Bd),(CH t=0->A0 true g [] (Az 84 t [] 0).2.1=some c)/\(CH t=0->A0 false g [] (Az 86 t [] 0).2.1=some R)/\(CH t=0->EH R (Az 86 t [] 0).1=CG c (Az 84 t [] 0).1)/\(CH t=0->(CG c (Az 84 t [] 0).1).1=0->Bl [(CG c (Az 84 t [] 0).1).2]/\D4 [(CG c (Az 84 t [] 0).1).2]):=by
    by_cases hp:CH t=0
    ·obtain⟨d,hc⟩:=Np hp;obtain⟨g,R,c,h1,h2,h3,F⟩:=qL (J0 d).1 hc (by have:=i hp; omega);exact⟨g,R,c,λ_=>h1,λ_=>h2,λ_=>h3,λ_=>F⟩
    ·exact⟨0,(0,[]),(0,[]),λh=>absurd h hp,λh=>absurd h hp,λh=>absurd h hp,λh=>absurd h hp⟩
   have j:CH t=0->DL t R=CG c (Az 84 t [] 0).1:=λhp=>by unfold DL; rw[Aq hp]; exact E hp
   have n:CH t≠0->(DL t R).1=CH t:=λhp=>by unfold DL; rw[Am hp]
   have z:(DL t R).1=0->Bl [(DL t R).2]:=λh0=>by
    by_cases hp:CH t=0
    ·rw[j hp]at h0 ⊢; exact(x hp h0).1
    ·exact absurd ((n hp).symm.trans h0) hp
   refine Pm t y k (DL t R) (λ_ hp=>n hp) ?_ ?_ v u w X Y m hu f hT λ_ o u' w' q r hb=>qO (λhp=>by have:=i hp; omega) R g D (DL t R) rfl z o u' w' X Y q r (AJ f hb.size) (hT.on (hb.mono f))
   ·intro a;have l:(DL t R).1=0:=Er λh=>by
     by_cases A:(DL t R).1=11
     ·rw[Pk hy A]at a; cases a
     ·rw[Lk hy A h]at a; cases a
    rw[Nn hy l]at a;have C:FM (DL t R).2 y=true:=(by simpa using a);have hp:CH t=0:=Er λhp=>hp ((n hp).symm.trans l);obtain⟨d,hc⟩:=Np hp;obtain⟨p,rfl⟩:=YK t 0 (J0 d).1;have hz:=i hp;rw[j hp]at l C;have ht:=qN (J0 d).1 hc (by omega) (s hp) l C;have G:AP [y]=0:=by
     unfold CR at hy;split at hy
     ·cases hy
     ·exact hy
    exact⟨qT _ G,p,rfl,(JI p 0).1 (J0 d).1,by rw[<-Hn]; omega,ht⟩
   ·intro h0 hz;have hp:CH t=0:=by rw[hy,Ga] at h0; unfold CH; unfold DS at h0; exact h0
    obtain⟨d,hc⟩:=Np hp;refine⟨c,g,(J0 d).1,hc,s hp,j hp,λh=>z h,λh=>?_⟩;rw[j hp]at h ⊢;exact(x hp h).2
  ·have hp:CH t=0:=Er λh=>i λh2=>absurd h2 h;have hz:¬Ai [t]<=40:=λh=>i λ_=>h;have H:DS (DS (CR y) (BO 0 0 t)) (if Bj [t]=true then 15 else 0)=0:=(by obtain⟨d,hc⟩:=Np hp;rw[hy,Ga,d,Ga,hc]; rfl);refine Pm t y k (8,DB) (λ_ h=>absurd hp h) (λa=>?_) (λ_ h=>absurd h hz) v u w X Y m hu f hT λh=>absurd (h H) hz;rw[Lk hy (by decide) (by decide)]at a; cases a
 ·refine Pm t y k (0,DB) (λh=>absurd h hy) (λa=>?_) (λh0 _=>?_) v u w X Y m hu f hT λ_ o u' w' q r hb=>?_
  ·rw[Lj hy]at a; cases a
  ·rw[F1 (b:=BO 0 0 t) hy,F1 hy]at h0; exact absurd h0 hy
  ·rw[Lj hy];exact qQ hy o u' w' X Y q r
