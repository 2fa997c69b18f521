import Derived.Test.YtacmmcnnhfmepaaGreatDoorIf13
namespace Go.Proofs.YtacmmcnnhfmepaaGreatDoor
set_option linter.all false
set_option maxRecDepth 9999
set_option maxHeartbeats 0
open Go.RowKit Go.Proofs.Tryz
variable {l:List Lm} {k:Nat} {t:Lm}
theorem VQ {f:Lm->Bool} (h:k<l.length) (hk:(l.take k).any f=false) (h1:f l[k]=false):(l.take (k+1)).any f=false:=by
 rw[CI h,List.any_append,hk]; simp[h1]
theorem VR {f:Lm->Bool} (h:k<l.length) (h1:f l[k]=true):l.any f=true:=Fc.2 ⟨_,Bv h,h1⟩
theorem pZ (l:List Lm) (n:∀x∈l,∀(v:Value) (w:World) (X:Nat->Prop),MV w X v x->Calls prog 72 #[v] w λe w'=>e=.returned (.bool (Bj [x]))/\Below w.heap.size w w') (a:Option Addr) (c:Nat) (w:World) (X:Nat->Prop) (m:Ap w X a l):
  Calls prog 102 #[.slice a l.length c,.func (.func 72) #[] #[]] w λe w'=>∃z:Int,e=.returned (zA z)/\decide (0<=z)=l.any (λt=>Bj [t])/\Below w.heap.size w w':=by
 have H:=Aa n;have A:=Aa (m.mono (Y:=λb=>X b/\b<w.heap.size) λb h1 h2=>⟨h1,h2⟩);have hl:=m.1;clear n m;go_in;go_wp2_with fail;go_loopw [8] (λi wr=>∃k:Nat,k<=l.length/\i=zA k/\(l.take k).any (λt=>Bj [t])=false/\Below w.heap.size w wr) (λi wr=>l.length-(intOf i).toNat);case atStart=>exact⟨0,Bp _,rfl,by simp,Ac _ _⟩
 case round=>
  obtain⟨k,hk,rfl,q,r⟩:=hrel;have s:=Aa q;have g:=Aa r;clear q r;by_cases j:k<l.length
  ·have B:(k:Int)<(l.length:Int):=(by omega);obtain⟨b,o,a1,c1,rfl,C,D,E,hx⟩:=A.o.get g.o (λb h _=>h.2) k j;have F:=Aa hx;clear hx;go_wp2_with fail;refine(H.o l[k] (Bv j) _ _ _ F.o).mono ?_;rintro e w2 ⟨rfl,u⟩;have y:=Aa (g.o.trans (u.mono g.o.size));clear u C D E;cases ho:Bj [l[k]] with
   |true=>have d:=Aa (VR (f:=λt=>Bj [t]) j ho);clear ho;go_wp2_with fail;go_ret;exact⟨_,rfl,by rw[d.o]; simp,y.o⟩
   |false=>
    have d:=Aa (VQ (f:=λt=>Bj [t]) j s.o ho);clear ho;go_wp2_with fail;go_roundw
    case rel=>exact⟨k+1,by omega,by go_num,d.o,y.o⟩
    case measure=>simp[intOf]; omega
  ·have B:¬(k:Int)<(l.length:Int):=(by omega);have d:Hid (l.any (λt=>Bj [t])=false):=by have h:=s.o; rw[Bz (by omega)] at h; exact h
   go_wp2_with fail;go_ret;exact⟨-1,rfl,by rw[d.o]; rfl,g.o⟩
theorem qA (t:Lm):∀(v:Value) (w:World) (X:Nat->Prop),MV w X v t->Calls prog 72 #[v] w λe w'=>e=.returned (.bool (Bj [t]))/\Below w.heap.size w w':=by
 induction t using Lm.ind with
 |h b i0 a j=>
  intro v w X ht;have m:=Aa j;clear j;obtain⟨c,d,rfl,g⟩:=ht;have f:Hid (Below w.heap.size w (w.alloc (zp #[zA b,zA i0,.slice c a.length d] 24))):=(Ac _ _).alloc (Af _) _;have k:Hid (Ab (w.alloc (zp #[zA b,zA i0,.slice c a.length d] 24)) w.heap.size #[zA b,zA i0,.slice c a.length d] 24):=Ab.new _ _ _;have n:=Aa (g.later f.o);have ae:=g.1;clear g;have i:=Aa (Ea b i0 a);by_cases hk:b=4
  ·subst hk;go_in;go_wp2_with fail;go_ret;exact⟨by rw[i.o]; rfl,f.o⟩
  ·have q:(b==4)=false:=Dx.2 hk;rw[q,Bool.false_or]at i;clear hk;go_in;go_upto_region 1 with fail;generalize (w.alloc (zp #[zA b,zA i0,.slice c a.length d] 24))=w1 at *;have c0:=k.o.c0;have c2:=k.o.c2;go_wp2_with fail;clear c0 c2;have r:Calls prog 84 #[.slice c a.length d,.func (.func 72) #[] #[]] w1 λe w'=>e=.returned (.bool (a.any λt=>Bj [t]))/\Below w1.heap.size w1 w':=(by go_in;go_wp2_with fail;refine(pZ a (λx hx v w X h=>m.o x hx v w X h) c d _ _ n.o).mono ?_;rintro e w' ⟨z,rfl,hz,hb⟩;have s:=Aa hz;have u:=Aa hb;clear hz hb;go_wp2_with fail;go_ret;exact⟨by rw[<-s.o]; rfl,u.o⟩);refine r.mono ?_;rintro e w3 ⟨rfl,l⟩;have y:=Aa (f.o.trans (l.mono f.o.size));clear l;go_wp2_with fail;go_ret;exact⟨by rw[i.o,L0]; rfl,y.o⟩
def CH (t:Lm):Int:=if BO 0 0 t=0 then (if Bj [t]=true then 15 else 0) else BO 0 0 t
def DL (t:Lm) (R:Int×List Bd):Int×Ty:=if CH t=0 then EH R (Az 86 t [] 0).1 else (CH t,DB)
theorem J0 (h:BO 0 0 t=0):Au 0 0 [t]=0/\Ai [t]<=200:=by
 unfold BO at h;rw[Am (by omega)]at h;split at h
 ·cases h
 ·exact⟨h,by omega⟩
theorem qB {B:Nat} (hz:CH t=0->Ai [t]<=60) (R:Int×List Bd) (g:Nat) (Y:CH t=0->A0 false g [] (Az 86 t [] 0).2.1=some R) (v:Value) (w:World) (X:Nat->Prop) (P:MV w X v t) (T:B<=w.heap.size) (hT:Tb B w):
  Calls prog 55 #[v] w λe w'=>Pj (DL t R) w e w':=by
 have F:=Aa P;have HT:=Aa hT;obtain⟨a,c,rfl,-⟩:=P;have A:Hid (Below w.heap.size w ((w.alloc (zm t a c)).alloc zj)):=((Ac _ _).alloc (Af _) _).alloc (by simp) _;have l:Hid (Ab ((w.alloc (zm t a c)).alloc zj) w.heap.size (zE t a c) 24):=(Ab.new _ _ _).alloc _;have G:Hid (Ab ((w.alloc (zm t a c)).alloc zj) (w.heap.size+1) #[zA 0,zB] 27):=by have h:=Ab.new (w.alloc (zm t a c)) #[zA 0,zB] 27; rw[Ca] at h; exact h
 have Z:=Aa (λ(w':World) (h:MV w' X (.agg (zE t a c)) t)=>NT t _ 0 w' X h);clear hT;go_in;go_upto_region 1 with fail;generalize ((w.alloc (zm t a c)).alloc zj)=w2 at *;have r:=l.o.c0;have s:=l.o.c1;have u:=l.o.c2;go_wp2_with fail;refine(Z.o w2 (F.o.later A.o)).mono ?_;rintro e w3 ⟨rfl,C⟩;have m:=Aa (A.o.trans (C.mono A.o.size));have n:=Aa (l.o.below C l.o.lt);have x:=Aa (G.o.below C G.o.lt);clear C l G A r s u;by_cases i:BO 0 0 t=0
 ·rw[i];have H:=Aa i;clear i;have r:=n.o.c0;have s:=n.o.c1;have u:=n.o.c2;go_wp2_with fail;refine(qA t _ w3 X (F.o.later m.o)).mono ?_;rintro e j ⟨rfl,D⟩;have f:=Aa (m.o.trans (D.mono m.o.size));have I:=Aa (n.o.below D n.o.lt);have d:=Aa (x.o.below D x.o.lt);clear D n x m r s u;cases hc:Bj [t] with
  |true=>
   have k:Hid (DL t R=(15,DB)):=Aa (by unfold DL CH;rw[Aq H.o,Aq hc];rfl);clear hc;have U:=d.o.c0;have V:=d.o.c1;have f0:j.frozen? (zD (w.heap.size+1) 0)=false:=d.o.frozen 0;have f1:j.frozen? (zD (w.heap.size+1) 1)=false:=d.o.frozen 1;go_wp2_with fail;have y:Hid (Ab ((j.setCell (zD (w.heap.size+1) 0) (zA 0)).setCell (zD (w.heap.size+1) 1) zB) (w.heap.size+1) #[zA 0,zB] 27):=(d.o.set 0 _).set 1 _;have J:Hid (Below w.heap.size w ((j.setCell (zD (w.heap.size+1) 0) (zA 0)).setCell (zD (w.heap.size+1) 1) zB)):=CE (CE f.o (by omega) 0 _) (by omega) 1 _;generalize ((j.setCell (zD (w.heap.size+1) 0) (zA 0)).setCell (zD (w.heap.size+1) 1) zB)=w7 at *;have c0:=y.o.cell 0;have c1:=y.o.cell 1;simp only[BP,BU,BQ] at c0 c1;refine Ao (v:=.tuple #[.agg #[zA 0,zB],zA 15]) (by simp[results,results55,go_sem,c0,c1]) rfl ?_;refine⟨none,0,?_,?_,J.o⟩
   ·rw[k.o]; rfl
   ·rw[k.o]; exact⟨by simp[DB],Ad rfl⟩
  |false=>have L:Hid (CH t=0):=Aa (by unfold CH;rw[Aq H.o,Am (by rw[hc]; decide)]);have k:Hid (DL t R=EH R (Az 86 t [] 0).1):=Aa (by unfold DL;rw[Aq L.o]);have HC:=Aa hc;clear hc;have r:=I.o.c0;have s:=I.o.c1;have u:=I.o.c2;go_wp2_with fail;refine(pY (B:=B) (J0 H.o).1 HC.o (hz L.o) R g (Y L.o) _ j X (F.o.later f.o) (AJ T f.o.size) (HT.o.on (f.o.mono T))).mono ?_;rintro e q ⟨a5,c5,rfl,E,M⟩;rw[<-k.o]at E ⊢;have ag:=Aa (rfl:DL t R=DL t R);obtain⟨O,N⟩:∃O,O=DL t R:=⟨_,rfl⟩;rw[<-N]at E ⊢;have ah:=Aa N;clear N ag;have B5:=Aa (f.o.trans (M.mono f.o.size));have z:=Aa (d.o.below M d.o.lt);have S5:=Aa E;have gR:Hid (w.heap.size+1<j.heap.size):=d.o.lt;clear M E r s u;have U:=z.o.c0;have V:=z.o.c1;have f0:q.frozen? (zD (w.heap.size+1) 0)=false:=z.o.frozen 0;have f1:q.frozen? (zD (w.heap.size+1) 1)=false:=z.o.frozen 1;go_wp2_with fail;have W:Hid (Ab ((q.setCell (zD (w.heap.size+1) 0) (zA O.2.base)).setCell (zD (w.heap.size+1) 1) (.slice a5 O.2.subs.length c5)) (w.heap.size+1) (zH O.2 a5 c5) 27):=(z.o.set 0 _).set 1 _;have B6:Hid (Below w.heap.size w ((q.setCell (zD (w.heap.size+1) 0) (zA O.2.base)).setCell (zD (w.heap.size+1) 1) (.slice a5 O.2.subs.length c5))):=CE (CE B5.o (by omega) 0 _) (by omega) 1 _;have S6:Hid (AC ((q.setCell (zD (w.heap.size+1) 0) (zA O.2.base)).setCell (zD (w.heap.size+1) 1) (.slice a5 O.2.subs.length c5)) (λb=>w.heap.size<=b) a5 O.2.subs):=(S5.o.kept λb hb=>by have h1:=gR.o; rw[Ak _ _ _ _ (by simp; omega),Ak _ _ _ _ (by simp; omega)]).mono λb hb _=>AJ f.o.size hb;generalize ((q.setCell (zD (w.heap.size+1) 0) (zA O.2.base)).setCell (zD (w.heap.size+1) 1) (.slice a5 O.2.subs.length c5))=w6 at *;have c0:=W.o.cell 0;have c1:=W.o.cell 1;simp only[BP,BU,BQ] at c0 c1;refine Ao (v:=.tuple #[.agg (zH O.2 a5 c5),zA O.1]) (by simp[results,results55,go_sem,c0,c1]) rfl ?_;rw[<-ah.o];exact⟨a5,c5,rfl,S6.o,B6.o⟩
 ·have k:Hid (DL t R=(BO 0 0 t,DB)):=Aa (by unfold DL CH;rw[Am i,Am i]);have e0:(BO 0 0 t !=0)=true:=by simpa using i
  have ai:(BO 0 0 t==0)=false:=by simpa using i
  clear i;have d:=x;have f:=m;clear x m;have U:=d.o.c0;have V:=d.o.c1;have f0:w3.frozen? (zD (w.heap.size+1) 0)=false:=d.o.frozen 0;have f1:w3.frozen? (zD (w.heap.size+1) 1)=false:=d.o.frozen 1;go_wp2_with fail;have y:Hid (Ab ((w3.setCell (zD (w.heap.size+1) 0) (zA 0)).setCell (zD (w.heap.size+1) 1) zB) (w.heap.size+1) #[zA 0,zB] 27):=(d.o.set 0 _).set 1 _;have J:Hid (Below w.heap.size w ((w3.setCell (zD (w.heap.size+1) 0) (zA 0)).setCell (zD (w.heap.size+1) 1) zB)):=CE (CE f.o (by omega) 0 _) (by omega) 1 _;generalize ((w3.setCell (zD (w.heap.size+1) 0) (zA 0)).setCell (zD (w.heap.size+1) 1) zB)=w7 at *;have c0:=y.o.cell 0;have c1:=y.o.cell 1;simp only[BP,BU,BQ] at c0 c1;refine Ao (v:=.tuple #[.agg #[zA 0,zB],zA (BO 0 0 t)]) (by simp[results,results55,go_sem,c0,c1]) rfl ?_;refine⟨none,0,?_,?_,J.o⟩
  ·rw[k.o]; rfl
  ·rw[k.o]; exact⟨by simp[DB],Ad rfl⟩
theorem qC (t:Lm):∀(v:Value) (w:World) (X:Nat->Prop),MV w X v t->Calls prog 9 #[v] w λe w'=>e=.returned (.bool (Bj [t]))/\Below w.heap.size w w':=by
 induction t using Lm.ind with
 |h d i0 l u=>
  intro v w X ht;have C:=Aa u;clear u;obtain⟨a,c,rfl,x⟩:=ht;have q:Hid (Below w.heap.size w (w.alloc (zp #[zA d,zA i0,.slice a l.length c] 24))):=(Ac _ _).alloc (Af _) _;have r:Hid (Ab (w.alloc (zp #[zA d,zA i0,.slice a l.length c] 24)) w.heap.size #[zA d,zA i0,.slice a l.length c] 24):=Ab.new _ _ _;have ak:=x.1;have i:=Aa (Ea d i0 l);by_cases hk:d=4
  ·subst hk;go_in;go_wp2_with fail;go_ret;exact⟨by rw[i.o]; rfl,q.o⟩
  ·have D:(d==4)=false:=Dx.2 hk;rw[D,Bool.false_or]at i;clear hk;go_in;go_upto_region 1 with fail;generalize (w.alloc (zp #[zA d,zA i0,.slice a l.length c] 24))=w1 at *;have c0:=r.o.c0;go_wp2_with fail;clear c0;go_loopw [3] (λo wr=>∃k:Nat,k<=l.length/\o=zA k/\(l.take k).any (λt=>Bj [t])=false/\Below w1.heap.size w1 wr) (λo wr=>l.length-(intOf o).toNat);case atStart=>exact⟨0,Bp _,rfl,by simp,Ac _ _⟩
   case round=>
    obtain⟨k,hk,rfl,y,j⟩:=hrel;have z:=Aa y;have A:=Aa (r.o.below j r.o.lt);have m:=Aa (q.o.trans (j.mono q.o.size));have B:=Aa j;have c0:=A.o.c0;have c2:=A.o.c2;clear y j;by_cases n:k<l.length
    ·have E:(k:Int)<(l.length:Int):=(by omega);obtain⟨b,o,a1,c1,rfl,F,G,H,hx⟩:=x.get m.o (λ_ _ h=>h) k n;have I:=Aa hx;clear hx;go_wp2_with fail;refine(C.o l[k] (Bv n) _ _ _ I.o).mono ?_;rintro e w2 ⟨rfl,s⟩;have J:=Aa (B.o.trans (s.mono B.o.size));have L:=Aa (m.o.trans (s.mono m.o.size));clear s F G H c0 c2;cases ho:Bj [l[k]] with
     |true=>have g:=Aa (VR (f:=λt=>Bj [t]) n ho);clear ho;go_wp2_with fail;go_ret;exact⟨by rw[i.o,L0,g.o]; rfl,L.o⟩
     |false=>
      have g:=Aa (VQ (f:=λt=>Bj [t]) n z.o ho);clear ho;go_wp2_with fail;go_roundw
      case rel=>exact⟨k+1,by omega,by go_num,g.o,J.o⟩
      case measure=>simp[intOf]; omega
    ·have E:¬(k:Int)<(l.length:Int):=(by omega);have g:Hid (l.any (λt=>Bj [t])=false):=by have h:=z.o; rw[Bz (by omega)] at h; exact h
     go_wp2_with fail;go_ret;exact⟨by rw[i.o,L0,g.o]; rfl,m.o⟩
