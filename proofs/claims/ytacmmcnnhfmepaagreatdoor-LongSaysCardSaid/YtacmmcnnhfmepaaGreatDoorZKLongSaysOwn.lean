/- Several texts in one. -/
import Derived.Test.YtacmmcnnhfmepaaGreatDoorIf13
import Derived.Test.YtacmmcnnhfmepaaGreatDoorLn6
import Derived.Test.YtacmmcnnhfmepaaGreatDoorLn9c
import Derived.ProofKit
namespace Go.Proofs.YtacmmcnnhfmepaaGreatDoor
set_option linter.all false
set_option maxRecDepth 20000
set_option maxHeartbeats 8000000
open Go.RowKit Go.Proofs.Tryz
theorem UH {l:List Lm} {f:Lm->Bool} {k:Nat} (h:k<l.length) (hk:(l.take k).any f=false) (h1:f l[k]=false):(l.take (k+1)).any f=false:=by
 rw[CB h,List.any_append,hk]; simp[h1]
theorem UJ {l:List Lm} {f:Lm->Bool} {k:Nat} (h:k<l.length) (h1:f l[k]=true):l.any f=true:=ER.2 ⟨_,Bu h,h1⟩
theorem kI (l:List Lm) (n:∀x∈l,∀(v:Value) (w:World) (X:Nat->Prop),MV w X v x->Calls prog 72 #[v] w λe w'=>e=.returned (.bool (A0 [x]))/\Below w.heap.size w w') (a:Option Addr) (c:Nat) (w:World) (X:Nat->Prop) (m:Ap w X a l):
  Calls prog 102 #[.slice a l.length c,.func (.func 72) #[] #[]] w λe w'=>∃z:Int,e=.returned (zA z)/\decide (0<=z)=l.any (λt=>A0 [t])/\Below w.heap.size w w':=by
 have H:=Aa n;have A:=Aa (m.mono (Y:=λb=>X b/\b<w.heap.size) λb h1 h2=>⟨h1,h2⟩);have hl:=m.1;clear n m;go_enter func102,ntmps102;go_wp2_with fail;go_loopw [8] (λi wr=>∃k:Nat,k<=l.length/\i=zA k/\(l.take k).any (λt=>A0 [t])=false/\Below w.heap.size w wr) (λi wr=>l.length-(intOf i).toNat);case atStart=>exact⟨0,Bm _,rfl,by simp,Ac _ _⟩
 case round=>
  obtain⟨k,hk,rfl,q,r⟩:=hrel;have s:=Aa q;have g:=Aa r;clear q r;by_cases j:k<l.length
  ·have B:(k:Int)<(l.length:Int):=(by omega);obtain⟨b,o,a1,c1,rfl,C,D,E,hx⟩:=A.o.get g.o (λb h _=>h.2) k j;have F:=Aa hx;clear hx;go_wp2_with fail;refine(H.o l[k] (Bu j) _ _ _ F.o).mono ?_;rintro e w2 ⟨rfl,u⟩;have y:=Aa (g.o.trans (u.mono g.o.size));clear u C D E;cases ho:A0 [l[k]] with
   |true=>have d:=Aa (UJ (f:=λt=>A0 [t]) j ho);clear ho;go_wp2_with fail;go_ret;exact⟨_,rfl,by rw[d.o]; simp,y.o⟩
   |false=>
    have d:=Aa (UH (f:=λt=>A0 [t]) j s.o ho);clear ho;go_wp2_with fail;go_roundw
    case rel=>exact⟨k+1,by omega,by go_num,d.o,y.o⟩
    case measure=>simp[intOf]; omega
  ·have B:¬(k:Int)<(l.length:Int):=(by omega);have d:Hid (l.any (λt=>A0 [t])=false):=by have h:=s.o; rw[Bv (by omega)] at h; exact h
   go_wp2_with fail;go_ret;exact⟨-1,rfl,by rw[d.o]; rfl,g.o⟩
theorem kJ (t:Lm):∀(v:Value) (w:World) (X:Nat->Prop),MV w X v t->Calls prog 72 #[v] w λe w'=>e=.returned (.bool (A0 [t]))/\Below w.heap.size w w':=by
 induction t using Lm.ind with
 |h b i0 a j=>
  intro v w X ht;have m:=Aa j;clear j;obtain⟨c,d,rfl,g⟩:=ht;have f:Hid (Below w.heap.size w (w.alloc (.cells #[zA b,zA i0,.slice c a.length d] 24))):=(Ac _ _).alloc (Ag _) _;have k:Hid (Ab (w.alloc (.cells #[zA b,zA i0,.slice c a.length d] 24)) w.heap.size #[zA b,zA i0,.slice c a.length d] 24):=Ab.new _ _ _;have n:=Aa (g.later f.o);have ae:=g.1;clear g;have i:=Aa (D2 b i0 a);by_cases hk:b=4
  ·subst hk;go_enter func72,ntmps72;go_wp2_with fail;go_ret;exact⟨by rw[i.o]; rfl,f.o⟩
  ·have q:(b==4)=false:=Dr.2 hk;rw[q,Bool.false_or]at i;clear hk;go_enter func72,ntmps72;go_upto_region 1 with fail;generalize (w.alloc (.cells #[zA b,zA i0,.slice c a.length d] 24))=w1 at *;have c0:=k.o.c0;have c2:=k.o.c2;go_wp2_with fail;clear c0 c2;have r:Calls prog 84 #[.slice c a.length d,.func (.func 72) #[] #[]] w1 λe w'=>e=.returned (.bool (a.any λt=>A0 [t]))/\Below w1.heap.size w1 w':=(by go_enter func84,ntmps84;go_wp2_with fail;refine(kI a (λx hx v w X h=>m.o x hx v w X h) c d _ _ n.o).mono ?_;rintro e w' ⟨z,rfl,hz,hb⟩;have s:=Aa hz;have u:=Aa hb;clear hz hb;go_wp2_with fail;go_ret;exact⟨by rw[<-s.o]; rfl,u.o⟩);refine r.mono ?_;rintro e w3 ⟨rfl,l⟩;have y:=Aa (f.o.trans (l.mono f.o.size));clear l;go_wp2_with fail;go_ret;exact⟨by rw[i.o,LB]; rfl,y.o⟩
def CA (t:Lm):Int:=if BI 0 0 t=0 then (if A0 [t]=true then 15 else 0) else BI 0 0 t
def DF (t:Lm) (R:Int×List Bd):Int×Ty:=if CA t=0 then Ey R (Ay 86 t [] 0).1 else (CA t,Dw)
theorem JK {t:Lm} (h:BI 0 0 t=0):Au 0 0 [t]=0/\Ai [t]<=200:=by
 unfold BI at h;rw[Am (by omega)]at h;split at h
 ·cases h
 ·exact⟨h,by omega⟩
theorem kK {B:Nat} {t:Lm} (hz:CA t=0->Ai [t]<=60) (R:Int×List Bd) (g:Nat) (Y:CA t=0->AZ false g [] (Ay 86 t [] 0).2.1=some R) (v:Value) (w:World) (X:Nat->Prop) (P:MV w X v t) (T:B<=w.heap.size) (hT:Tb B w):
  Calls prog 55 #[v] w λe w'=>Oo (DF t R) w e w':=by
 have F:=Aa P;have HT:=Aa hT;obtain⟨a,c,rfl,-⟩:=P;have A:Hid (Below w.heap.size w ((w.alloc (.cells (zE t a c) 24)).alloc (.cells #[zA 0,zB] 27))):=((Ac _ _).alloc (Ag _) _).alloc (by simp) _;have l:Hid (Ab ((w.alloc (.cells (zE t a c) 24)).alloc (.cells #[zA 0,zB] 27)) w.heap.size (zE t a c) 24):=(Ab.new _ _ _).alloc _;have G:Hid (Ab ((w.alloc (.cells (zE t a c) 24)).alloc (.cells #[zA 0,zB] 27)) (w.heap.size+1) #[zA 0,zB] 27):=by have h:=Ab.new (w.alloc (.cells (zE t a c) 24)) #[zA 0,zB] 27; rw[BK] at h; exact h
 have Z:=Aa (λ(w':World) (h:MV w' X (.agg (zE t a c)) t)=>Nr t _ 0 w' X h);clear hT;go_enter func55,ntmps55;go_upto_region 1 with fail;generalize ((w.alloc (.cells (zE t a c) 24)).alloc (.cells #[zA 0,zB] 27))=w2 at *;have r:=l.o.c0;have s:=l.o.c1;have u:=l.o.c2;go_wp2_with fail;refine(Z.o w2 (F.o.later A.o)).mono ?_;rintro e w3 ⟨rfl,C⟩;have m:=Aa (A.o.trans (C.mono A.o.size));have n:=Aa (l.o.below C l.o.lt);have x:=Aa (G.o.below C G.o.lt);clear C l G A r s u;by_cases i:BI 0 0 t=0
 ·rw[i];have H:=Aa i;clear i;have r:=n.o.c0;have s:=n.o.c1;have u:=n.o.c2;go_wp2_with fail;refine(kJ t _ w3 X (F.o.later m.o)).mono ?_;rintro e j ⟨rfl,D⟩;have f:=Aa (m.o.trans (D.mono m.o.size));have I:=Aa (n.o.below D n.o.lt);have d:=Aa (x.o.below D x.o.lt);clear D n x m r s u;cases hc:A0 [t] with
  |true=>
   have k:Hid (DF t R=(15,Dw)):=Aa (by unfold DF CA;rw[Aq H.o,Aq hc];rfl);clear hc;have U:=d.o.c0;have V:=d.o.c1;have f0:j.frozen? (zD (w.heap.size+1) 0)=false:=d.o.frozen 0;have f1:j.frozen? (zD (w.heap.size+1) 1)=false:=d.o.frozen 1;go_wp2_with fail;have y:Hid (Ab ((j.setCell (zD (w.heap.size+1) 0) (zA 0)).setCell (zD (w.heap.size+1) 1) zB) (w.heap.size+1) #[zA 0,zB] 27):=(d.o.set 0 _).set 1 _;have J:Hid (Below w.heap.size w ((j.setCell (zD (w.heap.size+1) 0) (zA 0)).setCell (zD (w.heap.size+1) 1) zB)):=Cy (Cy f.o (by omega) 0 _) (by omega) 1 _;generalize ((j.setCell (zD (w.heap.size+1) 0) (zA 0)).setCell (zD (w.heap.size+1) 1) zB)=w7 at *;have c0:=y.o.cell 0;have c1:=y.o.cell 1;simp only[BP,BR,BQ] at c0 c1;refine Ao (v:=.tuple #[.agg #[zA 0,zB],zA 15]) (by simp[results,results55,go_sem,c0,c1]) rfl ?_;refine⟨none,0,?_,?_,J.o⟩
   ·rw[k.o]; rfl
   ·rw[k.o]; exact⟨by simp[Dw],Ad rfl⟩
  |false=>have L:Hid (CA t=0):=Aa (by unfold CA;rw[Aq H.o,Am (by rw[hc]; decide)]);have k:Hid (DF t R=Ey R (Ay 86 t [] 0).1):=Aa (by unfold DF;rw[Aq L.o]);have HC:=Aa hc;clear hc;have r:=I.o.c0;have s:=I.o.c1;have u:=I.o.c2;go_wp2_with fail;refine(jG (B:=B) (JK H.o).1 HC.o (hz L.o) R g (Y L.o) _ j X (F.o.later f.o) (AN T f.o.size) (HT.o.on (f.o.mono T))).mono ?_;rintro e q ⟨a5,c5,rfl,E,M⟩;rw[<-k.o]at E ⊢;have ag:=Aa (rfl:DF t R=DF t R);obtain⟨O,N⟩:∃O,O=DF t R:=⟨_,rfl⟩;rw[<-N]at E ⊢;have ah:=Aa N;clear N ag;have B5:=Aa (f.o.trans (M.mono f.o.size));have z:=Aa (d.o.below M d.o.lt);have S5:=Aa E;have gR:Hid (w.heap.size+1<j.heap.size):=d.o.lt;clear M E r s u;have U:=z.o.c0;have V:=z.o.c1;have f0:q.frozen? (zD (w.heap.size+1) 0)=false:=z.o.frozen 0;have f1:q.frozen? (zD (w.heap.size+1) 1)=false:=z.o.frozen 1;go_wp2_with fail;have W:Hid (Ab ((q.setCell (zD (w.heap.size+1) 0) (zA O.2.base)).setCell (zD (w.heap.size+1) 1) (.slice a5 O.2.subs.length c5)) (w.heap.size+1) (zH O.2 a5 c5) 27):=(z.o.set 0 _).set 1 _;have B6:Hid (Below w.heap.size w ((q.setCell (zD (w.heap.size+1) 0) (zA O.2.base)).setCell (zD (w.heap.size+1) 1) (.slice a5 O.2.subs.length c5))):=Cy (Cy B5.o (by omega) 0 _) (by omega) 1 _;have S6:Hid (AM ((q.setCell (zD (w.heap.size+1) 0) (zA O.2.base)).setCell (zD (w.heap.size+1) 1) (.slice a5 O.2.subs.length c5)) (λb=>w.heap.size<=b) a5 O.2.subs):=(S5.o.kept λb hb=>by have h1:=gR.o; rw[Al _ _ _ _ (by simp; omega),Al _ _ _ _ (by simp; omega)]).mono λb hb _=>AN f.o.size hb;generalize ((q.setCell (zD (w.heap.size+1) 0) (zA O.2.base)).setCell (zD (w.heap.size+1) 1) (.slice a5 O.2.subs.length c5))=w6 at *;have c0:=W.o.cell 0;have c1:=W.o.cell 1;simp only[BP,BR,BQ] at c0 c1;refine Ao (v:=.tuple #[.agg (zH O.2 a5 c5),zA O.1]) (by simp[results,results55,go_sem,c0,c1]) rfl ?_;rw[<-ah.o];exact⟨a5,c5,rfl,S6.o,B6.o⟩
 ·have k:Hid (DF t R=(BI 0 0 t,Dw)):=Aa (by unfold DF CA;rw[Am i,Am i]);have e0:(BI 0 0 t !=0)=true:=by simpa using i
  have ai:(BI 0 0 t==0)=false:=by simpa using i
  clear i;have d:=x;have f:=m;clear x m;have U:=d.o.c0;have V:=d.o.c1;have f0:w3.frozen? (zD (w.heap.size+1) 0)=false:=d.o.frozen 0;have f1:w3.frozen? (zD (w.heap.size+1) 1)=false:=d.o.frozen 1;go_wp2_with fail;have y:Hid (Ab ((w3.setCell (zD (w.heap.size+1) 0) (zA 0)).setCell (zD (w.heap.size+1) 1) zB) (w.heap.size+1) #[zA 0,zB] 27):=(d.o.set 0 _).set 1 _;have J:Hid (Below w.heap.size w ((w3.setCell (zD (w.heap.size+1) 0) (zA 0)).setCell (zD (w.heap.size+1) 1) zB)):=Cy (Cy f.o (by omega) 0 _) (by omega) 1 _;generalize ((w3.setCell (zD (w.heap.size+1) 0) (zA 0)).setCell (zD (w.heap.size+1) 1) zB)=w7 at *;have c0:=y.o.cell 0;have c1:=y.o.cell 1;simp only[BP,BR,BQ] at c0 c1;refine Ao (v:=.tuple #[.agg #[zA 0,zB],zA (BI 0 0 t)]) (by simp[results,results55,go_sem,c0,c1]) rfl ?_;refine⟨none,0,?_,?_,J.o⟩
  ·rw[k.o]; rfl
  ·rw[k.o]; exact⟨by simp[Dw],Ad rfl⟩
theorem kL (t:Lm):∀(v:Value) (w:World) (X:Nat->Prop),MV w X v t->Calls prog 9 #[v] w λe w'=>e=.returned (.bool (A0 [t]))/\Below w.heap.size w w':=by
 induction t using Lm.ind with
 |h d i0 l u=>
  intro v w X ht;have C:=Aa u;clear u;obtain⟨a,c,rfl,x⟩:=ht;have q:Hid (Below w.heap.size w (w.alloc (.cells #[zA d,zA i0,.slice a l.length c] 24))):=(Ac _ _).alloc (Ag _) _;have r:Hid (Ab (w.alloc (.cells #[zA d,zA i0,.slice a l.length c] 24)) w.heap.size #[zA d,zA i0,.slice a l.length c] 24):=Ab.new _ _ _;have ak:=x.1;have i:=Aa (D2 d i0 l);by_cases hk:d=4
  ·subst hk;go_enter func9,ntmps9;go_wp2_with fail;go_ret;exact⟨by rw[i.o]; rfl,q.o⟩
  ·have D:(d==4)=false:=Dr.2 hk;rw[D,Bool.false_or]at i;clear hk;go_enter func9,ntmps9;go_upto_region 1 with fail;generalize (w.alloc (.cells #[zA d,zA i0,.slice a l.length c] 24))=w1 at *;have c0:=r.o.c0;go_wp2_with fail;clear c0;go_loopw [3] (λo wr=>∃k:Nat,k<=l.length/\o=zA k/\(l.take k).any (λt=>A0 [t])=false/\Below w1.heap.size w1 wr) (λo wr=>l.length-(intOf o).toNat);case atStart=>exact⟨0,Bm _,rfl,by simp,Ac _ _⟩
   case round=>
    obtain⟨k,hk,rfl,y,j⟩:=hrel;have z:=Aa y;have A:=Aa (r.o.below j r.o.lt);have m:=Aa (q.o.trans (j.mono q.o.size));have B:=Aa j;have c0:=A.o.c0;have c2:=A.o.c2;clear y j;by_cases n:k<l.length
    ·have E:(k:Int)<(l.length:Int):=(by omega);obtain⟨b,o,a1,c1,rfl,F,G,H,hx⟩:=x.get m.o (λ_ _ h=>h) k n;have I:=Aa hx;clear hx;go_wp2_with fail;refine(C.o l[k] (Bu n) _ _ _ I.o).mono ?_;rintro e w2 ⟨rfl,s⟩;have J:=Aa (B.o.trans (s.mono B.o.size));have L:=Aa (m.o.trans (s.mono m.o.size));clear s F G H c0 c2;cases ho:A0 [l[k]] with
     |true=>have g:=Aa (UJ (f:=λt=>A0 [t]) n ho);clear ho;go_wp2_with fail;go_ret;exact⟨by rw[i.o,LB,g.o]; rfl,L.o⟩
     |false=>
      have g:=Aa (UH (f:=λt=>A0 [t]) n z.o ho);clear ho;go_wp2_with fail;go_roundw
      case rel=>exact⟨k+1,by omega,by go_num,g.o,J.o⟩
      case measure=>simp[intOf]; omega
    ·have E:¬(k:Int)<(l.length:Int):=(by omega);have g:Hid (l.any (λt=>A0 [t])=false):=by have h:=z.o; rw[Bv (by omega)] at h; exact h
     go_wp2_with fail;go_ret;exact⟨by rw[i.o,LB,g.o]; rfl,m.o⟩
theorem kM (u:Int) {M:Int} (m:Nat) (t0:Lm) (v:Value) (w:World) (X:Nat->Prop) (hm:m<=400) (hu:0<=u/\u<=40) (he:Au u M [t0]=0) (hz:Ai [t0]<=2000) (hv:MV w X v t0) (hM:M<=40:=by omega):
  Calls prog 76 #[v,.func (.func 58) #[] #[],zA m] w λe w'=>ME false m t0 X w e w':=by
 obtain⟨a,c,rfl,z⟩:=hv;have HS:Hid (Ap w (EQ w X) a t0.subs):=z.mono λb h1 h2=>Ad ⟨h1,h2⟩;have HW:=Aa (EJ.start (inn:=false) (m:=m) hu he hz hM);have I0:Hid (JJ false u w X m t0 (zA ((0:Nat):Int)) ((w.alloc (.cells (zE t0 a c) 24)).alloc (.cells zJ 24))):=by
  refine⟨0,t0,a,c,rfl,HW.o,Dn _ _,by simp,(Ab.new w _ _).alloc _,?_,HS.o.later (Dn _ _)⟩;have h:=Ab.new (w.alloc (.cells (zE t0 a c) 24)) zJ 24;simpa using h
 clear z he hz HS HW;go_enter func76,ntmps76;go_wp2_with fail;go_loopw [9] (λi wr=>JJ false u w X m t0 i wr) (λi wr=>m-(intOf i).toNat);case atStart=>exact I0.o
 case round=>
  obtain⟨d,t,at',A,rfl,U,hb,aQ,hT,hR,z⟩:=hrel;have q:=Aa U;have V:=Aa hb;have HT:=Aa hT;have W:=Aa hR;have ay:=Aa z;have aR:=U.le;have aF:=hT.c0;have aG:=hT.c1;have aH:wr.cell? (zD w.heap.size 2)=some (.slice at' t.subs.length A):=hT.cell 2;clear U hb hT hR z I0;go_wp2_with fail;refine(jY _ t wr (EQ w X) ⟨at',A,rfl,ay.o⟩).mono ?_;rintro e w1 ⟨T,a1,c1,rfl,az,a7,a8⟩;have aI:=Aa az;have aJ:=Aa a7;have Y:=Aa a8;clear az a7 a8;go_wp2_with fail;refine(jU (jR 2001 t u (by have:=q.o.sz; omega) q.o.gd) T a1 c1 w1 (EQ w X) aI.o aJ.o).mono ?_;rintro e w2 ⟨ah,ai⟩;have n:=Aa (Y.o.trans (ah.mono Y.o.size));have aK:wr.heap.size<=w2.heap.size:=n.o.size;have aL:wr.heap.size<=w1.heap.size:=Y.o.size;clear ah aF aG aH;rcases ai with ⟨B,rfl⟩|⟨B,x,ok,a2,c2,rfl,aA,aB⟩
  ·have k:=Aa (q.o.fin B);have Z:=Aa ((W.o.below n.o (by omega)).alloc (.cells zJ 24));have I:=Aa ((V.o.trans (n.o.mono (by omega))).alloc (by omega) (.cells zJ 24));have s:=Aa ((HT.o.below n.o (by omega)).alloc (.cells zJ 24));have J:=Aa ((ay.o.later n.o).later ((Ac _ _).alloc (Ag _) (.cells zJ 24)));have q0:(w2.alloc (.cells zJ 24)).cell? (zD w.heap.size 0)=some (zA t.kind):=s.o.cell 0;have q1:(w2.alloc (.cells zJ 24)).cell? (zD w.heap.size 1)=some (zA t.idx):=s.o.cell 1;have q2:(w2.alloc (.cells zJ 24)).cell? (zD w.heap.size 2)=some (.slice at' t.subs.length A):=s.o.cell 2;have aC:(w2.alloc (.cells zJ 24)).heap.size=w2.heap.size+1:=(by simp);clear B s;go_wp2_with fail;generalize (w2.alloc (.cells zJ 24))=wA at *;refine(kD t u q.o.gd _ _ (EQ w X) ⟨at',A,rfl,J.o⟩).mono ?_;rintro e w6 ⟨v6,rfl,⟨a6,c6,rfl,aD⟩,aq⟩;have B6:=Aa (I.o.trans (aq.mono I.o.size));have L:=Aa (Z.o.below aq (by omega));have S6:Hid (Ap w6 (EQ w X) a6 t.subs):=aD.mono λb h _=>Ae (by omega);have C:=L.o.c0;have D:=L.o.c1;have E:=L.o.c2;have rf:=L.o.frozen;clear aD aq q0 q1 q2;go_wp2_with fail;refine Ao (v:=.tuple #[.agg (zE t a6 c6),zA d,zA 0]) (by simp[results,results76,go_sem,AK,AB,C,D,E]) rfl ?_;refine⟨DK B6.o _ (by omega) _ _ _,Ad ⟨k.o.1,a6,c6,by rw[k.o.2.1,k.o.2.2],?_⟩⟩;rw[k.o.2.1];exact(MG S6.o _ (Ae rfl) _ _ _).mono λb hb _=>hb.imp id λh=>by omega
  ·have N:=Aa B;have aE:=Aa aA;have aM:Hid (Ap w2 (EQ w X) a2 x.subs):=aB.mono λb hb _=>hb.elim And.left λh=>Ae (by omega);have Z:=Aa ((W.o.below n.o (by omega)).alloc (.cells (zE x a2 c2) 24));have s:=Aa ((HT.o.below n.o (by omega)).alloc (.cells (zE x a2 c2) 24));have I:=Aa ((V.o.trans (n.o.mono (by omega))).alloc (by omega) (.cells (zE x a2 c2) 24));have J:=Aa (aM.o.later ((Ac _ _).alloc (Ag _) (.cells (zE x a2 c2) 24)));have O:Hid (Ab (w2.alloc (.cells (zE x a2 c2) 24)) w2.heap.size (zE x a2 c2) 24):=Ab.new _ _ _;have aC:(w2.alloc (.cells (zE x a2 c2) 24)).heap.size=w2.heap.size+1:=(by simp);clear aB B aA;obtain⟨P2,aS⟩:∃P2,P2=w2.heap.size:=⟨_,rfl⟩;have l:=Aa (W.o.below n.o (by omega));have y:=Aa (V.o.trans (n.o.mono (by omega)));by_cases hd:d=m
   ·subst hd;have k:=Aa (q.o.fuel N.o);have C:∀o,(w2.alloc o).cell? (zD (w.heap.size+1) 0)=some (zA 0):=λo=>(l.o.alloc o).cell 0;have D:∀o,(w2.alloc o).cell? (zD (w.heap.size+1) 1)=some (zA 0):=λo=>(l.o.alloc o).cell 1;have E:∀o,(w2.alloc o).cell? (zD (w.heap.size+1) 2)=some (zB):=λo=>(l.o.alloc o).cell 2;have rf:∀o i,(w2.alloc o).frozen? (zD (w.heap.size+1) i)=false:=λo=>(l.o.alloc o).frozen;have ar:=l.o.c0;have au:=l.o.c1;have av:=l.o.c2;have aN:∀i,w2.frozen? (zD (w.heap.size+1) i)=false:=l.o.frozen;have aw:w.heap.size+1<w2.heap.size:=(by omega);have F:Hid (∀o f g j,Below w.heap.size w ((((w2.setCell (zD (w.heap.size+1) 0) f).setCell (zD (w.heap.size+1) 1) g).setCell (zD (w.heap.size+1) 2) j).alloc o)/\Below w.heap.size w ((((w2.alloc o).setCell (zD (w.heap.size+1) 0) f).setCell (zD (w.heap.size+1) 1) g).setCell (zD (w.heap.size+1) 2) j)):=λo f g j=>⟨(DK y.o _ (by omega) f g j).alloc (by have:=(DK y.o (w.heap.size+1) (by omega) f g j).size; omega) o,DK (y.o.alloc (by omega) o) _ (by omega) f g j⟩;go_wp2_with fail;refine Ao (v:=.tuple #[.agg zJ,zA 0,zA 9]) (by simp[results,results76,go_sem,AK,AB,C,D,E,ar,au,av,aw,EA]) rfl ?_;refine⟨by first|exact(F.o _ _ _ _).1|exact(F.o _ _ _ _).2,Ae ⟨by rw[k.o]; decide,by rw[k.o]⟩⟩
   ·have aT:((d:Int)==(m:Int))=false:=Dr.2 (by omega);have f:=O.o.cell 0;have g:=O.o.cell 1;have j:=O.o.cell 2;simp only[BP,BQ,BR] at f g j;cases ok with
    |false=>have k:=Aa (q.o.full hd N.o (aE.o.2 rfl));have C:∀o,(w2.alloc o).cell? (zD (w.heap.size+1) 0)=some (zA 0):=λo=>(l.o.alloc o).cell 0;have D:∀o,(w2.alloc o).cell? (zD (w.heap.size+1) 1)=some (zA 0):=λo=>(l.o.alloc o).cell 1;have E:∀o,(w2.alloc o).cell? (zD (w.heap.size+1) 2)=some (zB):=λo=>(l.o.alloc o).cell 2;have rf:∀o i,(w2.alloc o).frozen? (zD (w.heap.size+1) i)=false:=λo=>(l.o.alloc o).frozen;have ar:=l.o.c0;have au:=l.o.c1;have av:=l.o.c2;have aN:∀i,w2.frozen? (zD (w.heap.size+1) i)=false:=l.o.frozen;have aw:w.heap.size+1<w2.heap.size:=(by omega);have F:Hid (∀o f g j,Below w.heap.size w ((((w2.setCell (zD (w.heap.size+1) 0) f).setCell (zD (w.heap.size+1) 1) g).setCell (zD (w.heap.size+1) 2) j).alloc o)/\Below w.heap.size w ((((w2.alloc o).setCell (zD (w.heap.size+1) 0) f).setCell (zD (w.heap.size+1) 1) g).setCell (zD (w.heap.size+1) 2) j)):=λo f g j=>⟨(DK y.o _ (by omega) f g j).alloc (by have:=(DK y.o (w.heap.size+1) (by omega) f g j).size; omega) o,DK (y.o.alloc (by omega) o) _ (by omega) f g j⟩;clear f g j;go_wp2_with fail;refine Ao (v:=.tuple #[.agg zJ,zA 0,zA 8]) (by simp[results,results76,go_sem,AK,AB,C,D,E,ar,au,av,aw,EA]) rfl ?_;refine⟨by first|exact(F.o _ _ _ _).1|exact(F.o _ _ _ _).2,Ae ⟨by rw[k.o]; decide,by rw[k.o]⟩⟩
    |true=>
     have ax:=Aa (aE.o.1 rfl);go_wp2_with fail;refine(PO 2000 (by omega) (by omega) x _ _ (EQ w X) (by exact⟨a2,c2,rfl,J.o⟩)).mono ?_;rintro e P ⟨rfl,r⟩;have aO:=r.size;rw[aC]at aO;have aYY:=aC;dsimp only[zE,zA]at aYY;have B5:=Aa (I.o.trans (r.mono (by omega)));have G:=Aa (s.o.below r (by omega));have H:=Aa (Z.o.below r (by omega));have S5:=Aa (J.o.later r);have X5:=Aa (O.o.below r (by omega));have y0:=H.o.c0;have y1:=H.o.c1;have y2:=H.o.c2;have yf:∀i,P.frozen? (zD (w.heap.size+1) i)=false:=H.o.frozen;have z0:=X5.o.c0;have z1:=X5.o.c1;have z2:=X5.o.c2;have u0:=G.o.c0;have u1:=G.o.c1;have u2:P.cell? (zD w.heap.size 2)=some (.slice at' t.subs.length A):=G.o.cell 2;have uf:∀i,P.frozen? (zD w.heap.size i)=false:=G.o.frozen;clear r f g j;by_cases R:2000<Ai [x]
     ·have e:min ((Ai [x]:Int)) (2000+1)=2001:=(by omega);have k:=Aa (q.o.full hd N.o (by rw[<-ax.o]; exact R));rw[e];clear e R;go_wp2_with fail;refine Ao (v:=.tuple #[.agg zJ,zA 0,zA 8]) (by simp[results,results76,go_sem,AK,AB,y0,y1,y2]) rfl ?_;exact⟨DK B5.o _ (by omega) _ _ _,Ae ⟨by rw[k.o]; decide,by rw[k.o]⟩⟩
     ·have e:min ((Ai [x]:Int)) (2000+1)=Ai [x]:=(by omega);have e3:decide ((Ai [x]:Int)>2000)=false:=IY (by omega);have k:=Aa (q.o.on hd N.o (by rw[<-ax.o]; exact R));rw[<-ax.o]at k;rw[e];have aP:Hid (JJ false u w X m t0 (zA ((d+1:Nat):Int)) (((P.setCell (zD w.heap.size 0) (zA x.kind)).setCell (zD w.heap.size 1) (zA x.idx)).setCell (zD w.heap.size 2) (.slice a2 x.subs.length c2))):=
       ⟨d+1,x,a2,c2,rfl,k.o,DK B5.o _ (by omega) _ _ _,by simp[World.setCell]; omega,UE G.o _ _ _,UG H.o (by omega) _ _ _,MG S5.o _ (Ad rfl) _ _ _⟩
      clear e R;go_wp2_with fail;go_roundw
      case rel=>exact(by go_num:Value.int IntKind.i64 ((d:Int)+1)=zA ((d+1:Nat):Int))▸aP.o
      case measure=>simp[intOf]; omega
def DL (t:Lm) (u z:Int):Int:=if BI u 0 t=0 then (if z<0∨400<z then 3 else 0) else BI u 0 t
theorem MH {u:Int} {t:Lm} (h:BI u 0 t=0):(0<=u/\u<=40)/\Au u 0 [t]=0/\Ai [t]<=200:=by
 unfold BI at h;split at h
 ·cases h
 ·split at h
  ·cases h
  ·exact⟨by omega,h,by omega⟩
theorem kN (t:Lm) (u z:Int) (hz:DL t u z≠0) (v:Value) (w:World) (X:Nat->Prop) (r:MV w X v t):
  Calls prog 57 #[v,zA u,zA z,.func (.func 58) #[] #[]] w λe w'=>e=.returned (.tuple #[.agg zJ,zA 0,zA (DL t u z)])/\Below w.heap.size w w':=by
 obtain⟨a,c,rfl,m⟩:=r;have n:Hid (Below w.heap.size w ((w.alloc (.cells (zE t a c) 24)).alloc (.cells zJ 24))):=Dn _ _;have s:Hid (MV ((w.alloc (.cells (zE t a c) 24)).alloc (.cells zJ 24)) (λb=>X b/\b<w.heap.size) (.agg (zE t a c)) t):=⟨a,c,rfl,(m.mono (Y:=λb=>X b/\b<w.heap.size) λb h1 h2=>⟨h1,h2⟩).later n.o⟩;have HT:Hid (Ab ((w.alloc (.cells (zE t a c) 24)).alloc (.cells zJ 24)) w.heap.size (zE t a c) 24):=(Ab.new w _ _).alloc _;have x:Hid (Ab ((w.alloc (.cells (zE t a c) 24)).alloc (.cells zJ 24)) (w.heap.size+1) zJ 24):=by
  have h:=Ab.new (w.alloc (.cells (zE t a c) 24)) zJ 24;unfold Hid;simpa using h
 have af:(((w.alloc (.cells (zE t a c) 24)).alloc (.cells zJ 24))).heap.size=w.heap.size+2:=by simp
 clear m;go_enter func57,ntmps57;go_wp2_with fail;refine(Nr t _ u _ _ s.o).mono ?_;rintro e w1 ⟨rfl,g⟩;have i:=Aa (n.o.trans (g.mono (by omega)));have d:=Aa (x.o.below g (by omega));have j:=d.o.c0;have k:=d.o.c1;have l:=d.o.c2;have rf:=d.o.frozen;clear g;by_cases h:BI u 0 t=0
 ·have y:z<0∨400<z:=(by unfold DL at hz;rw[Aq h]at hz;apply El;intro A;rw[Am A]at hz;exact hz rfl);have f:Hid (DL t u z=3):=Aa (by unfold DL;rw[Aq h,Aq y]);rw[h];clear h hz;by_cases q:z<0
  ·have g1:decide (z<0)=true:=decide_eq_true q;go_wp2_with fail;refine Ao (v:=.tuple #[.agg zJ,zA 0,zA 3]) (by simp[results,results57,go_sem,AK,AB,j,k,l]) rfl ?_;exact⟨by rw[f.o],DK i.o _ (by omega) _ _ _⟩
  ·have g1:decide (z<0)=false:=IY q;have g2:decide (z>400)=true:=decide_eq_true (by omega);go_wp2_with fail;refine Ao (v:=.tuple #[.agg zJ,zA 0,zA 3]) (by simp[results,results57,go_sem,AK,AB,j,k,l]) rfl ?_;exact⟨by rw[f.o],DK i.o _ (by omega) _ _ _⟩
 ·have f:Hid (DL t u z=BI u 0 t):=Aa (by unfold DL;rw[Am h]);have hne:(BI u 0 t==0)=false:=Dr.2 h;clear h hz;go_wp2_with fail;refine Ao (v:=.tuple #[.agg zJ,zA 0,zA (BI u 0 t)]) (by simp[results,results57,go_sem,AK,AB,j,k,l]) rfl ?_;exact⟨by rw[f.o],DK i.o _ (by omega) _ _ _⟩
theorem kO (t:Lm) (u:Int) (m:Nat) (hm:m<=400) (n:BI u 0 t=0) (v:Value) (w:World) (X:Nat->Prop) (D:MV w X v t):
  Calls prog 57 #[v,zA u,zA m,.func (.func 58) #[] #[]] w λe w'=>ME false m t X w e w':=by
 obtain⟨a,c,rfl,q⟩:=D;have r:Hid (Below w.heap.size w ((w.alloc (.cells (zE t a c) 24)).alloc (.cells zJ 24))):=Dn _ _;have s:Hid (MV ((w.alloc (.cells (zE t a c) 24)).alloc (.cells zJ 24)) (λb=>X b/\b<w.heap.size) (.agg (zE t a c)) t):=⟨a,c,rfl,(q.mono (Y:=λb=>X b/\b<w.heap.size) λb h1 h2=>⟨h1,h2⟩).later r.o⟩;have HT:Hid (Ab ((w.alloc (.cells (zE t a c) 24)).alloc (.cells zJ 24)) w.heap.size (zE t a c) 24):=(Ab.new w _ _).alloc _;have E:Hid (Ab ((w.alloc (.cells (zE t a c) 24)).alloc (.cells zJ 24)) (w.heap.size+1) zJ 24):=by
  have h:=Ab.new (w.alloc (.cells (zE t a c) 24)) zJ 24;unfold Hid;simpa using h
 have F:(((w.alloc (.cells (zE t a c) 24)).alloc (.cells zJ 24))).heap.size=w.heap.size+2:=by simp
 clear q;have f:=Aa n;have gm:decide ((m:Int)<0)=false:=IY (by omega);have ah:decide ((m:Int)>400)=false:=IY (by omega);clear n;go_enter func57,ntmps57;go_wp2_with fail;refine(Nr t _ u _ _ s.o).mono ?_;rintro e w1 ⟨rfl,d⟩;rw[f.o];have G:=Aa (r.o.trans (d.mono (by omega)));have g:=HT.o.below d (by omega);have H:=Aa (E.o.below d (by omega));have ai:w.heap.size+2<=w1.heap.size:=by have:=d.size; omega
 have I:=Aa (s.o.later d);have c0:=g.c0;have c1:=g.c1;have c2:=g.c2;clear d g F;go_wp2_with fail;refine(kM u m t _ w1 _ hm (MH f.o).1 (MH f.o).2.1 (by have:=(MH f.o).2.2; omega) I.o).mono ?_;rintro e x ⟨i,J⟩;have y:=Aa (G.o.trans (i.mono (by omega)));have j:=Aa (H.o.below i (by omega));have aj:w1.heap.size<=x.heap.size:=i.size;have z:=j.o.c0;have A:=j.o.c1;have B:=j.o.c2;have rf:=j.o.frozen;clear i c0 c1 c2;rcases J with ⟨h0,a9,c9,rfl,C⟩|⟨h0,rfl⟩
 ·have L:Hid (Ap x (λb=>(X b/\b<w.heap.size)∨w.heap.size+2<=b) a9 (Bl false m t).2.1.subs):=C.mono λb hb _=>hb.imp (λh=>h.1) λh=>by omega
  have k:=Aa h0;clear C h0;go_wp2_with fail;refine Ao (v:=.tuple #[.agg #[zA (Bl false m t).2.1.kind,zA (Bl false m t).2.1.idx,.slice a9 (Bl false m t).2.1.subs.length c9],zA ((Bl false m t).2.2:Int),zA 0]) (by simp[results,results57,go_sem,AK,AB,z,A,B]) rfl ?_;refine⟨DK y.o _ (by omega) _ _ _,Ad ⟨k.o,a9,c9,rfl,(L.o.kept λb hb=>?_).mono λb hb _=>hb.imp id λh=>by omega⟩⟩;have l:b≠w.heap.size+1:=by rcases hb with hb|hb<;>omega
  rw[Al _ _ _ _ (by simpa using l),Al _ _ _ _ (by simpa using l),Al _ _ _ _ (by simpa using l)]
 ·have k:=Aa h0;clear h0;go_wp2_with fail;refine Ao (v:=.tuple #[.agg zJ,zA 0,zA (Bl false m t).1]) (by simp[results,results57,go_sem,AK,AB,z,A,B]) rfl ?_;exact⟨DK y.o _ (by omega) _ _ _,Ae ⟨k.o,rfl⟩⟩
theorem kP (t:Lm) (u z:Int) (hz:DL t u z≠0) (v:Value) (w:World) (X:Nat->Prop) (j:MV w X v t):
  Calls prog 38 #[v,zA u,zA z] w λe w'=>e=.returned (.tuple #[.agg zJ,zA 0,zA (DL t u z)])/\Below w.heap.size w w':=by
 obtain⟨a,c,rfl,g⟩:=j;have i:Hid (Below w.heap.size w ((w.alloc (.cells (zE t a c) 24)).alloc (.cells zJ 24))):=Dn _ _;have k:Hid (MV ((w.alloc (.cells (zE t a c) 24)).alloc (.cells zJ 24)) (λb=>X b/\b<w.heap.size) (.agg (zE t a c)) t):=⟨a,c,rfl,(g.mono (Y:=λb=>X b/\b<w.heap.size) λb h1 h2=>⟨h1,h2⟩).later i.o⟩;have HT:Hid (Ab ((w.alloc (.cells (zE t a c) 24)).alloc (.cells zJ 24)) w.heap.size (zE t a c) 24):=(Ab.new w _ _).alloc _;have l:Hid (Ab ((w.alloc (.cells (zE t a c) 24)).alloc (.cells zJ 24)) (w.heap.size+1) zJ 24):=by
  have h:=Ab.new (w.alloc (.cells (zE t a c) 24)) zJ 24;unfold Hid;simpa using h
 have ad:(((w.alloc (.cells (zE t a c) 24)).alloc (.cells zJ 24))).heap.size=w.heap.size+2:=by simp
 clear g;go_enter func38,ntmps38;go_wp2_with fail;refine(kN t u z hz _ _ _ k.o).mono ?_;rintro e w1 ⟨rfl,f⟩;have m:=Aa (i.o.trans (f.mono (by omega)));have d:=Aa (l.o.below f (by omega));have n:=d.o.c0;have q:=d.o.c1;have r:=d.o.c2;have rf:=d.o.frozen;clear f;go_wp2_with fail;refine Ao (v:=.tuple #[.agg zJ,zA 0,zA (DL t u z)]) (by simp[results,results38,go_sem,AK,AB,n,q,r]) rfl ?_;exact⟨rfl,DK m.o _ (by omega) _ _ _⟩
theorem kQ (t:Lm) (u:Int) (m:Nat) (hm:m<=400) (j:BI u 0 t=0) (v:Value) (w:World) (X:Nat->Prop) (B:MV w X v t):
  Calls prog 38 #[v,zA u,zA m] w λe w'=>ME false m t X w e w':=by
 obtain⟨a,c,rfl,k⟩:=B;have l:Hid (Below w.heap.size w ((w.alloc (.cells (zE t a c) 24)).alloc (.cells zJ 24))):=Dn _ _;have C:Hid (MV ((w.alloc (.cells (zE t a c) 24)).alloc (.cells zJ 24)) (λb=>X b/\b<w.heap.size) (.agg (zE t a c)) t):=⟨a,c,rfl,(k.mono (Y:=λb=>X b/\b<w.heap.size) λb h1 h2=>⟨h1,h2⟩).later l.o⟩;have HT:Hid (Ab ((w.alloc (.cells (zE t a c) 24)).alloc (.cells zJ 24)) w.heap.size (zE t a c) 24):=(Ab.new w _ _).alloc _;have D:Hid (Ab ((w.alloc (.cells (zE t a c) 24)).alloc (.cells zJ 24)) (w.heap.size+1) zJ 24):=by
  have h:=Ab.new (w.alloc (.cells (zE t a c) 24)) zJ 24;unfold Hid;simpa using h
 have n:(((w.alloc (.cells (zE t a c) 24)).alloc (.cells zJ 24))).heap.size=w.heap.size+2:=by simp
 clear k;have E:=Aa j;clear j;go_enter func38,ntmps38;go_wp2_with fail;refine(kO t u m hm E.o _ _ _ C.o).mono ?_;rintro e q ⟨d,r⟩;have s:=Aa (l.o.trans (d.mono (by omega)));have f:=Aa (D.o.below d (by omega));have ag:w.heap.size+2<=q.heap.size:=by have:=d.size; omega
 have x:=f.o.c0;have y:=f.o.c1;have z:=f.o.c2;have rf:=f.o.frozen;clear d;rw[n]at r;clear n;rcases r with ⟨h0,a9,c9,rfl,A⟩|⟨h0,rfl⟩
 ·have F:Hid (Ap q (λb=>(X b/\b<w.heap.size)∨w.heap.size+2<=b) a9 (Bl false m t).2.1.subs):=A.mono λb hb _=>hb.imp (λh=>h.1) λh=>by omega
  have g:=Aa h0;clear A h0;go_wp2_with fail;refine Ao (v:=.tuple #[.agg #[zA (Bl false m t).2.1.kind,zA (Bl false m t).2.1.idx,.slice a9 (Bl false m t).2.1.subs.length c9],zA ((Bl false m t).2.2:Int),zA 0]) (by simp[results,results38,go_sem,AK,AB,x,y,z]) rfl ?_;refine⟨DK s.o _ (by omega) _ _ _,Ad ⟨g.o,a9,c9,rfl,(F.o.kept λb hb=>?_).mono λb hb _=>hb.imp id λh=>by omega⟩⟩;have i:b≠w.heap.size+1:=by rcases hb with hb|hb<;>omega
  rw[Al _ _ _ _ (by simpa using i),Al _ _ _ _ (by simpa using i),Al _ _ _ _ (by simpa using i)]
 ·have g:=Aa h0;clear h0;go_wp2_with fail;refine Ao (v:=.tuple #[.agg zJ,zA 0,zA (Bl false m t).1]) (by simp[results,results38,go_sem,AK,AB,x,y,z]) rfl ?_;exact⟨DK s.o _ (by omega) _ _ _,Ae ⟨g.o,rfl⟩⟩
theorem kR (u:Int) {M:Int} (m:Nat) (t0:Lm) (v:Value) (w:World) (X:Nat->Prop) (hm:m<=400) (hu:0<=u/\u<=40) (he:Au u M [t0]=0) (hz:Ai [t0]<=2000) (hv:MV w X v t0) (hM:M<=40:=by omega):
  Calls prog 13 #[v,zA m,.bool false] w λe w'=>ME false m t0 X w e w':=by
 obtain⟨a,c,rfl,n⟩:=hv;have R:Hid (Ap w (EQ w X) a t0.subs):=n.mono λb h1 h2=>Ad ⟨h1,h2⟩;have T:=Aa (EJ.start (inn:=false) (m:=m) hu he hz hM);have U:Hid (JJ false u w X m t0 (zA ((0:Nat):Int)) ((w.alloc (.cells (zE t0 a c) 24)).alloc (.cells zJ 24))):=by
  refine⟨0,t0,a,c,rfl,T.o,Dn _ _,by simp,(Ab.new w _ _).alloc _,?_,R.o.later (Dn _ _)⟩;have h:=Ab.new (w.alloc (.cells (zE t0 a c) 24)) zJ 24;simpa using h
 clear n he hz R T;go_enter func13,ntmps13;go_wp2_with fail;go_loopw [9] (λi wr=>JJ false u w X m t0 i wr) (λi wr=>m-(intOf i).toNat);case atStart=>exact U.o
 case round=>
  obtain⟨d,t,at',z,rfl,F,hb,ax,hT,V,n⟩:=hrel;have g:=Aa F;have W:=Aa hb;have HT:=Aa hT;have Y:=Aa V;have G:=Aa n;have ay:=F.le;have an:=hT.c0;have ao:=hT.c1;have aq:=hT.c2;clear F hb hT V n U;go_wp2_with fail;refine(Rs t _ wr (EQ w X) ⟨at',z,rfl,G.o⟩ (NJ _ _ _ g.o.er.choose_spec.1)).mono ?_;rintro e w1 ⟨rfl,j⟩;have ar:wr.heap.size<=w1.heap.size:=j.size;have H:=Aa (W.o.trans (j.mono (by omega)));have A:=Aa (HT.o.below j (by omega));have q:=Aa (Y.o.below j (by omega));have Z:=Aa (G.o.later j);have q0:=A.o.c0;have q1:=A.o.c1;have q2:=A.o.c2;have I:=q.o.c0;have J:=q.o.c1;have L:=q.o.c2;have rf:=q.o.frozen;clear j an ao aq G HT Y W;cases C:AG [t] with
  |false=>have f:=Aa (g.o.fin C);clear C;go_wp2_with fail;refine Ao (v:=.tuple #[.agg (zE t at' z),zA d,zA 0]) (by simp[results,results13,go_sem,AK,AB,I,J,L]) rfl ?_;refine⟨DK H.o _ (by omega) _ _ _,Ad ⟨f.o.1,at',z,by rw[f.o.2.1,f.o.2.2],?_⟩⟩;rw[f.o.2.1];exact(MG Z.o _ (Ae rfl) _ _ _).mono λb hb _=>hb.imp id λh=>by omega
  |true=>
   have D:=Aa C;clear C;by_cases hd:d=m
   ·subst hd;have f:=Aa (g.o.fuel D.o);go_wp2_with fail;refine Ao (v:=.tuple #[.agg zJ,zA 0,zA 9]) (by simp[results,results13,go_sem,AK,AB,I,J,L]) rfl ?_;exact⟨DK H.o _ (by omega) _ _ _,Ae ⟨by rw[f.o]; decide,by rw[f.o]⟩⟩
   ·have az:((d:Int)==(m:Int))=false:=Dr.2 (by omega);clear I J L rf;go_wp2_with fail;refine(kH 2001 t u _ w1 (EQ w X) (by have:=g.o.sz; omega) g.o.gd D.o ⟨at',z,rfl,Z.o⟩).mono ?_;rintro e k ⟨a5,c5,rfl,N,r⟩;obtain⟨x,hx⟩:∃x,Bx false 2001 t=x:=⟨_,rfl⟩;have O:=Aa hx;rw[hx]at N ⊢;have au:w1.heap.size<=k.heap.size:=r.size;have B5:=Aa (H.o.trans (r.mono (by omega)));have s:=Aa (A.o.below r (by omega));have R5:=Aa (q.o.below r (by omega));have S5:Hid (Ap k (EQ w X) a5 x.subs):=N.mono λb hb _=>hb.elim And.left λh=>Ae (by omega);have u0:=s.o.c0;have u1:=s.o.c1;have u2:=s.o.c2;have uf:∀i,k.frozen? (zD w.heap.size i)=false:=s.o.frozen;have BS:=Aa (DK B5.o w.heap.size (Ag _) (zA x.kind) (zA x.idx) (.slice a5 x.subs.length c5));have TS:=Aa (UE s.o (zA x.kind) (zA x.idx) (.slice a5 x.subs.length c5));have RS:=Aa (UG R5.o (B:=w.heap.size) (by omega) (zA x.kind) (zA x.idx) (.slice a5 x.subs.length c5));have SS:=Aa (MG S5.o w.heap.size (Ad rfl) (zA x.kind) (zA x.idx) (.slice a5 x.subs.length c5));have a1:(((k.setCell (zD w.heap.size 0) (zA x.kind)).setCell (zD w.heap.size 1) (zA x.idx)).setCell (zD w.heap.size 2) (.slice a5 x.subs.length c5)).heap.size=k.heap.size:=(by simp[World.setCell]);clear N r hx q0 q1 q2;go_wp2_with fail;clear u0 u1 u2 uf;generalize (((k.setCell (zD w.heap.size 0) (zA x.kind)).setCell (zD w.heap.size 1) (zA x.idx)).setCell (zD w.heap.size 2) (.slice a5 x.subs.length c5))=w6 at *;refine(J5 x _ 2000 _ (EQ w X) ⟨a5,c5,rfl,SS.o⟩ (by omega) (by omega)).mono ?_;rintro e P ⟨rfl,l⟩;have av:w6.heap.size<=P.heap.size:=l.size;have B7:=Aa (BS.o.trans (l.mono (by omega)));have T7:=Aa (TS.o.below l (by omega));have y:=Aa (RS.o.below l (by omega));have S7:=Aa (SS.o.later l);have y0:=y.o.c0;have y1:=y.o.c1;have y2:=y.o.c2;have yf:∀i,P.frozen? (zD (w.heap.size+1) i)=false:=y.o.frozen;clear l;by_cases E:2000<Ai [x]
    ·have e:min ((Ai [x]:Int)) (2000+1)=2001:=(by omega);have f:=Aa (g.o.full hd D.o (by rw[O.o]; exact E));rw[e];clear e E;go_wp2_with fail;refine Ao (v:=.tuple #[.agg zJ,zA 0,zA 8]) (by simp[results,results13,go_sem,AK,AB,y0,y1,y2]) rfl ?_;exact⟨DK B7.o _ (by omega) _ _ _,Ae ⟨by rw[f.o]; decide,by rw[f.o]⟩⟩
    ·have e:min ((Ai [x]:Int)) (2000+1)=Ai [x]:=(by omega);have e3:decide ((Ai [x]:Int)>2000)=false:=IY (by omega);have f:=Aa (g.o.on hd D.o (by rw[O.o]; exact E));rw[O.o]at f;rw[e];have aw:Hid (JJ false u w X m t0 (zA ((d+1:Nat):Int)) P):=⟨d+1,x,a5,c5,rfl,f.o,B7.o,by omega,T7.o,y.o,S7.o⟩;clear e E;go_wp2_with fail;go_roundw
     case rel=>exact(by go_num:Value.int IntKind.i64 ((d:Int)+1)=zA ((d+1:Nat):Int))▸aw.o
     case measure=>simp[intOf]; omega
open Go.ChangeShapes Go.WideShapes Go.ChangeAt Go.RowKit
theorem Tryz.cellsTy:prog.cellsOf 27=2:=by kernel_rfl
theorem Tryz.cellsIntY:prog.cellsOf 3=1:=by kernel_rfl
theorem Tryz.cellsSlY:prog.cellsOf 25=1:=by kernel_rfl
theorem kS {w:World} {a:Addr} {cs:List Value} (h:w.cells? 0 a 2=some cs):∃c0 c1,cs=[c0,c1]/\w.cell? a=some c0/\w.cell? (a.add 1)=some c1:=by
 have e:(List.range 2)=[0,1]:=rfl;simp only[World.cells?,Bm,if_true,e] at h;simp only[List.mapM_cons,List.mapM_nil,Option.bind_eq_bind,Option.bind_eq_some_iff,Option.pure_def] at h;obtain⟨c0,h0,r,⟨c1,h1,r1,h3,b⟩,h6⟩:=h;simp only[Il] at h3 b h6;subst h3; subst b; subst h6;exact⟨c0,c1,rfl,by simpa [Addr.add] using h0,h1⟩
theorem kT {w:World} {X:Nat->Prop}:∀(l:List Ty) (b o:Nat),(∀i (h:i<l.length),X b/\w.cell? ⟨b,o+i*2,none⟩=some (zA l[i].base)/\∃a c,w.cell? ⟨b,o+i*2+1,none⟩=some (.slice a l[i].subs.length c)/\AM w X a l[i].subs)->Dy w X b o l:=by
 intro l;induction l with
 |nil=>intro b o _; simp[Dy]
 |cons t r d=>intro b o h;obtain⟨s,k⟩:=t;obtain⟨h0,h1,a,c,h3,e,h5⟩:=h 0 (by simp);simp only[Dy];refine⟨h0,by simpa using h1,⟨a,c,by simpa using h3,e,h5⟩,d b (o+2) λi hi=>?_⟩;have:=h (i+1) (by simpa using hi);simp only[Fg] at this;rw[show o+(i+1)*2=o+2+i*2 by omega]at this;exact this
theorem kU {H:Type} {enc:TypeId×Value->H} {w:World} {sp:Nat->Bool} {held:Bool}:∀(fuel:Nat) (cs:List Value) (x:DataW H×List MemPlace),DataW.trod enc prog w 0 sp held fuel 27 cs=some x->
  ∃(t:Ty) (a:Option Addr) (c:Nat),cs=[zA t.base,.slice a t.subs.length c]/\AM w (λ_=>True) a t.subs:=by
 intro fuel;induction fuel using Nat.strongRecOn with
 |ind fuel q=>
  intro cs x h;obtain⟨xs,n,ai,hx,g,r,j⟩:=DataW.trod_struct underlying27 h;have f0:=j 0 _ rfl;have f1:=j 1 _ rfl;rw[Tryz.cellsTy]at g;match cs,g with
  | [c0,c1],_=>
   match xs,r with
   | [y0,y1],_=>
    simp[Tryz.cellsIntY,Tryz.cellsSlY]at f0 f1;obtain⟨k,l,_⟩:=DataW.trod_int underlying3 f0;simp at l;subst l;rcases DataW.trod_slice underlying25 f1 with ⟨e1,_⟩|⟨a,len,cap,elems,rest,s,aj,e1,_,hb,ak,u,al,m,_⟩
    ·simp at e1;subst e1;exact⟨⟨k,[]⟩,none,0,rfl,by simp,Ad rfl⟩
    ·simp at e1;subst e1;unfold maxLen at u;rw[Tryz.cellsTy]at m;have key:∀i,∃t:Ty,i<len->∃d c',w.cell? (a.add (i*2))=some (zA t.base)/\w.cell? ((a.add (i*2)).add 1)=some (.slice d t.subs.length c')/\AM w (λ_=>True) d t.subs:=by
      intro i;by_cases hi:i<len
      ·have h1:=m i hi;have v:i<elems.length:=(by omega);rw[FU v,Option.bind_eq_some_iff]at h1;obtain⟨an,h2,h3⟩:=h1;obtain⟨d0,d1,rfl,g0,g1⟩:=kS h2;obtain⟨t,d,c',e3,e⟩:=q s (by omega) _ _ h3;simp at e3;obtain⟨rfl,rfl⟩:=e3;exact⟨t,λ_=>⟨d,c',g0,g1,e⟩⟩
      ·exact⟨⟨0,[]⟩,λh=>absurd h hi⟩
     obtain⟨T,hT⟩:=Classical.skolem.1 key;refine⟨⟨k,(List.range len).map T⟩,some a,cap,by simp,by simp; omega,?_⟩;by_cases h0:len=0
     ·subst h0; exact Ad rfl
     ·right;obtain⟨b,o,sp⟩:=a;obtain⟨a0,c0,g0,_,_⟩:=hT 0 (by omega);have y:sp=none:=(by simpa [Addr.add] using World.cell?_spot g0);subst y;refine⟨b,o,rfl,kT _ _ _ λi hi=>?_⟩;simp at hi;obtain⟨d,c',g0,g1,e⟩:=hT i hi;refine⟨trivial,?_,d,c',?_,?_⟩
      ·simp only[Im,MR];by_cases f:i=0
       ·subst f; simpa [Addr.add] using g0
       ·have:i*2≠0:=(by omega);simpa [Addr.add,this] using g0
      ·simp only[Im,MR];by_cases f:i=0
       ·subst f; simpa [Addr.add] using g1
       ·have:i*2≠0:=(by omega);simpa [Addr.add,this] using g1
      ·simpa using e
theorem kW {H:Type} {enc:TypeId×Value->H} {w:World} {sp:Nat->Bool} {held:Bool} {r:Reach} {b:Nat} {v:Value} {d:DataW H} {p:List MemPlace} (f:Value.okWide prog w r b 27 v) (h:DataW.Trod enc prog w 0 sp held 27 v d p):∃t,YV w (λ_=>True) v t:=by
 obtain⟨cs,rfl,aa⟩:=okWide_struct underlying27 f;obtain⟨fuel,g⟩:=h;obtain⟨t,a,c,e,i⟩:=kU fuel _ _ g;refine⟨t,a,c,?_,i⟩;simp[Value.cells]at e;congr 1
 apply Array.ext';simpa using e
