import Derived.Test.YtacmmcnnhfmepaaGreatDoorL9
namespace Go.Proofs.YtacmmcnnhfmepaaGreatDoor
set_option linter.all false
set_option maxRecDepth 9999
set_option maxHeartbeats 0
open Go.RowKit Go.Proofs.Tryz
variable {w wr:World} {Y:Nat->Prop} {O c n:Nat} {b d:Int} {a:Option Addr} {u:Value} {L:List Lm}
theorem Ur (f:Lm->Lm):∀a b:List Lm,CD f (a++b)=if AN a=true then CD f a++b else a++CD f b
 | [],b=>by simp[AN]
 |y::r,b=>by
  have e:AN (y::r)=(AN [y]||AN r):=JB [y] r;rw[Dj];cases h:AN [y] with
  |true=>rw[e,h]; simp[CD,h]
  |false=>
   rw[e,h,Bool.false_or];rw[CD,h,Am (by simp),Ur f r b];by_cases h2:AN r=true
   ·rw[Aq h2,Aq h2,CD,h,Am (by simp)]; rfl
   ·rw[Am h2,Am h2]; rfl
theorem kX (f:Lm->Lm) (l:List Lm) (k:Nat) (h:k<l.length):CD f (l.take (k+1))=CD f (l.take k)++[if AN (l.take k)=false/\AN [l[k]]=true then f l[k] else l[k]]:=by
 rw[CI h,Ur];cases h1:AN (l.take k) with
 |true=>simp
 |false=>
  rw[Am (by simp),SD f _ h1];cases h2:AN [l[k]] with
  |true=>simp[CD,h2]
  |false=>simp[CD,h2]
theorem Fi.later {w':World} (h:Fi w Y O b d a n c u L wr) (hb:Below wr.heap.size wr w'):Fi w Y O b d a n c u L w':=by
 obtain⟨xs,h1,h2,h3,e,h5,h6⟩:=h;exact⟨xs,h1.below hb,h2.trans (hb.mono h2.size),h3.below hb h3.lt,e.below hb e.lt,h5.below hb h5.lt,by have:=hb.size; omega⟩
theorem Fi.row (h:Fi w Y O b d a n c u L wr):Ab wr O #[zA b,zA d,u] 24:=by
 obtain⟨xs,h1,h2,h3,h4,h5,h6⟩:=h;exact h5
theorem Fi.top (h:Fi w Y O b d a n c u L wr):Ab wr w.heap.size #[zA b,zA d,.slice a n c] 24:=by
 obtain⟨xs,h1,h2,h3,h4,h5,h6⟩:=h;exact h3
theorem kY (n:Nat):∀(t:Lm) (u:Int) (v:Value) (w:World) (X:Nat->Prop),Ai [t]<=n->Eq u t->AN [t]=true->MV w X v t->
  Calls prog 31 #[v,.bool false] w λe w'=>Mv w X (BG false n t) e w':=by
 induction n with
 |zero=>intro t u v w X h; have:=SJ t; omega
 |succ n ih=>
  intro t u v w X hn Z aD hv;have IH:=Aa ih;clear ih;obtain⟨f,j,l⟩:=t;obtain⟨a,c,rfl,hs⟩:=hv;dsimp only at hs ⊢;have bn:Ai [(⟨f,j,l⟩:Lm)]=1+Ai l:=KD f j l;have aL:EA [(⟨f,j,l⟩:Lm)]:=Oe _ _ _ Z.2.2.1.choose_spec.1;have b1:=hs.1;have HR:Hid (Fx false ⟨f,j,l⟩=CA ⟨f,j,l⟩):=Aa (by unfold Fx;simp);have B2:Hid (Below w.heap.size w ((w.alloc (zp #[zA f,zA j,.slice a l.length c] 24)).alloc zi)):=Dk _ _;have T2:Hid (Ab ((w.alloc (zp #[zA f,zA j,.slice a l.length c] 24)).alloc zi) w.heap.size #[zA f,zA j,.slice a l.length c] 24):=(Ab.new w _ _).alloc _;have R2:Hid (Ab ((w.alloc (zp #[zA f,zA j,.slice a l.length c] 24)).alloc zi) (w.heap.size+1) zJ 24):=by
   have h:=Ab.new (w.alloc (zp #[zA f,zA j,.slice a l.length c] 24)) zJ 24;rw[Ca]at h;exact h
  have aM:f=3->l≠[]:=λh3 e=>by
   have:=((JA f j l []).1 aL).1;rw[h3,e]at this;simp[BF]at this
  have ah:=Aa (Su ⟨f,j,l⟩ (.agg #[zA f,zA j,.slice a l.length c]) ((w.alloc (zp #[zA f,zA j,.slice a l.length c] 24)).alloc zi) X ⟨a,c,rfl,hs.later B2.o⟩ aM);have HS:=Aa hs;clear hs;cases ax:CA ⟨f,j,l⟩ with
  |true=>
   rw[ax]at ah;obtain⟨x',fi,q,z,e,hq,bo⟩:=Sz Z.2.2.1.choose_spec.1 ax;have HH:Hid (Fx false ⟨f,j,l⟩=true):=Aa (by rw[HR.o,ax]);simp only[Lm.mk.injEq] at e;obtain⟨rfl,rfl,rfl⟩:=e;have HT:Hid (BG false (n+1) ⟨3,j,[⟨2,fi,[q]⟩,z]⟩=AY z 0 q):=Aa (by rw[BG,Aq HH.o];rfl);rw[HT.o];obtain⟨B,o,a1,c1,a2,c2,rfl,bp,d0,d1,d2,d3,d4,d5,aY,aZ⟩:=Un HS.o;obtain⟨r,s,a3,c3,rfl,aN,g0,g1,g2,ba⟩:=Uo aY;have bb:Eq u ⟨2,fi,[q]⟩:=by have:=Z.subs (y:=⟨2,fi,[q]⟩) (by simp); simpa [AR] using this
   have aA:Eq u z:=by have:=Z.subs (y:=z) (by simp); simpa [AR] using this
   have aB:Eq (u+1) q:=by have:=bb.subs (y:=q) (by simp); simpa [AR] using this
   have aH:B<w.heap.size:=Hi d0;have ay:r<w.heap.size:=Hi g0;have CS:Hid (∀w',Below w.heap.size w w'->w'.cell? (zD w.heap.size 2)=some (.slice (some (zD B o)) 2 c)->w'.cell? (zD w.heap.size 2)=some (.slice (some (zD B o)) 2 c)/\w'.cell? ⟨B,o+2,none⟩=some (.slice (some (zD r s)) 1 c1)/\w'.cell? ⟨B,o+3,none⟩=some (zA z.kind)/\w'.cell? ⟨B,o+4,none⟩=some (zA z.idx)/\w'.cell? ⟨B,o+5,none⟩=some (.slice a2 z.subs.length c2)/\w'.cell? (zD r s)=some (zA q.kind)/\w'.cell? ⟨r,s+1,none⟩=some (zA q.idx)/\w'.cell? ⟨r,s+2,none⟩=some (.slice a3 q.subs.length c3)):=λw' hb h=>⟨h,(hb.cell (p:=⟨B,o+2,none⟩) aH).trans d2,(hb.cell (p:=⟨B,o+3,none⟩) aH).trans d3,(hb.cell (p:=⟨B,o+4,none⟩) aH).trans d4,(hb.cell (p:=⟨B,o+5,none⟩) aH).trans d5,(hb.cell (p:=(zD r s)) ay).trans g0,(hb.cell (p:=⟨r,s+1,none⟩) ay).trans g1,(hb.cell (p:=⟨r,s+2,none⟩) ay).trans g2⟩;have BE:Hid (∀w',Below w.heap.size w w'->Calls prog 53 #[.agg (zE q a3 c3),.agg (zE z a2 c2)] w' λe az=>∃a5 c5,e=.returned (.agg #[zA (AY z 0 q).kind,zA (AY z 0 q).idx,.slice a5 (AY z 0 q).subs.length c5])/\Ap az (λb=>(X b/\b<w.heap.size)∨w'.heap.size<=b) a5 (AY z 0 q).subs/\Below w'.heap.size w' az):=λw' hb=>by
    refine(kW q z _ _ w' (λb=>X b/\b<w.heap.size) ⟨a3,c3,rfl,(ba.mono (Y:=λb=>X b/\b<w.heap.size) λb h1 h2=>⟨h1,h2⟩).later hb⟩ ⟨a2,c2,rfl,(aZ.mono (Y:=λb=>X b/\b<w.heap.size) λb h1 h2=>⟨h1,h2⟩).later hb⟩ (by have:=aB.2.2.2; omega) (Jv _ _ _ aB.1 (by have:=aB.2.1; omega) (by have:=aB.2.2.1.choose_spec.2; omega) aB.2.2.1.choose_spec.1) (by have:=aA.2.2.2; omega) (Jv _ _ _ aA.1 (by have:=aA.2.1; omega) (by have:=aA.2.2.1.choose_spec.2; omega) aA.2.2.1.choose_spec.1)).mono ?_;rintro e az ⟨a5,c5,rfl,h5,h6⟩;exact⟨a5,c5,rfl,h5.mono λb h _=>h.imp And.left id,h6⟩
   clear d0 d1 d2 d3 d4 d5 g0 g1 g2 aY aZ ba bb aA aB bp aN hq bo aD aL aM Z ax;simp only[Cl,Ek,Ia,Nat.reduceAdd] at *;go_in;go_wp2_with fail;refine ah.o.mono ?_;rintro e w1 ⟨rfl,G⟩;have aO:(((w.alloc (zp #[zA 3,zA j,.slice (some (zD B o)) 2 c] 24)).alloc zi)).heap.size=w.heap.size+2:=(by simp);have a6:=Aa (B2.o.trans (G.mono (by omega)));have T1:=Aa (T2.o.below G (by omega));have R1:=Aa (R2.o.below G (by omega));have bc:w.heap.size+2<=w1.heap.size:=by have:=G.size; omega
   clear G aO ah;go_wp2_with fail;have KP:Hid (∀w',Below w1.heap.size w1 w'->w'.cell? (zD w.heap.size 2)=some (.slice (some (zD B o)) 2 c)/\w'.cell? ⟨B,o+2,none⟩=some (.slice (some (zD r s)) 1 c1)/\w'.cell? ⟨B,o+3,none⟩=some (zA z.kind)/\w'.cell? ⟨B,o+4,none⟩=some (zA z.idx)/\w'.cell? ⟨B,o+5,none⟩=some (.slice a2 z.subs.length c2)/\w'.cell? (zD r s)=some (zA q.kind)/\w'.cell? ⟨r,s+1,none⟩=some (zA q.idx)/\w'.cell? ⟨r,s+2,none⟩=some (.slice a3 q.subs.length c3)):=λw' hb=>CS.o w' (a6.o.trans (hb.mono (by omega))) ((T1.o.below hb (by omega)).cell 2);have bq:=Aa (KP.o _ (Ac _ _));have br:Hid (∀w9 x0 x1 x2,Below w1.heap.size w1 w9->(λw'=>w'.cell? (zD w.heap.size 2)=some (.slice (some (zD B o)) 2 c)/\w'.cell? ⟨B,o+2,none⟩=some (.slice (some (zD r s)) 1 c1)/\w'.cell? ⟨B,o+3,none⟩=some (zA z.kind)/\w'.cell? ⟨B,o+4,none⟩=some (zA z.idx)/\w'.cell? ⟨B,o+5,none⟩=some (.slice a2 z.subs.length c2)/\w'.cell? (zD r s)=some (zA q.kind)/\w'.cell? ⟨r,s+1,none⟩=some (zA q.idx)/\w'.cell? ⟨r,s+2,none⟩=some (.slice a3 q.subs.length c3)) (((w9.setCell (zD (w.heap.size+1) 0) x0).setCell (zD (w.heap.size+1) 1) x1).setCell (zD (w.heap.size+1) 2) x2)):=λw9 x0 x1 x2 hb=>by
    have k:=KP.o w9 hb;have nB:B≠w.heap.size+1:=(by omega);have aP:r≠w.heap.size+1:=(by omega);have nT:w.heap.size≠w.heap.size+1:=(by omega);have kp:∀(b i:Nat) (v:Value),b≠w.heap.size+1->w9.cell? (zD b i)=some v->(((w9.setCell (zD (w.heap.size+1) 0) x0).setCell (zD (w.heap.size+1) 1) x1).setCell (zD (w.heap.size+1) 2) x2).cell? (zD b i)=some v:=λb i v hne h=>by
     refine Kz ?_ h;rw[Ak _ _ _ _ (by simpa using hne),Ak _ _ _ _ (by simpa using hne),Ak _ _ _ _ (by simpa using hne)]
    exact⟨kp _ _ _ nT k.1,kp _ _ _ nB k.2.1,kp _ _ _ nB k.2.2.1,kp _ _ _ nB k.2.2.2.1,kp _ _ _ nB k.2.2.2.2.1,kp _ _ _ aP k.2.2.2.2.2.1,kp _ _ _ aP k.2.2.2.2.2.2.1,kp _ _ _ aP k.2.2.2.2.2.2.2⟩
   go_region_held3 (λw'=>w'.cell? (zD w.heap.size 2)=some (.slice (some (zD B o)) 2 c)/\w'.cell? ⟨B,o+2,none⟩=some (.slice (some (zD r s)) 1 c1)/\w'.cell? ⟨B,o+3,none⟩=some (zA z.kind)/\w'.cell? ⟨B,o+4,none⟩=some (zA z.idx)/\w'.cell? ⟨B,o+5,none⟩=some (.slice a2 z.subs.length c2)/\w'.cell? (zD r s)=some (zA q.kind)/\w'.cell? ⟨r,s+1,none⟩=some (zA q.idx)/\w'.cell? ⟨r,s+2,none⟩=some (.slice a3 q.subs.length c3)) (first|exact bq.o|exact br.o _ _ _ _ k5|exact z5|go_keep)
    (first
     | (go_at_call 53; refine(BE.o _ (by exact a6.o.trans (((Ac w1.heap.size w1).drew).mono (by omega)))).mono ?_; rintro e w5 ⟨a5,c5,rfl,aq,F⟩; have k5:Below w1.heap.size w1 w5:=((Ac w1.heap.size w1).drew).trans F; have z5:=KP.o _ k5; have R5:=Aa (R1.o.below k5 (by omega)); have S5:=Aa aq; have K5:=Aa k5; have r0:w5.cell? (zD (w.heap.size+1) 0)=some (zA 0):=R5.o.cell 0; have r1:w5.cell? (zD (w.heap.size+1) 1)=some (zA 0):=R5.o.cell 1; have r2:w5.cell? (zD (w.heap.size+1) 2)=some (zB):=R5.o.cell 2; have rf:=R5.o.frozen; clear aq F))
   go_wp2_with fail;refine Ao (v:=.agg #[zA (AY z 0 q).kind,zA (AY z 0 q).idx,.slice a5 (AY z 0 q).subs.length c5]) (by simp[results,results31,go_sem,AL,AE,r0,r1,r2]) rfl ?_;have B5:=a6.o.trans (K5.o.mono (by omega));refine⟨a5,c5,rfl,(S5.o.kept λb hb=>?_).mono λb hb _=>?_,((B5.setCell (by simp) _).setCell (by simp) _).setCell (by simp) _⟩
   ·have a7:b≠w.heap.size+1:=by
     rcases hb with h|h
     ·have:=h.2; omega
     ·have h':w1.heap.size<=b:=h; omega
    rw[Ak _ _ _ _ (by simpa using a7),Ak _ _ _ _ (by simpa using a7),Ak _ _ _ _ (by simpa using a7)]
   ·rcases hb with h|h
    ·exact Ad h
    ·right;have h':w1.heap.size<=b:=h;omega
  |false=>
   rw[ax]at ah;have HH:Hid (Fx false ⟨f,j,l⟩=false):=Aa (by rw[HR.o,ax]);have HT:Hid (BG false (n+1) ⟨f,j,l⟩=⟨f,j,CD (BG false n) l⟩):=Aa (by rw[BG,Am (by rw[HH.o]; simp)]);have aQ:Hid (∀k (h:k<l.length),Eq (AR u f) l[k]/\Ai [l[k]]<=n/\EA [l[k]]):=λk h=>by
    have h1:=Z.subs (Bv h);have:=MD l k h;exact⟨h1,by omega,Oe _ _ _ h1.2.2.1.choose_spec.1⟩
   have hlen:l.length<=10000:=by have:=Jj l; have:=Z.2.2.2; omega
   clear aD aL aM Z ax bn hn;go_in;go_wp2_with fail;refine ah.o.mono ?_;rintro e w1 ⟨rfl,G⟩;have aO:((w.alloc (zp #[zA f,zA j,.slice a l.length c] 24)).alloc zi).heap.size=w.heap.size+2:=(by simp);have a6:=Aa (B2.o.trans (G.mono (by omega)));have T1:=Aa (T2.o.below G (by omega));have R1:=Aa (R2.o.below G (by omega));have bc:w.heap.size+2<=w1.heap.size:=by have:=G.size; omega
   have c0:=T1.o.c0;have c1:=T1.o.c1;clear G aO ah B2 T2 R2;go_wp2_with fail;clear c0 c1;have T3:=Aa (T1.o.alloc (zp #[zA f,zA j,zB] 24));have R3:=Aa (R1.o.alloc (zp #[zA f,zA j,zB] 24));have O3:=Aa (Ab.new w1 #[zA f,zA j,zB] 24);have B3:=Aa (a6.o.alloc a6.o.size (.cells #[zA f,zA j,zB] 24));clear a6 T1 R1;generalize w1.alloc (zp #[zA f,zA j,zB] 24)=w3 at *;obtain⟨O,eO⟩:∃O,O=w1.heap.size:=⟨_,rfl⟩;rw[<-eO]at O3;simp only[<-eO];have hO:w.heap.size+2<=O:=(by omega);clear eO bc;go_loopw [6,7] (λdn i wr=>∃(k:Nat) (u:Value),k<=l.length/\i=zA k/\dn=.bool (AN (l.take k))/\Fi w (λb=>X b/\b<w.heap.size) O f j a l.length c u (CD (BG false n) (l.take k)) wr) (λdn i wr=>l.length-(intOf i).toNat);case atStart=>exact⟨0,zB,Bp _,rfl,by simp[AN],[],by have h:=Cg.start w3 (O+1) 24 (λb=>X b/\b<w.heap.size); simpa [CD] using h,B3.o,T3.o,R3.o,O3.o,O3.o.lt⟩
   case round=>
    obtain⟨k,u9,hk,rfl,rfl,A⟩:=hrel;have aE:=Aa A;have aR:=A.top;have c2:=aR.c2;by_cases U:k<l.length
    ·have bs:(k:Int)<(l.length:Int):=(by omega);obtain⟨xs,aS,bd,_⟩:=A;have XE:=Aa bd;clear aS bd;obtain⟨b,o,D,c',rfl,d0,aT,d1,hx⟩:=(HS.o.mono (Y:=(λb=>X b/\b<w.heap.size)) λb h1 h2=>⟨h1,h2⟩).get XE.o (λb h _=>h.2) k U;have HX:=Aa hx;have aI:b<w.heap.size:=by
      obtain⟨_,h1⟩:=HS.o;rcases h1 with h1|⟨b',o',e',h1⟩
      ·rw[h1]at U; simp at U
      ·cases e'; exact Hi (Fe _ _ _ h1 k U).2.1
     have aJ:Hid ((CD (BG false n) (l.take k)).length<=1000000):=Aa (by rw[Of];simp;omega);have aU:=Aa (kX (BG false n) l k U);have aV:=Aa (MB l k U);have aF:Hid (C0 w.heap.size b (o+k*3) f j (some (zD b o)) l.length c l[k].kind l[k].idx (.slice D l[k].subs.length c') wr):=⟨aR,d0,aT,d1⟩;clear hx aR;cases ar:AN (l.take k) with
     |true=>
      have V:Hid (AN (l.take (k+1))=true):=Aa (by rw[aV.o,ar];rfl);have W:Hid (CD (BG false n) (l.take (k+1))=CD (BG false n) (l.take k)++[l[k]]):=Aa (by rw[aU.o,ar];simp);have au:=aE;have av:=aF;have C:=Aa au.o.row;have aW:Hid (Ap wr.drew (λb=>(X b/\b<w.heap.size)∨wr.heap.size<=b) D l[k].subs):=(by obtain⟨a9,c9,e9,h9⟩:=HX.o.later ((Ac wr.heap.size wr).drew);simp at e9;rw[<-e9.1]at h9;exact h9.mono λb h _=>Ad h);clear d0 aT d1 ar;go_wp2_with fail;clear c2;have aw:Hid (C0 w.heap.size b (o+k*3) f j (some (zD b o)) l.length c l[k].kind l[k].idx (.slice D l[k].subs.length c') wr.drew):=av.o;obtain⟨g,cap,aX,H,I,J,L,o3,of,M,A⟩:=FQ (c1:=c') (w1:=wr.drew) (t:=l[k]) hO (λb h=>h.2) aI au.o av.o aJ.o ((Ac _ _).drew) aW.o;have N:=Aa H;have P:=Aa A;have aC:=Aa I;have E:=Aa J;have R:=Aa L;have T:=Aa M;clear H A I J L M;refine Co (S:=C0 w.heap.size b (o+k*3) f j (some (zD b o)) l.length c l[k].kind l[k].idx (.slice D l[k].subs.length c')) (by kernel_rfl) aw.o λhH=>?_;refine tkz 0 ?_;refine tkz 2 ?_;refine tkz 3 ?_ (hy:=by intro w' x;have c2:w'.cell? (zD w.heap.size 2)=some (.slice (some (zD b o)) l.length c):=x.1.cell 2;go_simp<;>with_reducible rfl);refine tkz 4 ?_;refine tkz 5 ?_;refine tkz 6 ?_ (hy:=by intro w' x;have e0:=x.2.1;have e1:=x.2.2.1;have e2:=x.2.2.2;go_simp<;>with_reducible rfl);have bf:wr.drew.cell? (zD O 2)=some u9:=C.o.cell 2;refine Bw (rs:=[1,7]) (by kernel_rfl) (by simp) ?_;refine Ax rfl (λK d=>?_) (Ax rfl (λK d=>?_) Bx)
      ·go_simp;refine zo d (by exact aw.o) λhH=>?_;clear d K;refine rdq 7 rfl λK d=>?_;go_simp;refine zo d (by exact E.o) λhH=>?_;clear d K;refine rdq 8 rfl λK d=>?_;refine Bo rfl _ _ _ _ rfl rfl rfl N.o ?_;refine zo d (by exact R.o) λhH=>?_;clear d K;refine tkz 9 ?_;refine rdq 10 rfl λK d=>?_;go_simp;refine zo d (by exact T.o) λhH=>?_;clear d K;refine dnq ?_;go_wp2_with fail;go_roundw
       case rel=>exact⟨k+1,_,by omega,by go_num,by rw[V.o],by rw[W.o]; exact P.o⟩
       case measure=>simp[intOf]; omega
      ·go_simp;refine zo d (by exact E.o) λhH=>?_;clear d K;refine rdq 1 rfl λK d=>?_;have bg:=((Aa C.o).o.alloc (zm l[k] D c')).cell 2;have bt:(wr.drew.alloc (zm l[k] D c')).cell? (zD O 2)=some u9:=((Aa C.o).o.below (((Ac wr.heap.size wr).drew).alloc (Af _) _) C.o.lt).cell 2;go_simp;refine zo d (by exact E.o) λhH=>?_;clear d K;refine rdq 8 rfl λK d=>?_;refine Bo rfl _ _ _ _ rfl rfl rfl N.o ?_;refine zo d (by exact R.o) λhH=>?_;clear d K;refine tkz 9 ?_;refine rdq 10 rfl λK d=>?_;go_simp;refine zo d (by exact T.o) λhH=>?_;clear d K;refine dnq ?_;go_wp2_with fail;go_roundw
       case rel=>exact⟨k+1,_,by omega,by go_num,by rw[V.o],by rw[W.o]; exact P.o⟩
       case measure=>simp[intOf]; omega
     |false=>
      have bh:=Aa (Sv l[k] (.agg (zE l[k] D c')) wr _ HX.o (aQ.o k U).2.2);go_wp2_with fail;refine bh.o.mono ?_;rintro e m ⟨rfl,aG⟩;have au:=Aa (aE.o.later aG);have av:=Aa (aF.o.below aG);have C:=Aa au.o.row;have bj:=Aa aG;have b2:wr.heap.size<=m.heap.size:=aG.size;clear aG c2 d0 aT d1 bh;cases a8:AN [l[k]] with
      |true=>
       have V:Hid (AN (l.take (k+1))=true):=Aa (by rw[aV.o,a8];simp);have W:Hid (CD (BG false n) (l.take (k+1))=CD (BG false n) (l.take k)++[BG false n l[k]]):=Aa (by rw[aU.o,ar,a8];simp);have bk:Hid (Calls prog 31 #[.agg (zE l[k] D c'),.bool false] m.drew λe az=>∃a1 c1,e=.returned (.agg #[zA (BG false n l[k]).kind,zA (BG false n l[k]).idx,.slice a1 (BG false n l[k]).subs.length c1])/\Ap az (λb=>(X b/\b<w.heap.size)∨m.heap.size<=b) a1 (BG false n l[k]).subs/\Below m.heap.size m az):=(by refine(IH.o l[k] (AR u f) _ m.drew (λb=>X b/\b<w.heap.size) (aQ.o k U).2.1 (aQ.o k U).1 a8 ((HX.o.later bj.o).later ((Ac m.heap.size m).drew))).mono ?_;rintro e az ⟨a1,c1,h1,h2,h3⟩;exact⟨a1,c1,h1,h2.mono (λb hb _=>hb.imp (λh=>h.1) id),((Ac m.heap.size m).drew).trans h3⟩);clear ar a8;go_wp2_with fail;have aw:Hid (C0 w.heap.size b (o+k*3) f j (some (zD b o)) l.length c l[k].kind l[k].idx (.slice D l[k].subs.length c') m.drew):=av.o;refine Co (S:=C0 w.heap.size b (o+k*3) f j (some (zD b o)) l.length c l[k].kind l[k].idx (.slice D l[k].subs.length c')) (by kernel_rfl) aw.o λhH=>?_;refine tkz 0 ?_;refine tkz 2 ?_;refine tkz 3 ?_ (hy:=by intro w' x;have c2:w'.cell? (zD w.heap.size 2)=some (.slice (some (zD b o)) l.length c):=x.1.cell 2;go_simp<;>with_reducible rfl);refine tkz 4 ?_;refine tkz 5 ?_;refine tkz 6 ?_ (hy:=by intro w' x;have e0:=x.2.1;have e1:=x.2.2.1;have e2:=x.2.2.2;go_simp<;>with_reducible rfl);refine tkz 7 ?_;have bf:m.drew.cell? (zD O 2)=some u9:=C.o.cell 2;refine Bw (rs:=[1,8]) (by kernel_rfl) (by simp) ?_;refine Ax rfl (λK d=>?_) (Ax rfl (λK d=>?_) Bx)
       ·go_simp;refine zo d (by exact aw.o) λhH=>?_;clear d K;refine rdq 8 rfl λK d=>?_;go_simp;go_at_call 31;refine bk.o.mono ?_;rintro e w5 ⟨a5,c5,rfl,aq,F⟩;obtain⟨g,cap,aX,H,I,J,L,o3,of,M,A⟩:=FQ (c1:=c5) hO (λb h=>h.2) aI au.o av.o aJ.o F aq;have N:=Aa H;have P:=Aa A;have aC:=Aa I;have E:=Aa J;have R:=Aa L;have T:=Aa M;have bu:w5.cell? (zD O 2)=some u9:=(F.cell (p:=(zD O 2)) C.o.lt).trans (C.o.cell 2);have bl:=Aa F;clear H A I J L M aq F;go_simp;refine zo d (by exact aC.o) λhH=>?_;clear d K;refine rdq 9 rfl λK d=>?_;go_simp;refine zo d (by exact E.o) λhH=>?_;clear d K;refine rdq 10 rfl λK d=>?_;refine Bo rfl _ _ _ _ rfl rfl rfl N.o ?_;refine zo d (by exact R.o) λhH=>?_;clear d K;refine tkz 11 ?_;refine rdq 12 rfl λK d=>?_;go_simp;refine zo d (by exact T.o) λhH=>?_;clear d K;refine dnq ?_;go_wp2_with fail;go_roundw
        case rel=>exact⟨k+1,_,by omega,by go_num,by rw[V.o],by rw[W.o]; exact P.o⟩
        case measure=>simp[intOf]; omega
       ·go_simp;go_at_call 31;refine bk.o.mono ?_;rintro e w5 ⟨a5,c5,rfl,aq,F⟩;obtain⟨g,cap,aX,H,I,J,L,o3,of,M,A⟩:=FQ (c1:=c5) hO (λb h=>h.2) aI au.o av.o aJ.o F aq;have N:=Aa H;have P:=Aa A;have aC:=Aa I;have E:=Aa J;have R:=Aa L;have T:=Aa M;have bu:w5.cell? (zD O 2)=some u9:=(F.cell (p:=(zD O 2)) C.o.lt).trans (C.o.cell 2);have bl:=Aa F;clear H A I J L M aq F;go_simp;refine zo d (by exact aC.o) λhH=>?_;clear d K;refine Bw (rs:=[1,9]) (by kernel_rfl) (by simp) ?_;refine Ax rfl (λK d=>?_) (Ax rfl (λK d=>?_) Bx)
        ·go_simp;refine zo d (by exact aC.o) λhH=>?_;clear d K;refine rdq 9 rfl λK d=>?_;go_simp;refine zo d (by exact E.o) λhH=>?_;clear d K;refine rdq 10 rfl λK d=>?_;refine Bo rfl _ _ _ _ rfl rfl rfl N.o ?_;refine zo d (by exact R.o) λhH=>?_;clear d K;refine tkz 11 ?_;refine rdq 12 rfl λK d=>?_;go_simp;refine zo d (by exact T.o) λhH=>?_;clear d K;refine dnq ?_;go_wp2_with fail;go_roundw
         case rel=>exact⟨k+1,_,by omega,by go_num,by rw[V.o],by rw[W.o]; exact P.o⟩
         case measure=>simp[intOf]; omega
        ·go_simp;refine zo d (by exact E.o) λhH=>?_;clear d K;refine rdq 1 rfl λK d=>?_;have bg:=((Aa (C.o.below bl.o C.o.lt)).o.alloc (zp #[zA (BG false n l[k]).kind,zA (BG false n l[k]).idx,.slice a5 (BG false n l[k]).subs.length c5] 24)).cell 2;go_simp;refine zo d (by exact E.o) λhH=>?_;clear d K;refine rdq 10 rfl λK d=>?_;refine Bo rfl _ _ _ _ rfl rfl rfl N.o ?_;refine zo d (by exact R.o) λhH=>?_;clear d K;refine tkz 11 ?_;refine rdq 12 rfl λK d=>?_;go_simp;refine zo d (by exact T.o) λhH=>?_;clear d K;refine dnq ?_;go_wp2_with fail;go_roundw
         case rel=>exact⟨k+1,_,by omega,by go_num,by rw[V.o],by rw[W.o]; exact P.o⟩
         case measure=>simp[intOf]; omega
      |false=>
       have V:Hid (AN (l.take (k+1))=false):=Aa (by rw[aV.o,ar,a8];rfl);have W:Hid (CD (BG false n) (l.take (k+1))=CD (BG false n) (l.take k)++[l[k]]):=Aa (by rw[aU.o,ar,a8];simp);have aW:Hid (Ap m.drew (λb=>(X b/\b<w.heap.size)∨m.heap.size<=b) D l[k].subs):=(by obtain⟨a9,c9,e9,h9⟩:=(HX.o.later bj.o).later ((Ac m.heap.size m).drew);simp at e9;rw[<-e9.1]at h9;exact h9.mono λb h _=>Ad h);have c2:m.cell? (zD w.heap.size 2)=some (.slice (some (zD b o)) l.length c):=au.o.top.cell 2;clear ar a8;go_wp2_with fail;clear c2;have aw:Hid (C0 w.heap.size b (o+k*3) f j (some (zD b o)) l.length c l[k].kind l[k].idx (.slice D l[k].subs.length c') m.drew):=av.o;obtain⟨g,cap,aX,H,I,J,L,o3,of,M,A⟩:=FQ (c1:=c') (w1:=m.drew) (t:=l[k]) hO (λb h=>h.2) aI au.o av.o aJ.o ((Ac _ _).drew) aW.o;have N:=Aa H;have P:=Aa A;have aC:=Aa I;have E:=Aa J;have R:=Aa L;have T:=Aa M;clear H A I J L M;refine Co (S:=C0 w.heap.size b (o+k*3) f j (some (zD b o)) l.length c l[k].kind l[k].idx (.slice D l[k].subs.length c')) (by kernel_rfl) aw.o λhH=>?_;refine tkz 0 ?_;refine tkz 2 ?_;refine tkz 3 ?_ (hy:=by intro w' x;have c2:w'.cell? (zD w.heap.size 2)=some (.slice (some (zD b o)) l.length c):=x.1.cell 2;go_simp<;>with_reducible rfl);refine tkz 4 ?_;refine tkz 5 ?_;refine tkz 6 ?_ (hy:=by intro w' x;have e0:=x.2.1;have e1:=x.2.2.1;have e2:=x.2.2.2;go_simp<;>with_reducible rfl);have bf:m.drew.cell? (zD O 2)=some u9:=C.o.cell 2;refine Bw (rs:=[1,7]) (by kernel_rfl) (by simp) ?_;refine Ax rfl (λK d=>?_) (Ax rfl (λK d=>?_) Bx)
       ·go_simp;refine zo d (by exact aw.o) λhH=>?_;clear d K;refine rdq 7 rfl λK d=>?_;go_simp;refine zo d (by exact E.o) λhH=>?_;clear d K;refine rdq 8 rfl λK d=>?_;refine Bo rfl _ _ _ _ rfl rfl rfl N.o ?_;refine zo d (by exact R.o) λhH=>?_;clear d K;refine tkz 9 ?_;refine rdq 10 rfl λK d=>?_;go_simp;refine zo d (by exact T.o) λhH=>?_;clear d K;refine dnq ?_;go_wp2_with fail;go_roundw
        case rel=>exact⟨k+1,_,by omega,by go_num,by rw[V.o],by rw[W.o]; exact P.o⟩
        case measure=>simp[intOf]; omega
       ·go_simp;refine zo d (by exact E.o) λhH=>?_;clear d K;refine rdq 1 rfl λK d=>?_;have bg:=((Aa C.o).o.alloc (zm l[k] D c')).cell 2;have bt:(m.drew.alloc (zm l[k] D c')).cell? (zD O 2)=some u9:=((Aa C.o).o.below (((Ac m.heap.size m).drew).alloc (Af _) _) C.o.lt).cell 2;go_simp;refine zo d (by exact E.o) λhH=>?_;clear d K;refine rdq 8 rfl λK d=>?_;refine Bo rfl _ _ _ _ rfl rfl rfl N.o ?_;refine zo d (by exact R.o) λhH=>?_;clear d K;refine tkz 9 ?_;refine rdq 10 rfl λK d=>?_;go_simp;refine zo d (by exact T.o) λhH=>?_;clear d K;refine dnq ?_;go_wp2_with fail;go_roundw
        case rel=>exact⟨k+1,_,by omega,by go_num,by rw[V.o],by rw[W.o]; exact P.o⟩
        case measure=>simp[intOf]; omega
    ·have b3:¬((k:Int)<(l.length:Int)):=(by omega);have bw:l.take k=l:=Bz (by omega);obtain⟨xs,XW,XE,hT,XR,aK,b4⟩:=A;rw[bw]at XW;obtain⟨ae,ce,rfl,bm⟩:=XW.sl;have bx:=Aa bm;have bz:=Aa XE;have o0:=aK.c0;have s:=aK.c1;have o2:=aK.c2;have r0:=XR.c0;have r1:=XR.c1;have r2:=XR.c2;have rf:=XR.frozen;have b0:w.heap.size+1<wr.heap.size:=XR.lt;clear bm XW XE hT XR aK;go_wp2_with fail;refine Ao (v:=.agg #[zA f,zA j,.slice ae (CD (BG false n) l).length ce]) (by simp[results,results31,go_sem,AL,AE,r0,r1,r2,b0]) rfl ?_;rw[HT.o];refine⟨ae,ce,rfl,(bx.o.kept λb hb=>?_).mono λb hb _=>?_,((bz.o.setCell (by simp) _).setCell (by simp) _).setCell (by simp) _⟩
     ·have a7:b≠w.heap.size+1:=by
       rcases hb with h|h
       ·have:=h.2; omega
       ·omega
      rw[Ak _ _ _ _ (by simpa using a7),Ak _ _ _ _ (by simpa using a7),Ak _ _ _ _ (by simpa using a7)]
     ·rcases hb with h|h
      ·exact Ad h
      ·right; omega
