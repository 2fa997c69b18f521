import Derived.Test.YthaililgaompeaaGreatDoorW184
import Derived.Test.YthaililgaompeaaGreatDoorOv8
import Derived.ProofKit
namespace Go.Proofs.YthaililgaompeaaGreatDoor
set_option linter.all false
set_option maxRecDepth 20000
set_option maxHeartbeats 8000000
open Go.RowKit Go.Proofs.Tryz
variable {w w' w1 w3:World} {B N T c cap g i k m:Nat} {xs:List Value} {t:Tm} {a:Option Addr} {rs:List Pr} {p:Pr} {nm:ByteArray} {acc:List Tm} {v0 v1:Value}
def Gm (rs:List Pr) (l:List Tm):Int:=if Bl rs=0 then Dt l else Bl rs
theorem Wl (rs:List Pr) (l:List Tm) (u:Value) (a:Option Addr) (c:Nat) (w:World) (X:Nat->Prop) (hu:QV w X u rs) (hs:Sl w X a l):
  Calls prog 25 #[u,.slice a l.length c] w λe w'=>e=.returned (zA (Gm rs l))/\Below w.heap.size w w':=by
 have d:=Aa hu;have f:=Aa hs;obtain⟨ua,uc,rfl,_⟩:=hu;clear hs;go_enter func25,ntmps25;go_wp2_with fail;refine(V7 rs _ _ X d.o).mono ?_;rintro e w1 ⟨rfl,ab⟩;have aa:=Aa ab;clear ab;by_cases h0:Bl rs=0
 ·have b:Hid (Gm rs l=Dt l):=Ao h0;rw[h0];clear h0;go_wp2_with fail;refine(V4 l a c _ X (f.o.later aa.o)).mono ?_;rintro e w2 ⟨rfl,hb2⟩;have g:=Aa (aa.o.trans (hb2.mono aa.o.size));clear hb2;go_wp2_with fail;go_ret;exact⟨Cj b.o.symm,g.o⟩
 ·have b:Hid (Gm rs l=Bl rs):=Ah h0;have h1:(Bl rs==0)=false:=by simpa using h0
  have h2:(Bl rs !=0)=true:=by simpa using h0
  go_wp2_with fail;go_ret;exact⟨Cj b.o.symm,aa.o⟩
theorem oD {n:Nat} {u1 u2:Value} (h:w3.ownsRow N T 2 (.slice (some (zD g 0)) n cap) n xs) (hk:k<n):
  ((w3.setCell ⟨g,k*2,none⟩ u1).setCell ⟨g,k*2+1,none⟩ u2).ownsRow N T 2 (.slice (some (zD g 0)) n cap) n ((xs.set (k*2) u1).set (k*2+1) u2):=by
 obtain⟨a,h1⟩:=h;rcases h1 with ⟨h1,_⟩|⟨g',aa,cur,hv,b,c,ab,d,hcs,e⟩
 ·cases h1
 ·simp at hv;obtain⟨rfl,rfl⟩:=hv;refine⟨by simpa using a,Ad ⟨g,cap,(cur.setIfInBounds (k*2) u1).setIfInBounds (k*2+1) u2,rfl,b,?_,ab,d,by simpa using hcs,?_⟩⟩
  ·simp[World.setCell,Jq,c]
  ·rw[NX,NX,KH,KH,e]
def Fi (rs:List Pr) (t:Tm):Int:=if Bl rs=0 then (if Av t=0 then (if ∃y∈Cl rs t,2000<Ab [y] then 8 else 0) else Av t) else Bl rs
theorem Qr (hb:Ac w B (zF t a c) T) (h:Sl w (λ_=>True) a t.args):Sl w (λ_=>True) (some (zD B 0)) [t]:=by
 obtain⟨s,l⟩:=t;refine⟨by simp,Ad ⟨B,0,rfl,?_⟩⟩;simp only[C4];exact⟨trivial,hb.cell 0,⟨a,c,hb.cell 1,h.1,h.2⟩,trivial⟩
theorem NF (t:Tm):Dt [t]=Av t:=by
 simp only[Dt];split<;>simp_all
def Wm (rs:List Pr) (t:Tm) (w:World) (e:Ending) (w':World):Prop:=
 Below w.heap.size w w'/\((Fi rs t=0/\∃v xs,e=.returned (.tuple #[v,zA 0])/\w'.ownsRow w.heap.size 31 2 v (Cl rs t).length xs/\BK w' (λ_=>True) (Cl rs t) xs)∨(Fi rs t≠0/\e=.returned (.tuple #[zB,zA (Fi rs t)])))
def oE (outs:List Tm) (w w0:World) (v o:Value) (wr:World):Prop:=
 ∃(k:Nat) (xs:List Value),k<=outs.length/\o=zA k/\wr.ownsRow w.heap.size 31 2 v outs.length xs/\BK wr (λb=>v.ownBlock≠some b) outs xs/\Below w.heap.size w wr
theorem oF (rs:List Pr) (t:Tm) (u:Value) (aa:Option Addr) (ca:Nat) (w:World) (X:Nat->Prop) (hu:QV w X u rs) (hs:Sl w X aa t.args):
  Calls prog 14 #[u,.agg (zF t aa ca)] w λe w'=>Wm rs t w e w':=by
 have R:=Aa hu;have T:=Aa hs;obtain⟨ua,uc,rfl,_⟩:=hu;clear hs;have BP:Below w.heap.size w ((w.alloc (ze t aa ca)).alloc (ze t aa ca)):=EJ _ _;have F:Ac ((w.alloc (ze t aa ca)).alloc (ze t aa ca)) w.heap.size (zF t aa ca) 31:=(Ac.new w _ _).alloc _;have U:Ac ((w.alloc (ze t aa ca)).alloc (ze t aa ca)) (w.heap.size+1) (zF t aa ca) 31:=(by have h:=Ac.new (w.alloc (ze t aa ca)) (zF t aa ca) 31;rw[Cp]at h;exact h);go_enter func14,ntmps14;go_wp2_with fail;generalize ((w.alloc (ze t aa ca)).alloc (ze t aa ca))=W at *;refine(Wl rs [t] _ _ 1 W (λ_=>True) ((R.o.later BP).mono λ_ _ _=>trivial) (Qr U ((T.o.later BP).mono λ_ _ _=>trivial))).mono ?_;rintro e w1 ⟨rfl,G⟩;have V:Gm rs [t]=if Bl rs=0 then Av t else Bl rs:=by unfold Gm; rw[NF]
 rw[V];clear V;have f:=Aa (BP.trans (G.mono BP.size));have Z:=Aa (F.below G F.lt);clear G BP F U;by_cases h0:(if Bl rs=0 then Av t else Bl rs)=0
 ·rw[h0];have d:Bl rs=0:=by
   apply EX;intro h;rw[Ah h]at h0;exact h h0
  have hm:Av t=0:=by rw[Ao d] at h0; exact h0
  have HE:Hid (Fi rs t=if ∃y∈Cl rs t,2000<Ab [y] then 8 else 0):=Aa (by unfold Fi;rw[Ao d,Ao hm]);have A:=Aa d;have hz:=Lg hm;have aC:=Rl d;have t0:=Z.o.c0;have t1:=Z.o.c1;clear h0 d hm;go_wp2_with fail;refine(ZQ rs t _ aa ca w1 X (R.o.later f.o) (T.o.later f.o) (by omega) (by omega)).mono ?_;rintro e w2 ⟨hb2,⟨ay,v,xs,rfl,ho,m⟩|⟨az,rfl⟩⟩
  ·have H:=Aa (((SJ A.o).1).1 ay);rw[Pd A.o]at ho m;have I:=Aa (f.o.trans (hb2.mono f.o.size));have J:=Aa (Lf ho f.o.size);have a1:Hid (BK w2 (λb=>v.ownBlock≠some b) (Cl rs t) xs):=m.imp λa l h=>h.mono λb hb _=>by
    rcases hb with h|h
    ·exact λe=>by have:=(ho.lt b e).1; omega
    ·exact h.2
   have j:Hid (Fi rs t=0):=Aa (by rw[HE.o,Ah];rintro⟨y,hy,h⟩;have:=H.o y hy;omega);clear hb2 ho m ay;have aD:(Cl rs t).length<=1000000:=(by rw[<-Pd A.o,EZ];have h1:=SC rs t [];have h2:Ab [t]*rs.length<=400*40:=Nat.mul_le_mul hz aC;omega);obtain⟨outs,L⟩:∃outs,Cl rs t=outs:=⟨_,rfl⟩;have ah:=Aa L;rw[L]at J a1 H aD;clear L;obtain⟨va,r,hv⟩:=Fs J.o;subst hv;go_wp2_with fail;go_loopw [29] (λo wr=>oE outs w w2 (.slice va outs.length r) o wr) (λo wr=>outs.length-(intOf o).toNat);case atStart=>exact⟨0,xs,Be _,rfl,J.o,a1.o,I.o⟩
   case round=>
    obtain⟨k,M,hk,rfl,ho,m,hb⟩:=hrel;have s:=Aa ho;have N:=Aa m;have a6:=Aa hb;have aE:=hb.size;clear ho m hb;by_cases B:k<outs.length
    ·obtain⟨g,cap,e1,a7,C,ab⟩:=G0 s.o (by omega);simp at e1;obtain⟨rfl,rfl⟩:=e1;obtain⟨x0,D,E,x1,a8⟩:=N.o.get k B;have d0:wr.cell? ⟨g,k*2,none⟩=some (.string outs[k].name):=ab _ _ x0;have d1:wr.cell? ⟨g,k*2+1,none⟩=some (.slice D outs[k].args.length E):=ab _ _ x1;have aF:(k:Int)<(outs.length:Int):=(by omega);have aG:=Aa a8;have aH:=Aa (H.o _ (AM B));clear a8 ab x0 x1;go_wp2_with fail;have O:Below wr.heap.size wr (wr.alloc (ze outs[k] D E)):=(Ag _ _).alloc (Al _) _;refine(OH outs[k] _ _ (λb=>(Value.slice (some (zD g 0)) outs.length r).ownBlock≠some b) ⟨D,E,rfl,aG.o.later O⟩ (by have:=aH.o; omega)).mono ?_;rintro e n ⟨v',rfl,⟨a5,c5,rfl,aA⟩,aB⟩;have q:Below wr.heap.size wr n:=O.trans (aB.mono (by simp));have P:=Aa q;have aI:=Aa aA;have f0:n.cell? ⟨g,k*2,none⟩=some (.string outs[k].name):=(q.cell (p:=⟨g,k*2,none⟩) C).trans d0;have f1:n.cell? ⟨g,k*2+1,none⟩=some (.slice D outs[k].args.length E):=(q.cell (p:=⟨g,k*2+1,none⟩) C).trans d1;have ff:∀i,n.frozen? (zD g i)=false:=λi=>by
      rcases s.o.2 with ⟨h1,_⟩|⟨g',aJ,cur,h1,_,hh,_⟩
      ·cases h1
      ·simp at h1;obtain⟨rfl,rfl⟩:=h1;simp[World.frozen?,q.block g C,hh]
     have aL:g<n.heap.size:=B7 C q.size;clear d0 d1 aA aB q O;go_wp2_with fail;go_roundw
     case rel=>
      refine⟨k+1,(M.set (k*2) (.string outs[k].name)).set (k*2+1) (.slice a5 outs[k].args.length c5),by omega,by go_num,oD (Dc s.o λb hb=>P.o.block b (s.o.lt b hb).2) B,?_,((a6.o.trans (P.o.mono aE)).setCell (by simpa using a7) _).setCell (by simpa using a7) _⟩;have h1:BK ((n.setCell ⟨g,k*2,none⟩ (.string outs[k].name)).setCell ⟨g,k*2+1,none⟩ (.slice a5 outs[k].args.length c5)) (λb=>(Value.slice (some (zD g 0)) outs.length r).ownBlock≠some b) outs M:=N.o.imp λa l h=>(h.later P.o).kept λb hb=>by
       have x:b≠g:=λe=>hb (by rw[e]; rfl);rw[An _ _ _ _ (by simpa using x),An _ _ _ _ (by simpa using x)]
      have h2:=BK.put (y:=outs[k]) (a:=a5) (c:=c5) ((aI.o.mono (Y:=λb=>(Value.slice (some (zD g 0)) outs.length r).ownBlock≠some b) λb hb _ e=>by
       simp[Value.ownBlock]at e;simp at hb;omega).kept λb hb=>by
       have x:b≠g:=λe=>hb (by rw[e]; rfl);rw[An _ _ _ _ (by simpa using x),An _ _ _ _ (by simpa using x)]) k h1 B
      rwa [List.set_getElem_self] at h2
     case measure=>simp[intOf]; omega
    ·have aM:¬((k:Int)<(outs.length:Int)):=(by omega);go_wp2_with fail;refine Aq (v:=.tuple #[.slice va outs.length r,zA 0]) (by simp[results,results14,go_sem]) rfl ?_;exact⟨a6.o,Ae ⟨j.o,_,M,rfl,by rw[ah.o]; exact s.o,by rw[ah.o]; exact N.o.imp λa l h=>h.mono λ_ _ _=>trivial⟩⟩
  ·have j:Hid (Fi rs t=8):=Aa (by rw[HE.o,Ao (((SJ A.o).2).1 az)]);have I:=Aa (f.o.trans (hb2.mono f.o.size));clear hb2 az;go_wp2_with fail;refine Aq (v:=.tuple #[zB,zA 8]) (by simp[results,results14,go_sem]) rfl ?_;exact⟨I.o,Ad ⟨by rw[j.o]; decide,by rw[j.o]⟩⟩
 ·have j:Hid (Fi rs t=(if Bl rs=0 then Av t else Bl rs)):=by
   unfold Hid Fi;by_cases d:Bl rs=0
   ·rw[Ao d,Ao d]at *;rw[Ah h0]
   ·rw[Ah d,Ah d]
  have HN:Hid (Fi rs t≠0):=Aa (by rw[j.o];exact h0);rw[<-j.o]at h0 ⊢;obtain⟨z,hz⟩:∃z,Fi rs t=z:=⟨_,rfl⟩;have aK:=Aa hz;rw[hz]at h0 ⊢;clear hz;have h1:(z==0)=false:=by simpa using h0
  have h2:(z !=0)=true:=by simpa using h0
  clear j;go_wp2_with fail;refine Aq (v:=.tuple #[zB,zA z]) (by simp[results,results14,go_sem]) rfl ?_;exact⟨f.o,Ad ⟨HN.o,by rw[aK.o]⟩⟩
open Go.RowKit Go.Shelf
def NG (r:Int×Tm×Nat) (w:World) (e:Ending) (w':World):Prop:=
 Below w.heap.size w w'/\∃(x:Tm) (a:Option Addr) (c n:Nat) (er:Int),e=.returned (.tuple #[.agg (zF x a c),zA n,zA er])/\r=(er,x,n)/\Sl w' (λb=>w.heap.size<=b) a x.args
theorem oG {d':Nat} {x:Tm} (h:GA rs (λa=>a) m 0 t x d'):AL rs true m t=(0,x,d'):=by
 obtain⟨_,_,h3,_,b⟩:=h;have c:=I5 (rs:=rs) (inner:=true) (m:=m-d') ((JY rs true x).2 h3);simp only[Nat.sub_zero] at b;rw[b,c];simp[DW]
theorem Qs (rs:List Pr) (N:∀p∈rs,Br p=0) (t:Tm) (m:Nat) (u:Value) (a:Option Addr) (c:Nat) (w:World) (E:Nat->Prop) (O:QV w E u rs) (P:Sl w E a t.args) (hz:Ab [t]<=2000) (hm:m<=400):
  Calls prog 23 #[u,.agg (zF t a c),zA m] w λe w'=>NG (AL rs true m t) w e w':=by
 obtain⟨X,R,hu,hs⟩:∃X:Nat->Prop,(∀b,X b->b<w.heap.size)/\QV w X u rs/\Sl w X a t.args:=⟨λb=>E b/\b<w.heap.size,λ_ h=>h.2,O.mono λb h1 h2=>⟨h1,h2⟩,P.mono λb h1 h2=>⟨h1,h2⟩⟩;have aD:=Aa R;have HU:=Aa hu;have T:=Aa hs;have HR:=Aa N;obtain⟨ua,uc,rfl,_,_⟩:=hu;clear R hs O P N;have U:Hid (∃W,W=(w.alloc (ze t a c)).alloc zc/\Below w.heap.size w W/\W.heap.size=w.heap.size+2/\Ac W w.heap.size (zF t a c) 31/\Ac W (w.heap.size+1) zd 31):=by
  obtain⟨h1,h2,h3⟩:=Fe [(.cells (zF t a c) 31:Obj),(.cells zd 31:Obj)] w;exact⟨_,rfl,h1,h2,h3 0 _ rfl,h3 1 _ rfl⟩
 go_enter func23,ntmps23;go_wp2_with fail;obtain⟨w0,V,Y,Z,ar,au⟩:=U.o;rw[<-V];have F:=Aa Y;have av:=Aa ar;have aw:=Aa au;have aE:=Aa Z;clear V U Y Z ar au;refine(Is 2000 (by omega) (by omega) t _ w0 X ⟨a,c,rfl,T.o.later F.o⟩).mono ?_;rintro e w1 ⟨rfl,aa⟩;have em:min (Ab [t]:Int) (2000+1)=Ab [t]:=by omega
 rw[em];clear em;have ay:=Aa (F.o.trans (aa.mono F.o.size));have T1:=Aa (av.o.below aa av.o.lt);have R1:=Aa (aw.o.below aa aw.o.lt);have aM:w.heap.size+2<=w1.heap.size:=by have:=aa.size; have:=aE.o; omega
 clear aa;have az:Hid (Below w1.heap.size w1 (w1.alloc (zh #[.slice ua rs.length uc,zA m,zA 0,zA (Ab [t]:Int)] 67))):=(Ag _ _).alloc (Al _) _;have a1:Hid (Ac (w1.alloc (zh #[.slice ua rs.length uc,zA m,zA 0,zA (Ab [t]:Int)] 67)) w1.heap.size #[.slice ua rs.length uc,zA m,zA 0,zA (Ab [t]:Int)] 67):=Ac.new w1 _ _;have t0:∀o,(w1.alloc o).cell? (zD w.heap.size 0)=some (.string t.name):=λo=>(T1.o.alloc o).cell 0;have t1:∀o,(w1.alloc o).cell? (zD w.heap.size 1)=some (.slice a t.args.length c):=λo=>(T1.o.alloc o).cell 1;go_wp2_with fail;clear t0 t1;generalize (w1.alloc (zh #[.slice ua rs.length uc,zA m,zA 0,zA (Ab [t]:Int)] 67))=W at *;have G:=Aa (ay.o.trans (az.o.mono ay.o.size));have aN:w1.heap.size+1<=W.heap.size:=a1.o.lt;have y:gT [] t=t:=ZT t;refine(nZ rs HR.o ua uc w1.heap.size m hm m (λz=>z) 0 0 t [] none a c W X (Gc.id rs) (by omega) (by omega) (HU.o.later G.o) (T.o.later G.o) (Ae ⟨rfl,rfl⟩) (λd hd=>by simp at hd) (λb hb=>by have:=aD.o b hb; omega) (by rw[y]; omega) hz (by rw[y]; exact a1.o)).mono ?_;rw[y];clear y;rintro e w2 ⟨l,x,f,g,H,rfl,I,hcs⟩;have a6:=Aa I;have aO:=l.size;have ab:Hid (Below w.heap.size w w2):=G.o.trans (l.below (B:=w.heap.size) (by omega) (λb hb=>by omega));have j:=Aa ((R1.o.below az.o R1.o.lt).exq l (by omega));have J:Hid (Below w2.heap.size w2 (w2.alloc (ze x f g))):=(Ag _ _).alloc (Al _) _;rcases hcs with ⟨rfl,d',A,hI⟩|⟨h0,aF,a7⟩
 ·have aG:=Aa (oG A);have aP:d'<=400:=by have:=A.2.1; omega
  have HI:=Aa hI;have a8:Hid (Ab [x]<=2000):=A.2.2.2.1;clear I l A hI;have aQ:Ab [x]<=2000:=a8.o;clear a8;go_upto_region 5 with fail;have aH:=Aa (a6.o.later J.o);have n:Hid (Ac (w2.alloc (ze x f g)) w2.heap.size (zF x f g) 31):=Ac.new w2 _ _;have L:=Aa (HI.o.alloc (ze x f g));have KR:=Aa (j.o.alloc (ze x f g));have aA:=Aa (ab.o.trans (J.o.mono ab.o.size));generalize (w2.alloc (ze x f g))=w3 at *;clear J HI j a6;have q:Hid (Below w3.heap.size w3 w3.drew):=below_drewN (Ag _ _) 1;refine D9 (S:=λw'=>Ac w' w2.heap.size (zF x f g) 31/\w'.cell? (zD w1.heap.size 2)=some (zA d')) (by kernel_rfl) ⟨n.o.below q.o n.o.lt,L.o.cell 2⟩ λhH=>?_;refine tkz 0 ?_ (hy:=by intro w' C;have b0:w'.cell? (zD w2.heap.size 0)=some (.string x.name):=C.1.cell 0;have b1:w'.cell? (zD w2.heap.size 1)=some (.slice f x.args.length g):=C.1.cell 1;go_simp<;>with_reducible rfl);refine tkz 2 ?_;refine tkz 3 ?_ (hy:=by intro w' C;have i2:w'.cell? (zD w1.heap.size 2)=some (zA d'):=C.2;go_simp<;>with_reducible rfl);generalize w3.drew=wd at *;have aR:w.heap.size+2<=wd.heap.size:=by have:=q.o.size; have:=n.o.lt; omega
  refine rdq 1 rfl λK r=>?_;go_simp;go_at_call 27;refine(OH x _ wd _ ⟨f,g,rfl,aH.o.later q.o⟩ (by omega)).mono ?_;rintro e k ⟨v4,rfl,⟨a4,i,rfl,aB⟩,aC⟩;have aI:=Aa aB;have s:=Aa (q.o.trans (aC.mono q.o.size));clear aB aC;have K4:=Aa (n.o.below s.o n.o.lt);have J4:=Aa (L.o.below s.o L.o.lt);have R4:=Aa (KR.o.below s.o KR.o.lt);have aJ:=Aa (aA.o.trans (s.o.mono aA.o.size));have aS:=s.o.size;go_simp;refine r.o _ _ (by exact⟨K4.o,J4.o.cell 2⟩) λhH=>?_;clear r K;(try simp only[Act.put,sq]);have r0:=R4.o.c0;have r1:=R4.o.c1;have rf:=R4.o.frozen;have rl:=R4.o.lt;have D:Hid (Ac ((k.setCell (zD (w.heap.size+1) 0) (.string x.name)).setCell (zD (w.heap.size+1) 1) (.slice a4 x.args.length i)) w2.heap.size (zF x f g) 31):=(K4.o.setOther _ _ (by omega)).setOther _ _ (by omega);have aK:Hid (Ac ((k.setCell (zD (w.heap.size+1) 0) (.string x.name)).setCell (zD (w.heap.size+1) 1) (.slice a4 x.args.length i)) w1.heap.size _ 67):=(J4.o.setOther _ _ (by omega)).setOther _ _ (by omega);have RF:Hid (Ac ((k.setCell (zD (w.heap.size+1) 0) (.string x.name)).setCell (zD (w.heap.size+1) 1) (.slice a4 x.args.length i)) (w.heap.size+1) (zF x a4 i) 31):=(R4.o.set 0 _).set 1 _;have M:Hid (Below w.heap.size w ((k.setCell (zD (w.heap.size+1) 0) (.string x.name)).setCell (zD (w.heap.size+1) 1) (.slice a4 x.args.length i))):=(aJ.o.setCell (by simp) _).setCell (by simp) _;have SF:Hid (Sl ((k.setCell (zD (w.heap.size+1) 0) (.string x.name)).setCell (zD (w.heap.size+1) 1) (.slice a4 x.args.length i)) (λb=>w.heap.size<=b) a4 x.args):=(aI.o.kept λb hb=>by rw[An _ _ _ _ (by simp; omega),An _ _ _ _ (by simp; omega)]).mono λb hb _=>by omega
  refine rdq 4 rfl λK r=>?_;go_simp;refine r.o _ _ (by exact⟨D.o,aK.o.cell 2⟩) λhH=>?_;clear r K;(try simp only[Act.put,sq]);refine tkz 5 ?_;refine tkz 6 ?_;refine dnq ?_;generalize ((k.setCell (zD (w.heap.size+1) 0) (.string x.name)).setCell (zD (w.heap.size+1) 1) (.slice a4 x.args.length i))=wf at *;clear r0 r1 rf rl;have f0:=RF.o.c0;have f1:=RF.o.c1;go_wp2_with fail;refine Aq (v:=.tuple #[.agg (zF x a4 i),zA d',zA 0]) (by simp[results,results23,go_sem,f0,f1]) rfl ?_;exact⟨M.o,x,a4,i,d',0,rfl,aG.o,SF.o⟩
 ·have aL:=Aa a7;have hne:¬(H=0):=by rcases h0 with h|h<;>omega
  subst aF;clear I l a7 h0;have r0:=j.o.c0;have r1:=j.o.c1;have rf:=j.o.frozen;have rl:=j.o.lt;go_wp2_with fail;have D:Ac (((w2.setCell (zD (w.heap.size+1) 0) (.string ⟨#[]⟩)).setCell (zD (w.heap.size+1) 1) zB).alloc (zh #[.string ⟨#[]⟩,.slice f 0 g] 31)) (w.heap.size+1) zd 31:=((j.o.set 0 _).set 1 _).alloc _;have M:Hid (Below w.heap.size w (((w2.setCell (zD (w.heap.size+1) 0) (.string ⟨#[]⟩)).setCell (zD (w.heap.size+1) 1) zB).alloc (zh #[.string ⟨#[]⟩,.slice f 0 g] 31))):=((ab.o.setCell (by simp) _).setCell (by simp) _).alloc (by have:=ab.o.size; simp[World.setCell]; omega) _;generalize (((w2.setCell (zD (w.heap.size+1) 0) (.string ⟨#[]⟩)).setCell (zD (w.heap.size+1) 1) zB).alloc (zh #[.string ⟨#[]⟩,.slice f 0 g] 31))=wf at *;have f0:=D.c0;have f1:=D.c1;refine Aq (v:=.tuple #[.agg zd,zA 0,zA H]) (by simp[results,results23,go_sem,f0,f1]) rfl ?_;refine⟨M.o,⟨⟨#[]⟩,[]⟩,none,0,0,H,rfl,?_,⟨by simp,Ae rfl⟩⟩;have h:=aL.o;simpa using h
def C3 (rs:List Pr) (m:Nat) (a b:Tm):Bool×Int:=if (AL rs true m a).1≠0 then (false,(AL rs true m a).1) else if (AL rs true m b).1≠0 then (false,(AL rs true m b).1) else (AP (AL rs true m a).2.1 (AL rs true m b).2.1,0)
theorem Wn (rs:List Pr) (s:∀p∈rs,Br p=0) (t t2:Tm) (m:Nat) (u:Value) (a a2:Option Addr) (c c2:Nat) (w:World) (X:Nat->Prop) (hu:QV w X u rs) (hs:Sl w X a t.args) (z:Sl w X a2 t2.args) (hz:Ab [t]<=2000) (U:Ab [t2]<=2000) (hm:m<=400):
  Calls prog 19 #[u,.agg (zF t a c),.agg (zF t2 a2 c2),zA m] w λe w'=>e=.returned (.tuple #[.bool (C3 rs m t t2).1,zA (C3 rs m t t2).2])/\Below w.heap.size w w':=by
 have A:=Aa hu;have V:=Aa hs;have Y:=Aa z;have B:=Aa s;obtain⟨ua,uc,rfl,_,_⟩:=hu;clear hs z s;have C:Hid (∃W,W=(w.alloc (ze t a c)).alloc (ze t2 a2 c2)/\Below w.heap.size w W/\Ac W (w.heap.size+1) (zF t2 a2 c2) 31):=(by obtain⟨h1,h2,h3⟩:=Fe [(.cells (zF t a c) 31:Obj),(.cells (zF t2 a2 c2) 31:Obj)] w;exact⟨_,rfl,h1,h3 1 _ rfl⟩);go_enter func19,ntmps19;go_wp2_with fail;obtain⟨Z,D,E,F⟩:=C.o;rw[<-D];have f:=Aa E;have G:=Aa F;clear D C E F;refine(Qs rs B.o t m _ a c Z X (A.o.later f.o) (V.o.later f.o) hz hm).mono ?_;rintro e w1 ⟨j,x,b,d,n1,k,rfl,H,a1⟩;have l:=Aa H;have aE:=Aa a1;have g:=Aa (f.o.trans (j.mono f.o.size));have I:=Aa (G.o.below j G.o.lt);clear H a1 j;by_cases h0:k=0
 ·subst h0;have J:Hid (Below w1.heap.size w1 (w1.alloc (ze x b d))):=(Ag _ _).alloc (Al _) _;have L:Hid (Ac (w1.alloc (ze x b d)) w1.heap.size (zF x b d) 31):=Ac.new w1 _ _;have t0:∀o,(w1.alloc o).cell? (zD (w.heap.size+1) 0)=some (.string t2.name):=λo=>(I.o.alloc o).cell 0;have t1:∀o,(w1.alloc o).cell? (zD (w.heap.size+1) 1)=some (.slice a2 t2.args.length c2):=λo=>(I.o.alloc o).cell 1;go_wp2_with fail;clear t0 t1;have h:=Aa (g.o.trans (J.o.mono g.o.size));have aj:=Aa (aE.o.later J.o);generalize (w1.alloc (ze x b d))=w2 at *;refine(Qs rs B.o t2 m _ a2 c2 w2 X (A.o.later h.o) (Y.o.later h.o) U hm).mono ?_;rintro e w3 ⟨i,y,M,N,n2,n,rfl,O,P⟩;have R:=Aa O;have aF:=Aa P;have aa:=Aa (h.o.trans (i.mono h.o.size));have q:=Aa (L.o.below i L.o.lt);have an:=Aa (aj.o.later i);clear O P i;by_cases h1:n=0
  ·subst h1;have ab:Hid (C3 rs m t t2=(AP x y,0)):=Aa (by unfold C3;rw[l.o,R.o];simp);have r:Hid (Below w3.heap.size w3 (w3.alloc (ze y M N))):=(Ag _ _).alloc (Al _) _;have x0:∀o,(w3.alloc o).cell? (zD w1.heap.size 0)=some (.string x.name):=λo=>(q.o.alloc o).cell 0;have x1:∀o,(w3.alloc o).cell? (zD w1.heap.size 1)=some (.slice b x.args.length d):=λo=>(q.o.alloc o).cell 1;have aH:w1.heap.size<w3.heap.size:=q.o.lt;go_wp2_with fail;refine(Sg x y _ _ _ _ _ ⟨b,d,rfl,an.o.later r.o⟩ ⟨M,N,rfl,aF.o.later r.o⟩).mono ?_;rintro e w5 ⟨rfl,T⟩;have aG:=Aa ((aa.o.trans (r.o.mono aa.o.size)).trans (T.mono (by have:=aa.o.size; simp; omega)));clear T x0 x1;go_wp2_with fail;refine Aq (v:=.tuple #[.bool (AP x y),zA 0]) (by simp[results,results19,go_sem]) rfl ?_;exact⟨by rw[ab.o],aG.o⟩
  ·have ab:Hid (C3 rs m t t2=(false,n)):=Aa (by unfold C3;rw[l.o,R.o];simp[h1]);go_wp2_with fail;refine Aq (v:=.tuple #[.bool false,zA n]) (by simp[results,results19,go_sem]) rfl ?_;exact⟨by rw[ab.o],aa.o.alloc aa.o.size _⟩
 ·have ab:Hid (C3 rs m t t2=(false,k)):=Aa (by unfold C3;rw[l.o];simp[h0]);go_wp2_with fail;refine Aq (v:=.tuple #[.bool false,zA k]) (by simp[results,results19,go_sem]) rfl ?_;exact⟨by rw[ab.o],g.o.alloc g.o.size _⟩
theorem oH (K:ByteArray->ByteArray) (l:List Tm):∀(ns:List ByteArray),Ab (AQ K ns l).1<=Ab l:=by
 induction l using Tm.indL with
 |h0=>intro ns; rw[AQ]; exact Al _
 |h s l r ab aa=>
  intro ns;have e:Ab ((⟨s,l⟩:Tm)::r)=1+Ab l+Ab r:=by simp[Ab]
  rw[e,AQ];split
  ·have h:=aa (CY ns (K s));simp[Ab];omega
  ·have h1:=ab ns;have h2:=aa (AQ K ns l).2;simp[Ab];omega
theorem NH (K:ByteArray->ByteArray) (t:Tm) (ns:List ByteArray):Ab [(AW K ns t).1]<=Ab [t]:=by
 have h:=oH K [t] ns;rw[G7,Fu]at h;exact h
def LQ (p:Pr):Prop:=Ab [p.l]<=2000/\Ab [p.r]<=2000
theorem oI {U:List Pr->Int×List Bd} {q:Rn×Rn} (h:¬GL U q):∀p∈FQ U q,LQ p:=by
 intro p hp;obtain⟨d,hd,he⟩:=Mc.1 hp;unfold He at he;split at he
 ·cases he
 ·rename_i hs;have e:Df (Dm U (AZ q.1.1 q.2.1) d)=p:=IP he;subst e;have a:¬FL U (AZ q.1.1 q.2.1) (decide (q.1.2=q.2.2)) d:=λb=>h ⟨d,hd,b⟩;have h1:¬2000<Ab [(Dm U (AZ q.1.1 q.2.1) d).l]:=λg=>a ⟨by simpa using hs,Ad (Ae g)⟩;have h2:¬2000<Ab [(Dm U (AZ q.1.1 q.2.1) d).r]:=λg=>a ⟨by simpa using hs,Ad (Ad g)⟩;have g1:=NH id (Dm U (AZ q.1.1 q.2.1) d).l [];have g2:=NH id (Dm U (AZ q.1.1 q.2.1) d).r (AW id [] (Dm U (AZ q.1.1 q.2.1) d).l).2;refine⟨?_,?_⟩
  ·unfold Df BW; simp only; omega
  ·unfold Df BW; simp only; omega
theorem Wo (U:List Pr->Int×List Bd):∀(l:List (Rn×Rn)) (out:List Pr),(∀p∈out,LQ p)->∀p∈(C2 U l out).2,LQ p
 | [],out,h=>by rw[C2]; exact h
 |q::r,out,h=>by
  rw[C2];split
  ·simp
  ·rename_i hb;split
   ·simp
   ·exact Wo U r _ (λp hp=>by
     rcases Ba.1 hp with e|e
     ·exact h p e
     ·exact oI hb p e)
theorem oJ (U:List Pr->Int×List Bd) (rs:List Pr):∀p∈(CD U rs).2,LQ p:=Wo U _ _ (by simp)
def DY (rs:List Pr) (m:Nat):List Pr->Bool×Int
 | []=>(true,0)
 |p::r=>if (C3 rs m p.l p.r).1=true/\(C3 rs m p.l p.r).2=0 then DY rs m r else (false,(C3 rs m p.l p.r).2)
noncomputable def Ep (U:List Pr->Int×List Bd) (rs:List Pr) (k:Int):Bool×Int:=
 if Bl rs=0 then (if (CD U rs).1=0 then (if 0<=k/\k<=400 then DY rs k.toNat (CD U rs).2 else (false,10)) else (false,(CD U rs).1)) else (false,Bl rs)
theorem Wp {U:List Pr->Int×List Bd}:∀(l:List (Rn×Rn)) (out:List Pr),(C2 U l out).1=0->(∀w∈out,w∈(C2 U l out).2)/\∀q∈l,¬GL U q/\∀w∈FQ U q,w∈(C2 U l out).2
 | [],out,h=>by rw[NA]; exact⟨λw hw=>hw,λq hq=>by cases hq⟩
 |q::r,out,h=>by
  by_cases hb:GL U q
  ·rw[Qd hb]at h; cases h
  ·by_cases hm:400<(out++FQ U q).length
   ·rw[Qe hb hm]at h; cases h
   ·rw[NC hb hm]at h ⊢;obtain⟨h1,h2⟩:=Wp r _ h;refine⟨λw hw=>h1 w (GX _ hw),λp hp=>?_⟩;rcases Bh.1 hp with rfl|hp
    ·exact⟨hb,λw hw=>h1 w (N5 _ hw)⟩
    ·exact h2 p hp
theorem oK {α:Type} {Z:List α} {a b:α} (ha:a∈Z) (hb:b∈Z):(a,b)∈DK Z 0 0:=by
 cases Z with
 |nil=>cases ha
 |cons z Z=>
  unfold DK;simp only[Ei,Jy,Ma,DA];rcases Bh.1 ha with rfl|ha
  ·exact GX _ (Bk.2 ⟨b,hb,rfl⟩)
  ·exact N5 _ (IM.2 ⟨a,ha,Bk.2 ⟨b,hb,rfl⟩⟩)
theorem Wq (h:p∈rs):∃i,(p,i)∈rs.zipIdx:=by
 obtain⟨i,hi,rfl⟩:=Hi h;exact⟨i,by rw[<-Qf rs i hi]; exact AM _⟩
theorem oL {q:Pr} (hp:(p,i)∈rs.zipIdx) (hq:(q,i)∈rs.zipIdx):p=q:=by
 have h1:=List.mem_zipIdx_iff_getElem?.1 hp;have h2:=List.mem_zipIdx_iff_getElem?.1 hq;simp only at h1 h2;rw[h1]at h2;exact IP h2
theorem oM {U:List Pr->Int×List Bd} (b:Ks U) (a:∀p∈rs,Br p=0) (h0:(CD U rs).1=0) (hj:∀w∈(CD U rs).2,DX (AR rs) w.l w.r):Kn rs:=by
 intro p hp q hq π u f g h1 h2 h3;obtain⟨i,hi⟩:=Wq hp;obtain⟨j,aa⟩:=Wq hq;obtain⟨hb,hw⟩:=(Wp _ _ h0).2 ((p,i),(q,j)) (oK hi aa);refine mS b (a p hp) (a q hq) (same:=decide (i=j)) (λhs=>?_) hb (λw ab=>hj w (hw w ab)) h1 h2 h3;have e:i=j:=by simpa using hs
 subst e;exact oL hi aa
theorem Wr {rs:List Pr} {m:Nat}:∀ {l:List Pr},DY rs m l=(true,0)->∀p∈l,C3 rs m p.l p.r=(true,0)
 | [],_,p,hp=>by cases hp
 |q::r,h,p,hp=>by
  rw[DY]at h;split at h
  ·rename_i hc;rcases Bh.1 hp with rfl|hp
   ·exact Prod.ext hc.1 hc.2
   ·exact Wr h p hp
  ·have:=Cb Prod.fst h;cases this
theorem oN (c:∀p∈rs,Br p=0) {a b:Tm} (ha:Af [a]=0) (hb:Af [b]=0) (h:C3 rs m a b=(true,0)):DX (AR rs) a b:=by
 unfold C3 at h;split at h
 ·cases h
 ·rename_i h1;split at h
  ·cases h
  ·rename_i h2;have h3:AP (AL rs true m a).2.1 (AL rs true m b).2.1=true:=(by simpa using h);rw[Cr]at h3;exact lR c ha hb (by simpa using h1) (by simpa using h2) h3
theorem oO {U:List Pr->Int×List Bd} (c:Ks U) (a:∀p∈rs,Br p=0) (h0:(CD U rs).1=0) (b:∀w∈(CD U rs).2,Af [w.l]=0/\Af [w.r]=0) (h:DY rs m (CD U rs).2=(true,0)):Kn rs:=
 oM c a h0 λw hw=>oN a (b w hw).1 (b w hw).2 (Wr h w hw)
theorem oP {rs:List Pr} {row:List ByteArray} {U:List Pr->Int×List Bd} {m:Nat} (e:Ks U) (c:∀p∈rs,Br p=0) (hd:∀p∈rs,AC row p.l p.r=true) (h0:(CD U rs).1=0) (f:∀w∈(CD U rs).2,Af [w.l]=0/\Af [w.r]=0) (h:DY rs m (CD U rs).2=(true,0))
  {t a b x y:Tm} {i j:Bool} {k l k' l':Nat} (ht:Af [t]=0) (ha:a=t∨a∈Cl rs t) (hb:b=t∨b∈Cl rs t) (hx:AL rs i k a=(0,x,k')) (hy:AL rs j l b=(0,y,l')):x=y:=by
 have key:∀ {a:Tm},(a=t∨a∈Cl rs t)->Af [a]=0/\Cc (AR rs) t a:=by
  intro a h;rcases h with rfl|h
  ·exact⟨ht,.refl _⟩
  ·exact⟨VB c ht h,.one (VA c ht h)⟩
 obtain⟨a1,a2⟩:=key ha;obtain⟨d,g⟩:=key hb;exact lS c hd (oO e c h0 f h) (a2.trans (Nw c k a x k' a1 hx)) (g.trans (Nw c l b y l' d hy)) (Td c k a x k' a1 hx).2.1 (Td c l b y l' d hy).2.1
theorem Ws {M:Nat} {Y:Nat->Prop} {v f:Value} {cs aa:List Pc} (h:Di w N Y v cs) (o:N<=w.heap.size) (q:∀b,Y b->b<N) (h':Di w M (λ_=>False) f aa) (al:N<=M) (i:∀b,v.ownBlock=some b->b<M) (hn:cs.length+aa.length<=1000000000):
  ∃v2 w3,(Builtin.append_ #[23,23] 23 #[v,f]).run prog w=.ok v2 w3/\Di w3 N Y v2 (cs++aa)/\w.grownBy w3 v.ownBlock:=by
 obtain⟨i0,hi,r,l,s⟩:=DO Tryz.infoPair;by_cases h0:0<aa.length
 ·obtain⟨g',ab,rfl,an,ai,hc⟩:=G0 h'.own h0;have hlt:=h.own.lt;obtain⟨g,cap,w3,t,ho,d,m,ao⟩:=run_append_lies (P:=prog) (w:=w) 23 23 N 34 i0 _ 4 80 underlying23 hi r l s rfl (by decide) v cs.length (C0 cs) h.own
   (zD g' 0) aa.length ab (C0 aa) (Ug aa) (λj u hj=>by have:=hc j u hj; by_cases n:j=0; subst n; simpa [Addr.add] using this; simpa [Addr.add,n] using this) (Uq aa) h0 (by unfold maxLen; omega) (by omega) o _ rfl
  refine⟨_,w3,t,⟨by rw[Pz]; simpa using ho,λy hy=>?_⟩,d⟩;rcases Ba.1 hy with hy|hy
  ·have old:∀(a:Option Addr) (k:List Tm),Sl w (λb=>Y b∨(N<=b/\some b≠v.ownBlock)) a k->Sl w3 (λb=>Y b∨(N<=b/\some b≠(Value.slice (some (zD g 0)) (cs.length+aa.length) cap).ownBlock)) a k:=λa k h0=>by
    have h1:Sl w (λb=>(Y b∨(N<=b/\some b≠v.ownBlock))/\b<w.heap.size) a k:=h0.mono λb h1 h2=>⟨h1,h2⟩;refine(h1.kept λb hx=>d.block b hx.2 ?_).mono λb hx _=>?_
    ·rcases hx.1 with hy|hy
     ·exact h.ne (q b hy)
     ·exact hy.2
    ·rcases hx.1 with hy|hy
     ·exact Ae hy
     ·refine Ad ⟨hy.1,λe=>?_⟩;simp[Value.ownBlock]at e;rcases m with e'|e'
      ·exact hy.2 (by rw[e',e])
      ·omega
   exact⟨old _ _ (h.row y hy).1,old _ _ (h.row y hy).2⟩
  ·have new:∀(a:Option Addr) (k:List Tm),Sl w (λb=>False∨(M<=b/\some b≠(Value.slice (some (zD g' 0)) aa.length ab).ownBlock)) a k->Sl w3 (λb=>Y b∨(N<=b/\some b≠(Value.slice (some (zD g 0)) (cs.length+aa.length) cap).ownBlock)) a k:=λa k h0=>by
    have h1:Sl w (λb=>M<=b/\b<w.heap.size) a k:=h0.mono λb h1 h2=>⟨(h1.resolve_left id).1,h2⟩;refine(h1.kept λb hx=>d.block b hx.2 (λe=>?_)).mono λb hx _=>Ad ⟨by omega,λe=>?_⟩
    ·have:=i b e.symm; omega
    ·simp[Value.ownBlock]at e;rcases m with e'|e'
     ·have:=i g e'; omega
     ·omega
   exact⟨new _ _ (h'.row y hy).1,new _ _ (h'.row y hy).2⟩
 ·have e:aa=[]:=Fj.1 (by omega);subst e;obtain⟨a,c,x⟩:=Fs h'.own;obtain⟨z,vc,hv,A,_⟩:=h.qv;refine⟨v,w,?_,by simpa using h,⟨rfl,rfl,rfl,Al _,λ_ _ _=>rfl⟩⟩;subst hv x;have hle:=A.2;simp only[EZ] at hle;cases z<;>cases a<;>simp[Builtin.append_,Fl underlying23,sizeOf,typeInfo,hi,l,Builtin.lenOf,Builtin.firstCells,hle,Result.andThen,storeCells,loadCells,loadCellsFrom]
def NI (w:World) (r:Rd) (e:Ending) (w':World):Prop:=
 Below w.heap.size w w'/\∃(n:ByteArray) (a:Option Addr) (l c:Nat) (y z:Int),e=.returned (.tuple #[.agg #[.string n,.slice a l c],zA y,zA z,zA r.err])/\(r.err=0->n=r.t.name/\l=r.t.args.length/\y=r.pos/\z=r.k/\Sl w' (λb=>w.heap.size<=b) a r.t.args)
theorem Hh {r:Rd} {z x y:Int} {n:ByteArray} {l:Nat} (h:r=BO z) (hz:z≠0) (hb:Below w.heap.size w w'):NI w r (.returned (.tuple #[.agg #[.string n,.slice a l c],zA x,zA y,zA z])) w':=by
 subst h;exact⟨hb,n,a,l,c,x,y,rfl,λh=>absurd h hz⟩
theorem Wt {r:Rd} {p:Nat} {args:List Tm} (h:r=⟨0,⟨nm,args⟩,p,k⟩) (hs:Sl w' (λb=>w.heap.size<=b) a args) (hb:Below w.heap.size w w'):NI w r (.returned (.tuple #[.agg #[.string nm,.slice a args.length c],zA p,zA k,zA 0])) w':=by
 subst h;exact⟨hb,nm,a,args.length,c,p,k,rfl,λ_=>⟨rfl,rfl,rfl,rfl,hs⟩⟩
def oQ (w:World) (T F:Nat) (s nm:ByteArray) (r:Rd) (v1 v2:Value) (wr:World):Prop:=
 ∃(f':Nat) (acc:List Tm) (j k':Nat) (u:Value) (xs:List Value),v1=zA j/\v2=zA k'/\f'+1<F/\2*(s.size-j)+1<=f'/\j<s.size/\acc.length<=j/\k'<=200/\r=rd s (f'+1) (some (nm,acc)) j k'/\A1 wr (T+1) 31 (λ_=>False) u acc xs/\Below w.heap.size w wr/\Ac wr w.heap.size zd 31/\Ac wr T #[.string nm,u] 31/\T<wr.heap.size
theorem NJ {wr:World} {a:Nat} {u:Value} {c:Obj} {s':ByteArray} {a1:Option Addr} {c1:Nat} {j:Array Value} (ai:w.heap.size<T) (aj:T<wr.heap.size)
  (aa:A1 wr (T+1) a (λ_=>False) u acc xs) (hx:Below w.heap.size w wr) (n:Ac wr w.heap.size j a) (o:Ac wr T #[.string nm,u] a)
  (ab:Below wr.heap.size wr w1) (ht:TV w1 (λb=>wr.heap.size<=b) (.agg #[.string s',.slice a1 i c1]) t)
  (q:w3.ownsRow (T+1) a 2 (.slice (some (zD g 0)) (acc.length+1) cap) (acc.length+1) (xs++[.string s',.slice a1 i c1])) (f:(w1.alloc c).grownBy w3 u.ownBlock) (r:u.ownBlock=some g∨g=(w1.alloc c).heap.size):
  let d:=w3.setCell (zD T 1) (.slice (some (zD g 0)) (acc.length+1) cap)
  A1 d (T+1) a (λ_=>False) (.slice (some (zD g 0)) (acc.length+1) cap) (acc++[t]) (xs++[.string s',.slice a1 i c1])/\Below w.heap.size w d/\Ac d w.heap.size j a/\Ac d T #[.string nm,.slice (some (zD g 0)) (acc.length+1) cap] a/\T<d.heap.size:=by
 intro d;have l:=aa.own.lt;have hp:=aa.push (w1:=w1) (w2:=w1.alloc c) (w3:=w3) (by omega) (λ_ h=>h.elim) ab (ht.mono λb h _=>Ad h) c rfl q f r;have m:∀b,b<T+1->some b≠u.ownBlock:=λb hb e=>by have:=(l b e.symm).1; omega
 have ak:=ab.size;have al:=hx.size;have s:Below w.heap.size w w3:=((hx.trans (ab.mono (by omega))).alloc (by omega) c).grown f (by simp; omega) (λk hk=>by have:=(l k hk).1; omega);have v:=f.size;simp at v;refine⟨hp.setCell (by omega) (λh=>h) _,s.setCell (p:=(zD T 1)) (by simp; omega) _,?_,?_,by simp[d,World.setCell]; omega⟩
 ·exact(((n.below ab (by omega)).alloc c).grown f (m _ (by omega))).setOther _ _ (by omega)
 ·exact(((o.below ab (by omega)).alloc c).grown f (m _ (by omega))).set 1 _
theorem oR (a:World) (A:Obj) (v0 v1:Value) (T:Nat):∀j u,[v0,v1][j]? = some u->((a.alloc A).alloc (zh #[v0,v1] T)).cell? (((zD (a.heap.size+1) 0):Addr).add j)=some u:=by
 have h:=cell_two_new (a.alloc A) v0 v1 T;have e:(a.alloc A).heap.size=a.heap.size+1:=by simp
 rw[e]at h;exact h
theorem oS {d:World} {r:Rd} {f p:Nat} (h:r=⟨0,⟨nm,acc++[t]⟩,p+1,k⟩) (g:w.heap.size<T) (i:A1 d (T+1) f (λ_=>False) (.slice a (acc.length+1) c) (acc++[t]) xs) (hb:Below w.heap.size w d):
  NI w r (.returned (.tuple #[.agg #[.string nm,.slice a (acc.length+1) c],zA ((p:Int)+1),zA k,zA 0])) ((d.setCell (zD w.heap.size 0) v0).setCell (zD w.heap.size 1) v1):=by
 obtain⟨a',c',e,hs⟩:=i.sl;simp at e;obtain⟨rfl,rfl⟩:=e;subst h;exact⟨(hb.setCell (by simp) _).setCell (by simp) _,nm,a,acc.length+1,c,(p:Int)+1,k,rfl,λ_=>⟨rfl,by simp,rfl,rfl,kO (hs.mono λb hb _=>hb.elim False.elim id) g⟩⟩
theorem oT (s:ByteArray) (hs:s.size<=4000):∀(F i k:Nat) (w:World),i<=s.size->k<=200->2*(s.size-i)+1<=F->
  Calls prog 28 #[.string s,zA i,zA k] w λe w'=>NI w (rd s F none i k) e w':=by
 intro F;induction F using Nat.strongRecOn with
 |ind F ih=>
  intro i k w hi hk hF;have IH:=Aa ih;clear ih;obtain⟨f,rfl⟩:∃f,F=f+1:=⟨F-1,by omega⟩;obtain⟨i0,aG,aH,aI,aJ⟩:=DO Tryz.infoTerm;have G:Hid (rd s (f+1) none i k=if CG s i=i then BO (if i=s.size then 13 else 12)
   else if AF (s.extract i (CG s i))=false then BO 1
   else if 200<k+1 then BO 3
   else if CG s i<s.size/\Cq s (CG s i)=40 then
    if Aj (s.extract i (CG s i))=true then BO 2 else rd s f (some (s.extract i (CG s i),[])) (CG s i) (k+1)
   else ⟨0,⟨s.extract i (CG s i),[]⟩,CG s i,k+1⟩):=by unfold Hid; rw[rd]
  generalize rd s (f+1) none i k=r at *;go_enter func28,ntmps28;go_wp2_with fail;have B:=Aa (Ac.new w zd 31);have L:=Aa ((Ag w.heap.size w).alloc (Al _) zc);generalize w.alloc zc=w0 at *;have aX:w.heap.size<w0.heap.size:=B.o.lt;go_loopw [1] (λv wr=>∃j:Nat,v=zA j/\i<=j/\j<=s.size/\CG s i=CG s j/\wr=w0) (λv wr=>s.size-(intOf v).toNat);case atStart=>exact⟨i,rfl,Al _,hi,rfl,rfl⟩
  case round=>
   obtain⟨j,rfl,bw,bx,aY,rfl⟩:=hrel;have HS:=Aa aY;clear aY;by_cases Y:j<s.size
   ·have hb:=Aa (Iq Y);cases ha:DQ (Cq s j) with
    |true=>
     have Z:=Aa ha;clear ha;go_wp2_with (go_at_call 42; refine(KN _ _).mono ?_; rintro e wz ⟨rfl,rfl⟩; rw[hb.o,Z.o]);go_roundw
     case rel=>exact⟨j+1,by go_num,by omega,by omega,by rw[HS.o,Yg Y Z.o],by trivial⟩
     case measure=>simp[intOf]; omega
    |false=>
     have Z:=Aa ha;have C:Hid (CG s i=j):=HS.o.trans (Rp (λh=>by have h1:=h.2; rw[Z.o] at h1; cases h1));clear ha;by_cases D:j=i
     ·have c:=Aa D;have hne:((j:Int)==(i:Int))=true:=(by simp[D]);have aK:((j:Int)==(s.size:Int))=false:=by simp; omega
      clear D;have d:=B.o.c0;have l:=B.o.c1;have rf:=B.o.frozen;go_wp2_with (go_at_call 42; refine(KN _ _).mono ?_; rintro e wz ⟨rfl,rfl⟩; rw[hb.o,Z.o]);refine Aq (v:=.tuple #[.agg zd,zA j,zA k,zA 12]) (by simp[results,results28,go_sem,Az,Aw,d,l]) rfl ?_;exact Hh (by rw[G.o,C.o,Ao c.o,Ah (by have:=c.o; omega)]) (by decide) ((L.o.setCell (by simp) _).setCell (by simp) _)
     ·have c:=Aa D;have hne:((j:Int)==(i:Int))=false:=by simp; omega
      have aQ:(i:Int)<=(j:Int):=(by omega);have aZ:(j:Int)<=(s.size:Int):=(by omega);clear D;go_wp2_with (go_at_call 42; refine(KN _ _).mono ?_; rintro e wz ⟨rfl,rfl⟩; rw[hb.o,Z.o]);refine(QQ _ _).mono ?_;rintro e w9 ⟨rfl,rfl⟩;have M:=Aa (B.o.alloc (zh #[.string (s.extract i j),zB] 31));have R:=Aa (Ac.new wz #[.string (s.extract i j),zB] 31);have H:=Aa (L.o.alloc L.o.size (.cells #[.string (s.extract i j),zB] 31));have a6:=aX;generalize wz.alloc (zh #[.string (s.extract i j),zB] 31)=w1 at *;clear B L;generalize wz.heap.size=T at *;generalize al:s.extract i j=nm at *;have I:=Aa al;clear al;have t0:=R.o.c0;have t1:=R.o.c1;have d:=M.o.c0;have l:=M.o.c1;have rf:=M.o.frozen;cases J:AF nm with
      |false=>have E:=Aa J;clear J;go_wp2_with fail;refine Aq (v:=.tuple #[.agg #[.string nm,zB],zA j,zA k,zA 1]) (by simp[results,results28,go_sem,Az,Aw,d,l]) rfl ?_;exact Hh (by rw[G.o,C.o,Ah c.o,I.o,Ao E.o]) (by decide) ((H.o.setCell (by simp) _).setCell (by simp) _)
      |true=>
       have E:Hid (¬AF nm=false):=Aa (by rw[J];simp);clear J;by_cases h3:200<k+1
       ·go_wp2_with fail;refine Aq (v:=.tuple #[.agg #[.string nm,zB],zA j,zA ((k:Int)+1),zA 3]) (by simp[results,results28,go_sem,Az,Aw,d,l]) rfl ?_;exact Hh (by rw[G.o,C.o,Ah c.o,I.o,Ah E.o,Ao h3]) (by decide) ((H.o.setCell (by simp) _).setCell (by simp) _)
       ·have aK:((j:Int)==(s.size:Int))=false:=by simp; omega
        by_cases h4:Cq s j=40
        ·have hc:((s[j].toNat:Int) !=40)=false:=by rw[hb.o,h4]; rfl
         go_wp2_with fail;refine(Xw _ _).mono ?_;rintro e w9 ⟨rfl,rfl⟩;cases hv:Aj nm with
         |true=>have HV:=Aa hv;clear hv;go_wp2_with fail;refine Aq (v:=.tuple #[.agg #[.string nm,zB],zA j,zA ((k:Int)+1),zA 2]) (by simp[results,results28,go_sem,Az,Aw,d,l]) rfl ?_;exact Hh (by rw[G.o,C.o,Ah c.o,I.o,Ah E.o,Ah h3,Ao ⟨Y,h4⟩,Ao HV.o]) (by decide) ((H.o.setCell (by simp) _).setCell (by simp) _)
         |false=>
          have HV:Hid (¬Aj nm=true):=Aa (by rw[hv];simp);have bf:Hid (r=rd s f (some (nm,[])) j (k+1)):=Aa (by rw[G.o,C.o,Ah c.o,I.o,Ah E.o,Ah h3,Ao ⟨Y,h4⟩,Ah HV.o]);clear hv;go_wp2_with fail;have bg:i<j:=by have:=c.o; omega
          obtain⟨f0,rfl⟩:∃f0,f=f0+1:=⟨f-1,by omega⟩;have bh:=Aa R.o.lt;clear t0 t1 d l rf hc aK hne;go_loopw [1,2] (λv1 v2 wr=>oQ w T (f0+1+1) s nm r v1 v2 wr) (λv1 v2 wr=>s.size-(intOf v1).toNat);case atStart=>exact⟨f0,[],j,k+1,zB,[],rfl,by go_num,by omega,by omega,Y,by simp,by omega,bf.o,A1.start _ _ _ _,H.o,M.o,R.o,bh.o⟩
          case round=>
           obtain⟨a,acc,m,k2,u,xs,rfl,rfl,bz,b0,aZ,b1,ba,hr,aw,bb,hR,hT,aF⟩:=hrel;have bj:=Aa (IH.o a (by omega) (m+1) k2);have HQ:Hid (r=if (rd s a none (m+1) k2).err≠0 then BO (rd s a none (m+1) k2).err
  else if (rd s a none (m+1) k2).pos=s.size then BO 13
  else if Cq s (rd s a none (m+1) k2).pos=41 then ⟨0,⟨nm,acc++[(rd s a none (m+1) k2).t]⟩,(rd s a none (m+1) k2).pos+1,(rd s a none (m+1) k2).k⟩
  else if Cq s (rd s a none (m+1) k2).pos=44 then rd s a (some (nm,acc++[(rd s a none (m+1) k2).t])) (rd s a none (m+1) k2).pos (rd s a none (m+1) k2).k
  else BO 12):=by unfold Hid; rw[hr,rd]
           have aR:=Aa (Rq s a none (m+1) k2);have bk:=Aa (kN s a none (m+1) k2);generalize rd s a none (m+1) k2=q at *;obtain⟨ua,uc,hu,_⟩:=aw.sl;subst hu;have U:=Aa bb;have XR:=Aa hR;have XT:=Aa hT;have A:=Aa aw;clear bb hR hT aw hr;go_wp2_with fail;refine(bj.o _ (by omega) ba (by omega)).mono ?_;intro e n hp;obtain⟨a7,n5,a5,l5,c5,y5,z5,rfl,ax⟩:=hp;have B5:=Aa a7;have bl:w.heap.size<wr.heap.size:=by have:=U.o.size; omega
           have bm:T<n.heap.size:=by have:=a7.size; omega
           have aS:w.heap.size<n.heap.size:=(by omega);have BE:=Aa (U.o.trans (a7.mono U.o.size));have R5:=Aa (XR.o.below a7 bl);have T5:=Aa (XT.o.below a7 aF);clear a7;have t0:∀o,(n.alloc o).cell? (zD T 0)=some (.string nm):=λo=>(T5.o.alloc o).cell 0;have t1:∀o,(n.alloc o).cell? (zD T 1)=some (.slice ua acc.length uc):=λo=>(T5.o.alloc o).cell 1;have d:=R5.o.c0;have l:=R5.o.c1;have rf:=R5.o.frozen;have b2:∀o,(n.alloc o).cell? (zD w.heap.size 0)=some (.string ⟨#[]⟩):=λo=>(R5.o.alloc o).cell 0;have b3:∀o,(n.alloc o).cell? (zD w.heap.size 1)=some (zB):=λo=>(R5.o.alloc o).cell 1;have b4:=λo=>(R5.o.alloc o).frozen;by_cases hq:q.err=0
           ·have V:=Aa hq;have aT:=Aa (aR.o hq (by omega) (λh=>by cases h));have bn:=Aa (bk.o hq ba);obtain⟨rfl,rfl,rfl,rfl,bc⟩:=ax hq;have S5:=Aa bc;rw[hq];clear hq ax bc;have aq:=Aa (((A.o.below B5.o).own.alloc (ze q.t a5 c5)).alloc (ze q.t a5 c5));have ar:=Aa (oR n (ze q.t a5 c5) (.string q.t.name) (.slice a5 q.t.args.length c5) 31);have aL:Hid (∀x∈[Value.string q.t.name,Value.slice a5 q.t.args.length c5],x.oneCell'=true):=λx hx=>by simp at hx; rcases hx with rfl|rfl<;>rfl
            have N:Hid (acc.length+1<=maxLen/\(acc.length+1)*40<=140737488355328):=⟨by unfold maxLen; omega,by omega⟩;have aM:Hid (T+1<=((n.alloc (ze q.t a5 c5)).alloc (ze q.t a5 c5)).heap.size):=Aa (by simp;omega);have aN:=Aa (B5.o.alloc B5.o.size (ze q.t a5 c5));have aO:Hid (TV (n.alloc (ze q.t a5 c5)) (λb=>wr.heap.size<=b) (.agg (zF q.t a5 c5)) q.t):=⟨a5,c5,rfl,S5.o.later ((Ag n.heap.size n).alloc (Al _) _)⟩;have b5:=aT.o.2;have az:¬w.heap.size=T:=(by omega);have an:¬T=w.heap.size:=(by omega);by_cases a8:q.pos=s.size
            ·have bo:((q.pos:Int)==(s.size:Int))=true:=(by simp[a8]);have bp:=Aa a8;clear a8;go_wp2_with (at_builtin; refine wpList_append_lies _ rfl _ _ 29 rfl (T+1) 31 i0 _ 2 40 underlying29 aG aH aI aJ rfl (by decide) (.slice ua acc.length uc) acc.length xs rfl aq.o (zD (n.heap.size+1) 0) 1 1 [.string q.t.name,.slice a5 q.t.args.length c5] rfl rfl ar.o aL.o (by decide) N.o.1 N.o.2 aM.o _ rfl ?_; intro g cap w3 ab aa W a1; have y:=Aa (((T5.o.alloc _).alloc _).grown aa (A.o.ne (F2 _))); have z:=Aa (((R5.o.alloc _).alloc _).grown aa (A.o.ne (by omega))); have aA:w3.cell? (zD T 0)=some (.string nm):=y.o.cell 0; have aB:w3.cell? (zD T 1)=some (.slice ua acc.length uc):=y.o.cell 1; have aU:=y.o.frozen 1; have aC:w3.cell? (zD w.heap.size 0)=some (.string ⟨#[]⟩):=z.o.cell 0; have aD:w3.cell? (zD w.heap.size 1)=some (zB):=z.o.cell 1; have aV:=z.o.frozen; have O:=Aa (NJ a6 aF A.o U.o XR.o XT.o aN.o aO.o ab aa W));refine Aq (v:=.tuple #[.agg #[.string nm,.slice (some (zD g 0)) (acc.length+1) cap],zA (q.pos:Int),zA (q.k:Int),zA 13]) (by simp[results,results28,go_sem,Az,Aw,aC,aD,aA,aB,az,an]) rfl ?_;exact Hh (by rw[HQ.o,Ah (by rw[V.o]; simp),Ao bp.o]) (by decide) ((O.o.2.1.setCell (by simp) _).setCell (by simp) _)
            ·have bo:((q.pos:Int)==(s.size:Int))=false:=by simp; omega
             have bd:q.pos<s.size:=(by omega);have aP:=Aa (Iq bd);have bq:(q.pos:Int)<(s.size:Int):=(by omega);by_cases P:Cq s q.pos=41
             ·have br:((s[q.pos].toNat:Int)==41)=true:=by rw[aP.o,P]; rfl
              have bs:=Aa P;clear P;go_wp2_with (at_builtin; refine wpList_append_lies _ rfl _ _ 29 rfl (T+1) 31 i0 _ 2 40 underlying29 aG aH aI aJ rfl (by decide) (.slice ua acc.length uc) acc.length xs rfl aq.o (zD (n.heap.size+1) 0) 1 1 [.string q.t.name,.slice a5 q.t.args.length c5] rfl rfl ar.o aL.o (by decide) N.o.1 N.o.2 aM.o _ rfl ?_; intro g cap w3 ab aa W a1; have y:=Aa (((T5.o.alloc _).alloc _).grown aa (A.o.ne (F2 _))); have z:=Aa (((R5.o.alloc _).alloc _).grown aa (A.o.ne (by omega))); have aA:w3.cell? (zD T 0)=some (.string nm):=y.o.cell 0; have aB:w3.cell? (zD T 1)=some (.slice ua acc.length uc):=y.o.cell 1; have aU:=y.o.frozen 1; have aC:w3.cell? (zD w.heap.size 0)=some (.string ⟨#[]⟩):=z.o.cell 0; have aD:w3.cell? (zD w.heap.size 1)=some (zB):=z.o.cell 1; have aV:=z.o.frozen; have O:=Aa (NJ a6 aF A.o U.o XR.o XT.o aN.o aO.o ab aa W));refine Aq (v:=.tuple #[.agg #[.string nm,.slice (some (zD g 0)) (acc.length+1) cap],zA ((q.pos:Int)+1),zA (q.k:Int),zA 0]) (by simp[results,results28,go_sem,Az,Aw,aC,aD,aA,aB,az,an]) rfl ?_;exact oS (by rw[HQ.o,Ah (by rw[V.o]; simp),Ah a8,Ao bs.o]) a6 O.o.1 O.o.2.1
             ·have br:((s[q.pos].toNat:Int)==41)=false:=by rw[aP.o]; simpa using P
              by_cases aE:Cq s q.pos=44
              ·have bt:((s[q.pos].toNat:Int) !=44)=false:=by rw[aP.o,aE]; rfl
               obtain⟨f2,rfl⟩:∃f2,a=f2+1:=⟨a-1,by omega⟩;have aW:Hid (r=rd s (f2+1) (some (nm,acc++[q.t])) q.pos q.k):=Aa (by rw[HQ.o,Ah (by rw[V.o]; simp),Ah a8,Ah P,Ao aE]);clear aE P;go_wp2_with (at_builtin; refine wpList_append_lies _ rfl _ _ 29 rfl (T+1) 31 i0 _ 2 40 underlying29 aG aH aI aJ rfl (by decide) (.slice ua acc.length uc) acc.length xs rfl aq.o (zD (n.heap.size+1) 0) 1 1 [.string q.t.name,.slice a5 q.t.args.length c5] rfl rfl ar.o aL.o (by decide) N.o.1 N.o.2 aM.o _ rfl ?_; intro g cap w3 ab aa W a1; have y:=Aa (((T5.o.alloc _).alloc _).grown aa (A.o.ne (F2 _))); have z:=Aa (((R5.o.alloc _).alloc _).grown aa (A.o.ne (by omega))); have aA:w3.cell? (zD T 0)=some (.string nm):=y.o.cell 0; have aB:w3.cell? (zD T 1)=some (.slice ua acc.length uc):=y.o.cell 1; have aU:=y.o.frozen 1; have aC:w3.cell? (zD w.heap.size 0)=some (.string ⟨#[]⟩):=z.o.cell 0; have aD:w3.cell? (zD w.heap.size 1)=some (zB):=z.o.cell 1; have aV:=z.o.frozen; have O:=Aa (NJ a6 aF A.o U.o XR.o XT.o aN.o aO.o ab aa W));go_roundw
               case rel=>obtain⟨g1,g2,g3,g4,g5⟩:=O.o;have bu:=aT.o;exact⟨f2,acc++[q.t],q.pos,q.k,_,_,rfl,rfl,by omega,by omega,bd,by simp; omega,bn.o,aW.o,g1,g2,g3,g4,g5⟩
               case measure=>have bu:=aT.o;simp[intOf]; omega
              ·have bt:((s[q.pos].toNat:Int) !=44)=true:=by rw[aP.o]; simpa using aE
               have aW:Hid (r=BO 12):=Aa (by rw[HQ.o,Ah (by rw[V.o]; simp),Ah a8,Ah P,Ah aE]);clear aE P;go_wp2_with (at_builtin; refine wpList_append_lies _ rfl _ _ 29 rfl (T+1) 31 i0 _ 2 40 underlying29 aG aH aI aJ rfl (by decide) (.slice ua acc.length uc) acc.length xs rfl aq.o (zD (n.heap.size+1) 0) 1 1 [.string q.t.name,.slice a5 q.t.args.length c5] rfl rfl ar.o aL.o (by decide) N.o.1 N.o.2 aM.o _ rfl ?_; intro g cap w3 ab aa W a1; have y:=Aa (((T5.o.alloc _).alloc _).grown aa (A.o.ne (F2 _))); have z:=Aa (((R5.o.alloc _).alloc _).grown aa (A.o.ne (by omega))); have aA:w3.cell? (zD T 0)=some (.string nm):=y.o.cell 0; have aB:w3.cell? (zD T 1)=some (.slice ua acc.length uc):=y.o.cell 1; have aU:=y.o.frozen 1; have aC:w3.cell? (zD w.heap.size 0)=some (.string ⟨#[]⟩):=z.o.cell 0; have aD:w3.cell? (zD w.heap.size 1)=some (zB):=z.o.cell 1; have aV:=z.o.frozen; have O:=Aa (NJ a6 aF A.o U.o XR.o XT.o aN.o aO.o ab aa W));refine Aq (v:=.tuple #[.agg #[.string nm,.slice (some (zD g 0)) (acc.length+1) cap],zA (q.pos:Int),zA (q.k:Int),zA 12]) (by simp[results,results28,go_sem,Az,Aw,aC,aD,aA,aB,az,an]) rfl ?_;exact Hh aW.o (by decide) ((O.o.2.1.setCell (by simp) _).setCell (by simp) _)
           ·have V:=Aa hq;have b6:(q.err==0)=false:=(by simpa using hq);clear hq ax;go_wp2_with fail;refine Aq (v:=.tuple #[.agg #[.string nm,.slice ua acc.length uc],zA y5,zA z5,zA q.err]) (by simp[results,results28,go_sem,Az,Aw,d,l,aS,Cz]) rfl ?_;exact Hh (by rw[HQ.o,Ao V.o]) V.o (((BE.o.setCell (by simp) _).setCell (by simp) _).alloc (by have:=BE.o.size; simpa [World.setCell] using this) _)
        ·have hc:((s[j].toNat:Int) !=40)=true:=by rw[hb.o]; simpa using h4
         have H4:Hid (¬(j<s.size/\Cq s j=40)):=λh=>h4 h.2;go_wp2_with fail;refine Aq (v:=.tuple #[.agg #[.string nm,zB],zA j,zA ((k:Int)+1),zA 0]) (by simp[results,results28,go_sem,Az,Aw,d,l]) rfl ?_;exact Wt (args:=[]) (k:=k+1) (by rw[G.o,C.o,Ah c.o,I.o,Ah E.o,Ah h3,Ah H4.o]) ⟨by simp,Ae rfl⟩ ((H.o.setCell (by simp) _).setCell (by simp) _)
   ·have C:Hid (CG s i=j):=HS.o.trans (Rp (λh=>Y h.1));by_cases D:j=i
    ·have c:=Aa D;have hne:((j:Int)==(i:Int))=true:=(by simp[D]);have aK:((j:Int)==(s.size:Int))=true:=by simp; omega
     clear D;have d:=B.o.c0;have l:=B.o.c1;have rf:=B.o.frozen;go_wp2_with fail;refine Aq (v:=.tuple #[.agg zd,zA j,zA k,zA 13]) (by simp[results,results28,go_sem,Az,Aw,d,l]) rfl ?_;exact Hh (by rw[G.o,C.o,Ao c.o,Ao (by have:=c.o; omega)]) (by decide) ((L.o.setCell (by simp) _).setCell (by simp) _)
    ·have c:=Aa D;have hne:((j:Int)==(i:Int))=false:=by simp; omega
     have aQ:(i:Int)<=(j:Int):=(by omega);have aZ:(j:Int)<=(s.size:Int):=(by omega);clear D;go_wp2_with fail;refine(QQ _ _).mono ?_;rintro e w9 ⟨rfl,rfl⟩;have M:=Aa (B.o.alloc (zh #[.string (s.extract i j),zB] 31));have R:=Aa (Ac.new wr #[.string (s.extract i j),zB] 31);have H:=Aa (L.o.alloc L.o.size (.cells #[.string (s.extract i j),zB] 31));have a6:=aX;generalize wr.alloc (zh #[.string (s.extract i j),zB] 31)=w1 at *;clear B L;generalize wr.heap.size=T at *;generalize al:s.extract i j=nm at *;have I:=Aa al;clear al;have t0:=R.o.c0;have t1:=R.o.c1;have d:=M.o.c0;have l:=M.o.c1;have rf:=M.o.frozen;cases J:AF nm with
     |false=>have E:=Aa J;clear J;go_wp2_with fail;refine Aq (v:=.tuple #[.agg #[.string nm,zB],zA j,zA k,zA 1]) (by simp[results,results28,go_sem,Az,Aw,d,l]) rfl ?_;exact Hh (by rw[G.o,C.o,Ah c.o,I.o,Ao E.o]) (by decide) ((H.o.setCell (by simp) _).setCell (by simp) _)
     |true=>
      have E:Hid (¬AF nm=false):=Aa (by rw[J];simp);clear J;by_cases h3:200<k+1
      ·go_wp2_with fail;refine Aq (v:=.tuple #[.agg #[.string nm,zB],zA j,zA ((k:Int)+1),zA 3]) (by simp[results,results28,go_sem,Az,Aw,d,l]) rfl ?_;exact Hh (by rw[G.o,C.o,Ah c.o,I.o,Ah E.o,Ao h3]) (by decide) ((H.o.setCell (by simp) _).setCell (by simp) _)
      ·have H4:Hid (¬(j<s.size/\Cq s j=40)):=λh=>by omega
       have aK:((j:Int)==(s.size:Int))=true:=by simp; omega
       go_wp2_with fail;refine Aq (v:=.tuple #[.agg #[.string nm,zB],zA j,zA ((k:Int)+1),zA 0]) (by simp[results,results28,go_sem,Az,Aw,d,l]) rfl ?_;exact Wt (args:=[]) (k:=k+1) (by rw[G.o,C.o,Ah c.o,I.o,Ah E.o,Ah h3,Ah H4.o]) ⟨by simp,Ae rfl⟩ ((H.o.setCell (by simp) _).setCell (by simp) _)
theorem oU {c:World} {d e:Obj} {l:List Tm} (hs:Sl c (λb=>(w.alloc d).heap.size<=b) a l):Sl (((c.setCell (zD w.heap.size 0) v0).setCell (zD w.heap.size 1) v1).alloc e) (λb=>w.heap.size<=b) a l:=by
 refine((hs.mono (Y:=λb=>w.heap.size<b/\b<c.heap.size) λb h1 h2=>⟨by simp at h1; omega,h2⟩).kept λb hb=>?_).mono λb hb _=>by omega
 rw[Ay _ _ _ (by simp[World.setCell]; omega),An _ _ _ _ (by simp; omega),An _ _ _ _ (by simp; omega)]
theorem Wu (s:ByteArray) (w:World):
  Calls prog 17 #[.string s] w λe w'=>Vg w (GJ s) e w':=by
 generalize c:GJ s=r at *;by_cases hs:4000<s.size
 ·have b:Hid (r=BO 3):=Aa (by rw[<-c];unfold GJ;rw[Ao hs]);clear c;go_enter func17,ntmps17;go_wp2_with fail;have m:=(Ac.new w zd 31).cell 0;have n:=(Ac.new w zd 31).cell 1;simp at m n;refine Aq (v:=.tuple #[.agg zd,zA 3]) (by simp[results,results17,go_sem,m,n]) rfl ?_;exact PM b.o (by decide) ((Ag _ _).alloc (Al _) _)
 ·have b:Hid (r=if (rd s (2*s.size+1) none 0 0).err≠0 then BO (rd s (2*s.size+1) none 0 0).err else if (rd s (2*s.size+1) none 0 0).pos=s.size then rd s (2*s.size+1) none 0 0 else BO 12):=Aa (by rw[<-c];unfold GJ;rw[Ah hs]);have x:=Aa (λw'=>oT s (by omega) (2*s.size+1) 0 0 w' (by omega) (by omega) (by omega));have y:=Aa (Rq s (2*s.size+1) none 0 0);generalize rd s (2*s.size+1) none 0 0=q at *;clear c;go_enter func17,ntmps17;go_wp2_with fail;refine(x.o _).mono ?_;intro e g hp;obtain⟨i,n5,a5,l5,c5,y5,z5,rfl,ab⟩:=hp;have R5:=Aa ((Ac.new w zd 31).below i (by simp));have a:=Aa (((Ag w.heap.size w).alloc (Al _) zc).trans (i.mono (by simp)));have j:w.heap.size<g.heap.size:=R5.o.lt;clear i;have k:=R5.o.c0;have l:=R5.o.c1;have rf:=R5.o.frozen;have ao:∀o,(g.alloc o).cell? (zD w.heap.size 0)=some (.string ⟨#[]⟩):=λo=>(R5.o.alloc o).cell 0;have aq:∀o,(g.alloc o).cell? (zD w.heap.size 1)=some (zB):=λo=>(R5.o.alloc o).cell 1;have ar:=λo=>(R5.o.alloc o).frozen;by_cases hq:q.err=0
  ·obtain⟨rfl,rfl,rfl,rfl,u⟩:=ab hq;have d:=Aa hq;have z:=Aa (y.o hq (by omega) (λh=>by cases h));have A:=Aa u;have au:=z.o.2;rw[hq];clear hq ab u;by_cases f:q.pos=s.size
   ·have B:¬(q.pos:Int)<(s.size:Int):=(by omega);have aa:Hid (r=q):=Aa (by rw[b.o,Ah (by rw[d.o]; simp),Ao f]);clear f;go_wp2_with fail;refine Aq (v:=.tuple #[.agg (zF q.t a5 c5),zA 0]) (by simp[results,results17,go_sem,Az,Aw,k,l,j,Cz]) rfl ?_;refine⟨.agg (zF q.t a5 c5),by rw[aa.o,d.o],λ_=>?_,λh=>absurd (by rw[aa.o]; exact d.o) h,(((a.o.setCell (by simp) _).setCell (by simp) _).alloc (by have:=a.o.size; simpa [World.setCell] using this) _)⟩;rw[aa.o];exact⟨a5,c5,rfl,oU A.o⟩
   ·have B:(q.pos:Int)<(s.size:Int):=(by omega);have aa:Hid (r=BO 12):=Aa (by rw[b.o,Ah (by rw[d.o]; simp),Ah f]);clear f;go_wp2_with fail;refine Aq (v:=.tuple #[.agg zd,zA 12]) (by simp[results,results17,go_sem,Az,Aw,k,l,j,Cz]) rfl ?_;exact PM aa.o (by decide) (((a.o.setCell (by simp) _).setCell (by simp) _).alloc (by have:=a.o.size; simpa [World.setCell] using this) _)
  ·have av:(q.err==0)=false:=(by simpa using hq);have aa:Hid (r=BO q.err/\q.err≠0):=⟨by rw[b.o,Ao hq],hq⟩;clear hq ab;go_wp2_with fail;refine Aq (v:=.tuple #[.agg zd,zA q.err]) (by simp[results,results17,go_sem,Az,Aw,k,l,j,Cz]) rfl ?_;exact PM aa.o.1 aa.o.2 (((a.o.setCell (by simp) _).setCell (by simp) _).alloc (by have:=a.o.size; simpa [World.setCell] using this) _)
def Eq:List (List ByteArray):=[[⟨#[102,40,97,44,88,41]⟩,⟨#[88]⟩,⟨#[102,40,104,40,88,41,44,89,41]⟩,⟨#[104,40,102,40,88,44,89,41,41]⟩],[⟨#[102,40,88,44,97,41]⟩,⟨#[88]⟩,⟨#[102,40,88,44,104,40,89,41,41]⟩,⟨#[104,40,102,40,88,44,89,41,41]⟩,⟨#[102,40,97,44,88,41]⟩,⟨#[88]⟩],[⟨#[102,40,102,40,88,44,89,41,44,90,41]⟩,⟨#[102,40,88,44,102,40,89,44,90,41,41]⟩],[⟨#[107,40,107,40,88,41,41]⟩,⟨#[88]⟩,⟨#[107,40,97,41]⟩,⟨#[97]⟩,⟨#[107,40,102,40,88,44,89,41,41]⟩,⟨#[102,40,107,40,89,41,44,107,40,88,41,41]⟩],[⟨#[102,40,88,44,88,41]⟩,⟨#[88]⟩],[⟨#[104,40,107,40,88,41,41]⟩,⟨#[107,40,104,40,88,41,41]⟩,⟨#[104,40,104,40,88,41,41]⟩,⟨#[104,40,88,41]⟩],[⟨#[102,40,97,44,98,41]⟩,⟨#[99]⟩,⟨#[97]⟩,⟨#[98]⟩],[⟨#[103,40,88,44,89,41]⟩,⟨#[102,40,89,44,88,41]⟩],[⟨#[104,40,97,41]⟩,⟨#[98]⟩,⟨#[104,40,97,41]⟩,⟨#[99]⟩],[⟨#[102,40,88,44,103,40,89,44,90,41,41]⟩,⟨#[103,40,102,40,88,44,89,41,44,102,40,88,44,90,41,41]⟩]]
def Du:List ByteArray->List Pr
 |a::b::r=>⟨(GJ a).t,(GJ b).t⟩::Du r
 |_=>[]
theorem Wv:∀(k:Nat) (l:List ByteArray) (h:2*k+1<l.length),Du (l.take (2*k+2))=Du (l.take (2*k))++[⟨(GJ (l[2*k]'(by omega))).t,(GJ l[2*k+1]).t⟩]
 |_,[],h=>by simp at h
 |_,[a],h=>by simp at h
 |0,a::b::r,h=>by simp[Du]
 |k+1,a::b::r,h=>by
  have c:=Wv k r (by simp at h; omega);have d:(a::b::r).take (2*(k+1)+2)=a::b::r.take (2*k+2):=by rw[show 2*(k+1)+2=(2*k+2)+1+1 by omega,GY,GY]
  have e:(a::b::r).take (2*(k+1))=a::b::r.take (2*k):=by rw[show 2*(k+1)=(2*k)+1+1 by omega,GY,GY]
  rw[d,e,Du,Du,c];simp[show 2*(k+1)=2*k+1+1 by omega]
theorem Ww:∀l∈Eq,(∀s∈l,(GJ s).err=0)/\l.length % 2=0/\l.length<=6:=by decide +kernel
theorem Wx (h1:Av p.l=0) (h2:Av p.r=0) (h3:Aj p.l.name=false) (c:((Ap [p.r]).all λk=>!Aj k.name||((Ap [p.l]).any λx=>decide (x.name=k.name)))=true):Br p=0:=by
 have e:CJ p.l p.r=0:=by unfold CJ; rw[Ao h1]; exact h2
 unfold Br;rw[Ao e,Ah (by rw[h3]; simp),Ao];rw[GR];intro n d;rcases J6 _ _ _ d with h|⟨k,hk,rfl,hv⟩
 ·simp at h
 ·have b:=GR.1 c k hk;rw[hv]at b;obtain⟨k',hk',a⟩:=D6.1 (show((Ap [p.l]).any λx=>decide (x.name=k.name))=true by simpa using b);replace a:k'.name=k.name:=by simpa using a
  have:=(MY (Ap [p.l]) []).2 k' hk' (by rw[a]; exact hv);rw[a]at this;unfold Bb;exact D6.2 ⟨_,this,by simp⟩
theorem Qt {ls:List Pr} (aa:ls.length<=40) (h:∀p∈ls,Br p=0):Bl ls=0:=by
 unfold Bl;rw[Ah (by omega)];have key:∀k,k<=ls.length->EM ls k=0:=by
  intro k;induction k with
  |zero=>intro _; rfl
  |succ k a=>intro hk; rw[My (by omega) (a (by omega))]; exact h _ (AM _)
 exact key _ (Al _)
def Qu:List (List Pr):=[[⟨⟨⟨#[102]⟩,[⟨⟨#[97]⟩,[]⟩,⟨⟨#[88]⟩,[]⟩]⟩,⟨⟨#[88]⟩,[]⟩⟩,⟨⟨⟨#[102]⟩,[⟨⟨#[104]⟩,[⟨⟨#[88]⟩,[]⟩]⟩,⟨⟨#[89]⟩,[]⟩]⟩,⟨⟨#[104]⟩,[⟨⟨#[102]⟩,[⟨⟨#[88]⟩,[]⟩,⟨⟨#[89]⟩,[]⟩]⟩]⟩⟩],[⟨⟨⟨#[102]⟩,[⟨⟨#[88]⟩,[]⟩,⟨⟨#[97]⟩,[]⟩]⟩,⟨⟨#[88]⟩,[]⟩⟩,⟨⟨⟨#[102]⟩,[⟨⟨#[88]⟩,[]⟩,⟨⟨#[104]⟩,[⟨⟨#[89]⟩,[]⟩]⟩]⟩,⟨⟨#[104]⟩,[⟨⟨#[102]⟩,[⟨⟨#[88]⟩,[]⟩,⟨⟨#[89]⟩,[]⟩]⟩]⟩⟩,⟨⟨⟨#[102]⟩,[⟨⟨#[97]⟩,[]⟩,⟨⟨#[88]⟩,[]⟩]⟩,⟨⟨#[88]⟩,[]⟩⟩],[⟨⟨⟨#[102]⟩,[⟨⟨#[102]⟩,[⟨⟨#[88]⟩,[]⟩,⟨⟨#[89]⟩,[]⟩]⟩,⟨⟨#[90]⟩,[]⟩]⟩,⟨⟨#[102]⟩,[⟨⟨#[88]⟩,[]⟩,⟨⟨#[102]⟩,[⟨⟨#[89]⟩,[]⟩,⟨⟨#[90]⟩,[]⟩]⟩]⟩⟩],[⟨⟨⟨#[107]⟩,[⟨⟨#[107]⟩,[⟨⟨#[88]⟩,[]⟩]⟩]⟩,⟨⟨#[88]⟩,[]⟩⟩,⟨⟨⟨#[107]⟩,[⟨⟨#[97]⟩,[]⟩]⟩,⟨⟨#[97]⟩,[]⟩⟩,⟨⟨⟨#[107]⟩,[⟨⟨#[102]⟩,[⟨⟨#[88]⟩,[]⟩,⟨⟨#[89]⟩,[]⟩]⟩]⟩,⟨⟨#[102]⟩,[⟨⟨#[107]⟩,[⟨⟨#[89]⟩,[]⟩]⟩,⟨⟨#[107]⟩,[⟨⟨#[88]⟩,[]⟩]⟩]⟩⟩],[⟨⟨⟨#[102]⟩,[⟨⟨#[88]⟩,[]⟩,⟨⟨#[88]⟩,[]⟩]⟩,⟨⟨#[88]⟩,[]⟩⟩],[⟨⟨⟨#[104]⟩,[⟨⟨#[107]⟩,[⟨⟨#[88]⟩,[]⟩]⟩]⟩,⟨⟨#[107]⟩,[⟨⟨#[104]⟩,[⟨⟨#[88]⟩,[]⟩]⟩]⟩⟩,⟨⟨⟨#[104]⟩,[⟨⟨#[104]⟩,[⟨⟨#[88]⟩,[]⟩]⟩]⟩,⟨⟨#[104]⟩,[⟨⟨#[88]⟩,[]⟩]⟩⟩],[⟨⟨⟨#[102]⟩,[⟨⟨#[97]⟩,[]⟩,⟨⟨#[98]⟩,[]⟩]⟩,⟨⟨#[99]⟩,[]⟩⟩,⟨⟨⟨#[97]⟩,[]⟩,⟨⟨#[98]⟩,[]⟩⟩],[⟨⟨⟨#[103]⟩,[⟨⟨#[88]⟩,[]⟩,⟨⟨#[89]⟩,[]⟩]⟩,⟨⟨#[102]⟩,[⟨⟨#[89]⟩,[]⟩,⟨⟨#[88]⟩,[]⟩]⟩⟩],[⟨⟨⟨#[104]⟩,[⟨⟨#[97]⟩,[]⟩]⟩,⟨⟨#[98]⟩,[]⟩⟩,⟨⟨⟨#[104]⟩,[⟨⟨#[97]⟩,[]⟩]⟩,⟨⟨#[99]⟩,[]⟩⟩],[⟨⟨⟨#[102]⟩,[⟨⟨#[88]⟩,[]⟩,⟨⟨#[103]⟩,[⟨⟨#[89]⟩,[]⟩,⟨⟨#[90]⟩,[]⟩]⟩]⟩,⟨⟨#[103]⟩,[⟨⟨#[102]⟩,[⟨⟨#[88]⟩,[]⟩,⟨⟨#[89]⟩,[]⟩]⟩,⟨⟨#[102]⟩,[⟨⟨#[88]⟩,[]⟩,⟨⟨#[90]⟩,[]⟩]⟩]⟩⟩]]
theorem oV:Eq.map Du=Qu:=by kernel_rfl
theorem oW:AF ⟨#[88]⟩=true/\Aj ⟨#[88]⟩=true:=by decide
theorem oX:AF ⟨#[89]⟩=true/\Aj ⟨#[89]⟩=true:=by decide
theorem oY:AF ⟨#[90]⟩=true/\Aj ⟨#[90]⟩=true:=by decide
theorem oZ:AF ⟨#[97]⟩=true/\Aj ⟨#[97]⟩=false:=by decide
theorem pA:AF ⟨#[98]⟩=true/\Aj ⟨#[98]⟩=false:=by decide
theorem pB:AF ⟨#[99]⟩=true/\Aj ⟨#[99]⟩=false:=by decide
theorem pC:AF ⟨#[102]⟩=true/\Aj ⟨#[102]⟩=false:=by decide
theorem pD:AF ⟨#[103]⟩=true/\Aj ⟨#[103]⟩=false:=by decide
theorem pE:AF ⟨#[104]⟩=true/\Aj ⟨#[104]⟩=false:=by decide
theorem pG:AF ⟨#[107]⟩=true/\Aj ⟨#[107]⟩=false:=by decide
theorem pH:∀rs∈Qu,rs.length<=40/\∀p∈rs,Av p.l=0/\Av p.r=0/\Aj p.l.name=false/\((Ap [p.r]).all λk=>!Aj k.name||((Ap [p.l]).any λx=>decide (x.name=k.name)))=true/\Ab [p.r]<=7:=by
 simp[Qu,Av,Af,Ab,Ap,oW,oX,oY,oZ,pA,pB,pC,pD,pE,pG]
theorem Qv:∀l∈Eq,(Du l).length<=40/\∀p∈Du l,Av p.l=0/\Av p.r=0/\Aj p.l.name=false/\((Ap [p.r]).all λk=>!Aj k.name||((Ap [p.l]).any λx=>decide (x.name=k.name)))=true/\Ab [p.r]<=7:=λl a=>pH _ (by rw[<-oV]; exact Bk.2 ⟨l,a,rfl⟩)
theorem Ku:∀l∈Eq,Bl (Du l)=0/\∀p∈Du l,Ab [p.r]<=7:=λl e=>
 ⟨Qt (Qv l e).1 λp hp=>by obtain⟨a,b,c,d,_⟩:=(Qv l e).2 p hp; exact Wx a b c d,λp hp=>((Qv l e).2 p hp).2.2.2.2⟩
def pI (l:List ByteArray) (w:World) (u v:Value) (wr:World):Prop:=
 ∃(k:Nat) (cs:List Pc),2*k<=l.length/\v=zA ((2*k:Nat):Int)/\cs.map (λx=>x.1)=Du (l.take (2*k))/\cs.length=k/\Di wr w.heap.size (λ_=>False) u cs/\Below w.heap.size w wr
def NK (B:Nat) (l:List ByteArray) (w w':World):Prop:=Ac w' B (l.map Value.string).toArray 9/\Below w.heap.size w w'
theorem NK.later {l:List ByteArray} {w2:World} (h:NK B l w w1) (hb:Below w1.heap.size w1 w2):NK B l w w2:=⟨h.1.below hb h.1.lt,h.2.trans (hb.mono h.2.size)⟩
def pJ (w:World) (e:Ending) (w':World):Prop:=
 ∃l v cs N,e=.returned v/\l∈Eq/\w.heap.size<=N/\N<=w'.heap.size/\Di w' N (λ_=>False) v cs/\cs.map (λx=>x.1)=Du l/\cs.length<=3/\Below w.heap.size w w'
theorem Wy (z:Int) (hz:-9223372036854775808<=z/\z<=9223372036854775807) (w:World):
  Calls prog 4 #[zA z] w (pJ w):=by
 obtain⟨i0,aP,aQ,aR,aS⟩:=DO Tryz.infoPair;have J:Hid (∃W,W=(((((((((((w.alloc (zh #[.string ⟨#[102,40,97,44,88,41]⟩,.string ⟨#[88]⟩,.string ⟨#[102,40,104,40,88,41,44,89,41]⟩,.string ⟨#[104,40,102,40,88,44,89,41,41]⟩] 9)).alloc (zh #[.string ⟨#[102,40,88,44,97,41]⟩,.string ⟨#[88]⟩,.string ⟨#[102,40,88,44,104,40,89,41,41]⟩,.string ⟨#[104,40,102,40,88,44,89,41,41]⟩,.string ⟨#[102,40,97,44,88,41]⟩,.string ⟨#[88]⟩] 9)).alloc (zh #[.string ⟨#[102,40,102,40,88,44,89,41,44,90,41]⟩,.string ⟨#[102,40,88,44,102,40,89,44,90,41,41]⟩] 9)).alloc (zh #[.string ⟨#[107,40,107,40,88,41,41]⟩,.string ⟨#[88]⟩,.string ⟨#[107,40,97,41]⟩,.string ⟨#[97]⟩,.string ⟨#[107,40,102,40,88,44,89,41,41]⟩,.string ⟨#[102,40,107,40,89,41,44,107,40,88,41,41]⟩] 9)).alloc (zh #[.string ⟨#[102,40,88,44,88,41]⟩,.string ⟨#[88]⟩] 9)).alloc (zh #[.string ⟨#[104,40,107,40,88,41,41]⟩,.string ⟨#[107,40,104,40,88,41,41]⟩,.string ⟨#[104,40,104,40,88,41,41]⟩,.string ⟨#[104,40,88,41]⟩] 9)).alloc (zh #[.string ⟨#[102,40,97,44,98,41]⟩,.string ⟨#[99]⟩,.string ⟨#[97]⟩,.string ⟨#[98]⟩] 9)).alloc (zh #[.string ⟨#[103,40,88,44,89,41]⟩,.string ⟨#[102,40,89,44,88,41]⟩] 9)).alloc (zh #[.string ⟨#[104,40,97,41]⟩,.string ⟨#[98]⟩,.string ⟨#[104,40,97,41]⟩,.string ⟨#[99]⟩] 9)).alloc (zh #[.string ⟨#[102,40,88,44,103,40,89,44,90,41,41]⟩,.string ⟨#[103,40,102,40,88,44,89,41,44,102,40,88,44,90,41,41]⟩] 9)).alloc (zh #[.slice (some (zD w.heap.size 0)) 4 4,.slice (some (zD (w.heap.size+1) 0)) 6 6,.slice (some (zD (w.heap.size+1+1) 0)) 2 2,.slice (some (zD (w.heap.size+1+1+1) 0)) 6 6,.slice (some (zD (w.heap.size+1+1+1+1) 0)) 2 2,.slice (some (zD (w.heap.size+1+1+1+1+1) 0)) 4 4,.slice (some (zD (w.heap.size+1+1+1+1+1+1) 0)) 4 4,.slice (some (zD (w.heap.size+1+1+1+1+1+1+1) 0)) 2 2,.slice (some (zD (w.heap.size+1+1+1+1+1+1+1+1) 0)) 4 4,.slice (some (zD (w.heap.size+1+1+1+1+1+1+1+1+1) 0)) 2 2] 36))/\(Ac W (w.heap.size) #[.string ⟨#[102,40,97,44,88,41]⟩,.string ⟨#[88]⟩,.string ⟨#[102,40,104,40,88,41,44,89,41]⟩,.string ⟨#[104,40,102,40,88,44,89,41,41]⟩] 9/\Ac W (w.heap.size+1) #[.string ⟨#[102,40,88,44,97,41]⟩,.string ⟨#[88]⟩,.string ⟨#[102,40,88,44,104,40,89,41,41]⟩,.string ⟨#[104,40,102,40,88,44,89,41,41]⟩,.string ⟨#[102,40,97,44,88,41]⟩,.string ⟨#[88]⟩] 9/\Ac W (w.heap.size+1+1) #[.string ⟨#[102,40,102,40,88,44,89,41,44,90,41]⟩,.string ⟨#[102,40,88,44,102,40,89,44,90,41,41]⟩] 9/\Ac W (w.heap.size+1+1+1) #[.string ⟨#[107,40,107,40,88,41,41]⟩,.string ⟨#[88]⟩,.string ⟨#[107,40,97,41]⟩,.string ⟨#[97]⟩,.string ⟨#[107,40,102,40,88,44,89,41,41]⟩,.string ⟨#[102,40,107,40,89,41,44,107,40,88,41,41]⟩] 9/\Ac W (w.heap.size+1+1+1+1) #[.string ⟨#[102,40,88,44,88,41]⟩,.string ⟨#[88]⟩] 9/\Ac W (w.heap.size+1+1+1+1+1) #[.string ⟨#[104,40,107,40,88,41,41]⟩,.string ⟨#[107,40,104,40,88,41,41]⟩,.string ⟨#[104,40,104,40,88,41,41]⟩,.string ⟨#[104,40,88,41]⟩] 9/\Ac W (w.heap.size+1+1+1+1+1+1) #[.string ⟨#[102,40,97,44,98,41]⟩,.string ⟨#[99]⟩,.string ⟨#[97]⟩,.string ⟨#[98]⟩] 9/\Ac W (w.heap.size+1+1+1+1+1+1+1) #[.string ⟨#[103,40,88,44,89,41]⟩,.string ⟨#[102,40,89,44,88,41]⟩] 9/\Ac W (w.heap.size+1+1+1+1+1+1+1+1) #[.string ⟨#[104,40,97,41]⟩,.string ⟨#[98]⟩,.string ⟨#[104,40,97,41]⟩,.string ⟨#[99]⟩] 9/\Ac W (w.heap.size+1+1+1+1+1+1+1+1+1) #[.string ⟨#[102,40,88,44,103,40,89,44,90,41,41]⟩,.string ⟨#[103,40,102,40,88,44,89,41,44,102,40,88,44,90,41,41]⟩] 9)/\Ac W (w.heap.size+1+1+1+1+1+1+1+1+1+1) #[.slice (some (zD w.heap.size 0)) 4 4,.slice (some (zD (w.heap.size+1) 0)) 6 6,.slice (some (zD (w.heap.size+1+1) 0)) 2 2,.slice (some (zD (w.heap.size+1+1+1) 0)) 6 6,.slice (some (zD (w.heap.size+1+1+1+1) 0)) 2 2,.slice (some (zD (w.heap.size+1+1+1+1+1) 0)) 4 4,.slice (some (zD (w.heap.size+1+1+1+1+1+1) 0)) 4 4,.slice (some (zD (w.heap.size+1+1+1+1+1+1+1) 0)) 2 2,.slice (some (zD (w.heap.size+1+1+1+1+1+1+1+1) 0)) 4 4,.slice (some (zD (w.heap.size+1+1+1+1+1+1+1+1+1) 0)) 2 2] 36/\Below w.heap.size w W):=by
  obtain⟨h1,h2,h3⟩:=Fe [(.cells #[.string ⟨#[102,40,97,44,88,41]⟩,.string ⟨#[88]⟩,.string ⟨#[102,40,104,40,88,41,44,89,41]⟩,.string ⟨#[104,40,102,40,88,44,89,41,41]⟩] 9:Obj),(.cells #[.string ⟨#[102,40,88,44,97,41]⟩,.string ⟨#[88]⟩,.string ⟨#[102,40,88,44,104,40,89,41,41]⟩,.string ⟨#[104,40,102,40,88,44,89,41,41]⟩,.string ⟨#[102,40,97,44,88,41]⟩,.string ⟨#[88]⟩] 9:Obj),(.cells #[.string ⟨#[102,40,102,40,88,44,89,41,44,90,41]⟩,.string ⟨#[102,40,88,44,102,40,89,44,90,41,41]⟩] 9:Obj),(.cells #[.string ⟨#[107,40,107,40,88,41,41]⟩,.string ⟨#[88]⟩,.string ⟨#[107,40,97,41]⟩,.string ⟨#[97]⟩,.string ⟨#[107,40,102,40,88,44,89,41,41]⟩,.string ⟨#[102,40,107,40,89,41,44,107,40,88,41,41]⟩] 9:Obj),(.cells #[.string ⟨#[102,40,88,44,88,41]⟩,.string ⟨#[88]⟩] 9:Obj),(.cells #[.string ⟨#[104,40,107,40,88,41,41]⟩,.string ⟨#[107,40,104,40,88,41,41]⟩,.string ⟨#[104,40,104,40,88,41,41]⟩,.string ⟨#[104,40,88,41]⟩] 9:Obj),(.cells #[.string ⟨#[102,40,97,44,98,41]⟩,.string ⟨#[99]⟩,.string ⟨#[97]⟩,.string ⟨#[98]⟩] 9:Obj),(.cells #[.string ⟨#[103,40,88,44,89,41]⟩,.string ⟨#[102,40,89,44,88,41]⟩] 9:Obj),(.cells #[.string ⟨#[104,40,97,41]⟩,.string ⟨#[98]⟩,.string ⟨#[104,40,97,41]⟩,.string ⟨#[99]⟩] 9:Obj),(.cells #[.string ⟨#[102,40,88,44,103,40,89,44,90,41,41]⟩,.string ⟨#[103,40,102,40,88,44,89,41,44,102,40,88,44,90,41,41]⟩] 9:Obj),(.cells #[.slice (some (zD w.heap.size 0)) 4 4,.slice (some (zD (w.heap.size+1) 0)) 6 6,.slice (some (zD (w.heap.size+1+1) 0)) 2 2,.slice (some (zD (w.heap.size+1+1+1) 0)) 6 6,.slice (some (zD (w.heap.size+1+1+1+1) 0)) 2 2,.slice (some (zD (w.heap.size+1+1+1+1+1) 0)) 4 4,.slice (some (zD (w.heap.size+1+1+1+1+1+1) 0)) 4 4,.slice (some (zD (w.heap.size+1+1+1+1+1+1+1) 0)) 2 2,.slice (some (zD (w.heap.size+1+1+1+1+1+1+1+1) 0)) 4 4,.slice (some (zD (w.heap.size+1+1+1+1+1+1+1+1+1) 0)) 2 2] 36:Obj)] w;exact⟨_,rfl,⟨h3 0 _ rfl,h3 1 _ rfl,h3 2 _ rfl,h3 3 _ rfl,h3 4 _ rfl,h3 5 _ rfl,h3 6 _ rfl,h3 7 _ rfl,h3 8 _ rfl,h3 9 _ rfl⟩,h3 10 _ rfl,h1⟩
 go_enter func4,ntmps4;go_upto_region 2 with fail;obtain⟨w0,L,M,hk,N⟩:=J.o;rw[<-L];have O:=Aa M;have P:=Aa hk;have aa:=Aa N;clear L J M hk N;go_cut [4] (λv wc=>∃l B,l∈Eq/\v=.slice (some (zD B 0)) l.length l.length/\NK B l w wc);case first=>
  have a:=Aa (λi=>P.o.cell i);go_wp2_with fail;refine(GC z 10 (by decide) (by decide) hz _).mono ?_;rintro e w1 ⟨k,rfl,hk,rfl⟩;obtain⟨b0,b1,b2,b3,b4,b5,b6,b7,b8,b9⟩:=O.o;match k,hk with
  |0,_=>have q:w1.cell? (zD (w.heap.size+1+1+1+1+1+1+1+1+1+1) 0)=some (.slice (some (zD w.heap.size 0)) 4 4):=a.o 0;go_wp2_with fail;go_meet;exact⟨[⟨#[102,40,97,44,88,41]⟩,⟨#[88]⟩,⟨#[102,40,104,40,88,41,44,89,41]⟩,⟨#[104,40,102,40,88,44,89,41,41]⟩],w.heap.size,by simp[Eq],rfl,b0,aa.o⟩
  |1,_=>have q:w1.cell? (zD (w.heap.size+1+1+1+1+1+1+1+1+1+1) 1)=some (.slice (some (zD (w.heap.size+1) 0)) 6 6):=a.o 1;go_wp2_with fail;go_meet;exact⟨[⟨#[102,40,88,44,97,41]⟩,⟨#[88]⟩,⟨#[102,40,88,44,104,40,89,41,41]⟩,⟨#[104,40,102,40,88,44,89,41,41]⟩,⟨#[102,40,97,44,88,41]⟩,⟨#[88]⟩],w.heap.size+1,by simp[Eq],rfl,b1,aa.o⟩
  |2,_=>have q:w1.cell? (zD (w.heap.size+1+1+1+1+1+1+1+1+1+1) 2)=some (.slice (some (zD (w.heap.size+1+1) 0)) 2 2):=a.o 2;go_wp2_with fail;go_meet;exact⟨[⟨#[102,40,102,40,88,44,89,41,44,90,41]⟩,⟨#[102,40,88,44,102,40,89,44,90,41,41]⟩],w.heap.size+1+1,by simp[Eq],rfl,b2,aa.o⟩
  |3,_=>have q:w1.cell? (zD (w.heap.size+1+1+1+1+1+1+1+1+1+1) 3)=some (.slice (some (zD (w.heap.size+1+1+1) 0)) 6 6):=a.o 3;go_wp2_with fail;go_meet;exact⟨[⟨#[107,40,107,40,88,41,41]⟩,⟨#[88]⟩,⟨#[107,40,97,41]⟩,⟨#[97]⟩,⟨#[107,40,102,40,88,44,89,41,41]⟩,⟨#[102,40,107,40,89,41,44,107,40,88,41,41]⟩],w.heap.size+1+1+1,by simp[Eq],rfl,b3,aa.o⟩
  |4,_=>have q:w1.cell? (zD (w.heap.size+1+1+1+1+1+1+1+1+1+1) 4)=some (.slice (some (zD (w.heap.size+1+1+1+1) 0)) 2 2):=a.o 4;go_wp2_with fail;go_meet;exact⟨[⟨#[102,40,88,44,88,41]⟩,⟨#[88]⟩],w.heap.size+1+1+1+1,by simp[Eq],rfl,b4,aa.o⟩
  |5,_=>have q:w1.cell? (zD (w.heap.size+1+1+1+1+1+1+1+1+1+1) 5)=some (.slice (some (zD (w.heap.size+1+1+1+1+1) 0)) 4 4):=a.o 5;go_wp2_with fail;go_meet;exact⟨[⟨#[104,40,107,40,88,41,41]⟩,⟨#[107,40,104,40,88,41,41]⟩,⟨#[104,40,104,40,88,41,41]⟩,⟨#[104,40,88,41]⟩],w.heap.size+1+1+1+1+1,by simp[Eq],rfl,b5,aa.o⟩
  |6,_=>have q:w1.cell? (zD (w.heap.size+1+1+1+1+1+1+1+1+1+1) 6)=some (.slice (some (zD (w.heap.size+1+1+1+1+1+1) 0)) 4 4):=a.o 6;go_wp2_with fail;go_meet;exact⟨[⟨#[102,40,97,44,98,41]⟩,⟨#[99]⟩,⟨#[97]⟩,⟨#[98]⟩],w.heap.size+1+1+1+1+1+1,by simp[Eq],rfl,b6,aa.o⟩
  |7,_=>have q:w1.cell? (zD (w.heap.size+1+1+1+1+1+1+1+1+1+1) 7)=some (.slice (some (zD (w.heap.size+1+1+1+1+1+1+1) 0)) 2 2):=a.o 7;go_wp2_with fail;go_meet;exact⟨[⟨#[103,40,88,44,89,41]⟩,⟨#[102,40,89,44,88,41]⟩],w.heap.size+1+1+1+1+1+1+1,by simp[Eq],rfl,b7,aa.o⟩
  |8,_=>have q:w1.cell? (zD (w.heap.size+1+1+1+1+1+1+1+1+1+1) 8)=some (.slice (some (zD (w.heap.size+1+1+1+1+1+1+1+1) 0)) 4 4):=a.o 8;go_wp2_with fail;go_meet;exact⟨[⟨#[104,40,97,41]⟩,⟨#[98]⟩,⟨#[104,40,97,41]⟩,⟨#[99]⟩],w.heap.size+1+1+1+1+1+1+1+1,by simp[Eq],rfl,b8,aa.o⟩
  |9,_=>have q:w1.cell? (zD (w.heap.size+1+1+1+1+1+1+1+1+1+1) 9)=some (.slice (some (zD (w.heap.size+1+1+1+1+1+1+1+1+1) 0)) 2 2):=a.o 9;go_wp2_with fail;go_meet;exact⟨[⟨#[102,40,88,44,103,40,89,44,90,41,41]⟩,⟨#[103,40,102,40,88,44,89,41,44,102,40,88,44,90,41,41]⟩],w.heap.size+1+1+1+1+1+1+1+1+1,by simp[Eq],rfl,b9,aa.o⟩
 obtain⟨l,B,g,rfl,R⟩:=hcut;have n:=Aa R;have r:=Aa (Ww l g);have h6:=(Ww l g).2.2;have HL:=Aa g;clear R g O P aa;go_wp2_with fail;go_loopw [5,6] (λu v wr=>pI l wc u v wr) (λu v wr=>l.length-(intOf v).toNat);case atStart=>exact⟨0,[],by omega,rfl,by simp[Du],rfl,Di.start _ _ _,Ag _ _⟩
 case round=>
  obtain⟨k,cs,hk,rfl,hcs,hlen,T,hb⟩:=hrel;have U:=Aa hcs;have s:=Aa T;have d:=Aa hb;have V:=Aa (n.o.later hb);clear hcs T;by_cases hlt:2*k+1<l.length
  ·have aK:=Aa (Wv k l hlt);have av:((2*k:Nat):Int)+1<(l.length:Int):=(by omega);have aL:((2*k:Nat):Int)<(l.length:Int):=(by omega);have d1:wr.cell? ⟨B,2*k,none⟩=some (.string (l[2*k]'(by omega))):=by rw[V.o.1.cell]; simp
   have y:=Aa (r.o.1 (l[2*k]'(by omega)) (AM _));have C:=Aa (r.o.1 l[2*k+1] (AM _));have D2:=Aa (show ∀D,Below wr.heap.size wr D->D.cell? ⟨B,2*k+1,none⟩=some (.string l[2*k+1]) from λD hx=>by rw[(V.o.later hx).1.cell]; simp);generalize l[2*k]=s1 at *;generalize l[2*k+1]=s2 at *;clear hb;go_wp2_with fail;refine(Wu s1 wr).mono ?_;rintro e w1 ⟨v1,rfl,ab,_,E⟩;obtain⟨a1,c1,rfl,Z⟩:=ab y.o;rw[y.o];clear ab y;generalize (GJ s1).t=t1 at *;have c:Below w1.heap.size w1 (w1.alloc (ze t1 a1 c1)):=(Ag _ _).alloc (Al _) _;have hb2:=E.trans (c.mono E.size);have F:=Aa (Ac.new w1 (zF t1 a1 c1) 31);have S2:=Aa (Z.later c);have m:=Aa hb2;have G:=Aa (d.o.trans (hb2.mono d.o.size));have d2:(w1.alloc (ze t1 a1 c1)).cell? ⟨B,2*k+1,none⟩=some (.string s2):=D2.o _ hb2;clear c E Z hb2 d1;go_wp2_with fail;clear d2;generalize w1.alloc (ze t1 a1 c1)=w2 at *;generalize w1.heap.size=A at *;refine(Wu s2 w2).mono ?_;rintro e w3 ⟨v3,rfl,ab,_,H⟩;obtain⟨a3,c3,rfl,aH⟩:=ab C.o;rw[C.o];clear ab C;generalize (GJ s2).t=t3 at *;have c:Below w3.heap.size w3 (w3.alloc (ze t3 a3 c3)):=(Ag _ _).alloc (Al _) _;have f:=H.trans (c.mono H.size);have B4:=Aa (Ac.new w3 (zF t3 a3 c3) 31);have A4:=Aa (F.o.below f F.o.lt);have S4:=Aa (S2.o.later f);have T4:=Aa ((aH.later c).mono (Y:=λb=>wr.heap.size<=b) λb hb _=>by have:=m.o.size; omega);have D4:=Aa (m.o.trans (f.mono m.o.size));have I:=Aa (G.o.trans (f.mono G.o.size));clear c H aH f F S2 m G;have p0:=A4.o.cell 0;have p1:=A4.o.cell 1;have q0:=B4.o.cell 0;have q1:=B4.o.cell 1;have ao:cs.length<=1000000:=(by omega);have a8:(w3.alloc (ze t3 a3 c3)).heap.size=w3.heap.size+1:=(by simp);obtain⟨v5,w5,hrun,ad,aI,_⟩:=PC s.o d.o.size (λ_ h=>h.elim) D4.o (⟨t1,t3⟩,(a1,c1),(a3,c3)) ⟨S4.o.mono λb hb _=>Ad hb,T4.o.mono λb hb _=>Ad hb⟩ ao (w3.heap.size+1) a8;have aA:=Aa hrun;have aq:=Aa ad;have ar:=s.o.own.lt;have aM:Hid (Below wc.heap.size wc w5):=(I.o.alloc I.o.size _).grown aI (by have:=I.o.size; simp at *; omega) (λj hj=>(ar j hj).1);have aB:Hid ((cs++[((⟨t1,t3⟩,(a1,c1),(a3,c3)):Pc)]).map (λx=>x.1)=Du (l.take (2*(k+1)))):=Aa (by rw[CI,U.o,show 2*(k+1)=2*k+2 by omega,aK.o];rfl);clear hrun ad aI ar;go_wp2_with (at_builtin; refine Gt rfl _ _ _ _ rfl rfl rfl aA.o ?_);go_roundw
   case rel=>exact⟨k+1,_,by omega,by simp; omega,aB.o,by simp; omega,aq.o,aM.o⟩
   case measure=>simp[intOf]; omega
  ·have aN:=r.o.2.1;have aO:Hid (l.take (2*k)=l):=BH (by omega);have av:¬((2*k:Nat):Int)+1<(l.length:Int):=(by omega);clear aN;go_wp2_with fail;go_ret;have aJ:=n.o.2.size;have h8:=U.o;rw[aO.o]at h8;exact⟨l,_,cs,wc.heap.size,rfl,HL.o,aJ,d.o.size,s.o,h8,by omega,n.o.2.trans (d.o.mono aJ)⟩
theorem NL (h:Br p=0):Av p.l=0/\Av p.r=0:=by
 unfold Br at h;split at h
 ·rename_i h1;unfold CJ at h1;split at h1
  ·rename_i h2;exact⟨h2,h1⟩
  ·rename_i h2;exact absurd h1 h2
 ·rename_i h1;exact absurd h h1
theorem pK (U:List Pr->Int×List Bd) {o n:Pr} (same:Bool) (ho:Av o.l=0/\Av o.r=0) (a:Av n.l=0/\Av n.r=0):(Id U o n same).length<=200:=by
 have h1:=List.length_filterMap_le (He U (AZ o n) same) (BB [] [] (AZ o n).1.l);have h2:(BB [] [] (AZ o n).1.l).length<=Ab [(AZ o n).1.l]:=by
  obtain⟨s,l⟩:=(AZ o n).1.l;unfold BB;have:=O6 l [] 0 (Bv []) ([]:List Int).tail;have e:Ab [(⟨s,l⟩:Tm)]=1+Ab l:=by simp[Ab]
  rw[e,Bg];simp only;omega
 have h3:=En (Nk ho a).1.1;unfold Id;omega
def Wz (U:List Pr->Int×List Bd) (rs:List Pr) (w:World) (i j:Nat) (v:Value) (wr:World):Prop:=
 ∃cs,Di wr w.heap.size (λ_=>False) v cs/\cs.length<=400/\Below w.heap.size w wr/\C2 U (DK rs.zipIdx i j) (cs.map (·.1))=CD U rs
def pL (U:List Pr->Int×List Bd) (rs:List Pr) (w:World) (e:Ending) (w':World):Prop:=
 Below w.heap.size w w'/\((Bl rs≠0/\e=.returned (.tuple #[zB,zA (Bl rs)]))∨(Bl rs=0/\(CD U rs).1≠0/\e=.returned (.tuple #[zB,zA (CD U rs).1]))∨
  (Bl rs=0/\(CD U rs).1=0/\∃v cs,e=.returned (.tuple #[v,zA 0])/\Di w' w.heap.size (λ_=>False) v cs/\cs.length<=400/\cs.map (·.1)=(CD U rs).2))
theorem pM (A:Nat) (U:List Pr->Int×List Bd) (N:∀ls,Cs ls=0->∃g,BG false g [] ls=some (U ls)) (O:∀ls,Cs ls=0->(U ls).1=0->IZ (U ls).2) (rs:List Pr) (u:Value) (w:World) (X:Nat->Prop) (hu:QV w X u rs) (P:Tb A w) (aL:A<=w.heap.size):
  Calls prog 18 #[u] w λe w'=>pL U rs w e w':=by
 have R:=Aa hu;have HT:=Aa P;have aM:=Aa N;have aN:=Aa O;obtain⟨ua,uc,rfl,aX,-⟩:=id hu;clear hu P N O;go_enter func18,ntmps18;go_wp2_with fail;refine(V7 rs _ w X R.o).mono ?_;rintro e w1 ⟨rfl,a1⟩;have T:=Aa a1;clear a1;by_cases a:Bl rs=0
 ·have c:=Aa a;rw[a];clear a;go_wp2_with fail;go_loopw [5,17] (λl f wr=>∃i,i<=rs.length/\f=zA i/\Wz U rs w i 0 l wr) (λl f wr=>rs.length-(intOf f).toNat);case atStart=>exact⟨0,Be _,rfl,[],Di.start _ _ _,by simp,T.o,rfl⟩
  case round=>
   obtain⟨i,hi,rfl,cs,B,V,W,hc⟩:=hrel;obtain⟨va,vc,rfl⟩:=Fs B.own;have Y:=Aa B;have Z:=Aa W;have HC:=Aa hc;have HL:=Aa V;clear B W hc V;by_cases m:i<rs.length
   ·have aO:(i:Int)<(rs.length:Int):=(by omega);go_wp2_with fail;go_loopw [5,22] (λl f wr=>∃j,j<=rs.length/\f=zA j/\Wz U rs w i j l wr) (λl f wr=>rs.length-(intOf f).toNat);case atStart=>exact⟨0,Be _,rfl,cs,Y.o,HL.o,Z.o,HC.o⟩
    case round=>
     obtain⟨j,hj,rfl,aa,C,n,BP,a7⟩:=hrel;obtain⟨aY,aZ,rfl⟩:=Fs C.own;have D:=Aa C;have ab:=Aa BP;have E:=Aa a7;have a8:=Aa n;clear C BP a7 n;by_cases r:j<rs.length
     ·have aP:(j:Int)<(rs.length:Int):=(by omega);have aA:=Aa (NL (G1 c.o rs[i] (AM m)));have aB:=Aa (NL (G1 c.o rs[j] (AM r)));have aC:Hid (DK rs.zipIdx i j=((rs[i],i),(rs[j],j))::DK rs.zipIdx i (j+1)):=Aa (by rw[mN _ i j (by simpa using m) (by simpa using r),Qf rs i m,Qf rs j r]);go_wp2_with fail;refine(oC A U aM.o aN.o rs i j m r _ _ X (R.o.later ab.o) aA.o aB.o (HT.o.on (ab.o.mono aL)) (by have:=ab.o.size; omega)).mono ?_;rintro e w3 ⟨s,ae⟩;have t:=Aa (ab.o.trans (s.mono ab.o.size));have aD:=Aa (D.o.below s);have aQ:=s.size;clear s;rcases ae with ⟨aE,v',x,rfl,F,G⟩|⟨y,rfl⟩
      ·have aR:x.length<=200:=(by have h1:=Cb List.length G;rw[EZ]at h1;rw[h1];exact pK U _ aA.o aB.o);have aF:=ab.o.size;have n:=a8.o;obtain⟨v2,w4,hrun,H,aG⟩:=Ws aD.o t.o.size (λ_ h=>h.elim) F aF (λb hb=>(D.o.own.lt b hb).2) (by omega);have af:=aD.o.own.lt;have aH:Hid (Below w.heap.size w w4):=t.o.grown aG t.o.size (λq hq=>(af q hq).1);have aS:=Aa H;obtain⟨a3,c3,rfl⟩:=Fs F.own;obtain⟨a4,c4,aI⟩:=Fs H.own;obtain⟨nl,I⟩:∃nl,nl=(aa++x).length:=⟨_,rfl⟩;rw[<-I]at aI;subst aI;have ag:=Aa hrun;have J:=Aa I;have aJ:Hid (¬GL U ((rs[i],i),(rs[j],j))):=λh=>by
        obtain⟨d,hd,y⟩:=h;exact aE d hd y
       have L:Hid ((aa++x).map (·.1)=aa.map (·.1)++FQ U ((rs[i],i),(rs[j],j))):=Aa (by rw[CI,G];rfl);clear hrun H aG af F G aE I n aF aR aQ;have z:Hid (C2 U (((rs[i],i),(rs[j],j))::DK rs.zipIdx i (j+1)) (aa.map (·.1))=CD U rs):=Aa (by rw[<-aC.o];exact E.o);by_cases aK:400<nl
       ·have aT:(400:Int)<(nl:Int):=(by omega);go_wp2_with (at_builtin; refine Gt rfl _ _ _ _ rfl rfl rfl ag.o ?_);refine Aq (v:=.tuple #[zB,zA 3]) (by simp[results,results18,go_sem]) rfl ?_;have h:=z.o;rw[Qe aJ.o (by rw[<-L.o,EZ,<-J.o]; exact aK)]at h;exact⟨aH.o,Ad (Ae ⟨c.o,by rw[<-h]; decide,by rw[<-h]⟩)⟩
       ·have aT:¬(400:Int)<(nl:Int):=(by omega);have aU:(nl:Int)<=400:=(by omega);go_wp2_with (at_builtin; refine Gt rfl _ _ _ _ rfl rfl rfl ag.o ?_);go_roundw
        case rel=>have h:=z.o;rw[NC aJ.o (by rw[<-L.o,EZ,<-J.o]; exact aK),<-L.o]at h;exact⟨j+1,by omega,by simp,aa++x,aS.o,by rw[<-J.o]; omega,aH.o,h⟩
        case measure=>simp[intOf]; omega
      ·have z:Hid ((8,[])=CD U rs):=(by have h:=E.o;rw[aC.o,Qd (by obtain⟨d,hd,h⟩:=y; exact⟨d,hd,h⟩)]at h;exact h);clear y;go_wp2_with fail;refine Aq (v:=.tuple #[zB,zA 8]) (by simp[results,results18,go_sem]) rfl ?_;have h:=z.o;exact⟨t.o,Ad (Ae ⟨c.o,by rw[<-h]; decide,by rw[<-h]⟩)⟩
     ·have aP:¬(j:Int)<(rs.length:Int):=(by omega);have ej:j=rs.length:=(by omega);have aV:Hid (C2 U (DK rs.zipIdx (i+1) 0) (aa.map (·.1))=CD U rs):=Aa (by rw[<-mO _ i (by simpa using m),VO,<-ej];exact E.o);clear ej;go_wp2_with fail;go_roundw
      case rel=>exact⟨i+1,by omega,by simp,aa,D.o,a8.o,ab.o,aV.o⟩
      case measure=>simp[intOf]; omega
   ·have aO:¬(i:Int)<(rs.length:Int):=(by omega);have ei:i=rs.length:=(by omega);have aW:Hid ((0,cs.map (·.1))=CD U rs):=by
     have h:C2 U (DK rs.zipIdx rs.zipIdx.length 0) (cs.map (·.1))=CD U rs:=by rw[VO,<-ei]; exact HC.o
     rw[mP,NA]at h;exact h
    clear ei;go_wp2_with fail;refine Aq (v:=.tuple #[.slice va cs.length vc,zA 0]) (by simp[results,results18,go_sem]) rfl ?_;have h:=aW.o;exact⟨Z.o,Ad (Ad ⟨c.o,by rw[<-h],_,cs,rfl,Y.o,HL.o,by rw[<-h]⟩)⟩
 ·obtain⟨k,M⟩:∃k,k=Bl rs:=⟨_,rfl⟩;rw[<-M]at a ⊢;have c:Hid (k=Bl rs/\k≠0):=⟨M,a⟩;have ba:(k !=0)=true:=by simp[a]
  clear M a;go_wp2_with fail;refine Aq (v:=.tuple #[zB,zA k]) (by simp[results,results18,go_sem]) rfl ?_;have h:=c.o;exact⟨T.o,Ae ⟨λq=>h.2 (h.1.trans q),by rw[h.1]⟩⟩
theorem WA (y:Nat) (U:List Pr->Int×List Bd) (G:∀ls,Cs ls=0->∃g,BG false g [] ls=some (U ls)) (H:∀ls,Cs ls=0->(U ls).1=0->IZ (U ls).2) (rs:List Pr) (k:Int) (u:Value) (w:World) (X:Nat->Prop) (hu:QV w X u rs) (I:Tb y w) (P:y<=w.heap.size):
  Calls prog 6 #[u,zA k] w λe w'=>e=.returned (.tuple #[.bool (Ep U rs k).1,zA (Ep U rs k).2])/\Below w.heap.size w w':=by
 have R:=Aa hu;have T:=Aa (pM y U G H rs u w X hu I P);obtain⟨ua,uc,rfl,aH,-⟩:=id hu;clear hu I G H;obtain⟨a,be,z⟩:∃a be,(a,be)=Ep U rs k:=⟨_,_,rfl⟩;rw[<-z];have ab:=Aa z;clear z;simp only;go_enter func6,ntmps6;go_wp2_with fail;refine T.o.mono ?_;rintro e w1 ⟨f,⟨h1,rfl⟩|⟨h1,h2,rfl⟩|⟨h1,h2,v,cs,rfl,hq,V,hm⟩⟩
 ·have aa:=Aa f;have c:Hid (a=false/\be=Bl rs):=(by have h:=ab.o;unfold Ep at h;rw[Ah h1]at h;exact⟨Cb Prod.fst h,Cb Prod.snd h⟩);generalize Bl rs=j at *;have W:(j !=0)=true:=by simp[h1]
  clear f h1 ab;go_wp2_with fail;refine Aq (v:=.tuple #[.bool false,zA j]) (by simp[results,results6,go_sem]) rfl ?_;obtain⟨rfl,rfl⟩:=c.o;exact⟨rfl,aa.o⟩
 ·have aa:=Aa f;have c:Hid (a=false/\be=(CD U rs).1):=(by have h:=ab.o;unfold Ep at h;rw[Ao h1,Ah h2]at h;exact⟨Cb Prod.fst h,Cb Prod.snd h⟩);generalize (CD U rs).1=j at *;have W:(j !=0)=true:=by simp[h2]
  clear f h1 h2 ab;go_wp2_with fail;refine Aq (v:=.tuple #[.bool false,zA j]) (by simp[results,results6,go_sem]) rfl ?_;obtain⟨rfl,rfl⟩:=c.o;exact⟨rfl,aa.o⟩
 ·have aa:=Aa f;have Y:=Aa hq;have Z:=Aa hm;have HR:=Aa h1;obtain⟨va,vc,rfl⟩:=Fs hq.own;by_cases hk:0<=k/\k<=400
  ·have c:Hid ((a,be)=DY rs k.toNat (cs.map (·.1))):=(by have h:=ab.o;unfold Ep at h;rw[Ao h1,Ao h2,Ao hk,<-hm]at h;exact h);obtain⟨m,rfl⟩:∃m:Nat,k=(m:Int):=⟨k.toNat,by omega⟩;have a6:Hid ((a,be)=DY rs m (cs.map (·.1))):=c.o;have a7:¬(m:Int)<0:=(by omega);have a8:¬(400:Int)<(m:Int):=(by omega);have aA:Hid (m<=400):=Aa (by omega);have aB:Hid (∀p∈cs.map (·.1),LQ p):=Aa (by rw[hm];exact oJ U rs);have J:=Aa hq.qv;have L:(cs.map (·.1)).length=cs.length:=(by simp);clear f h1 h2 hq hm ab c hk Z;go_wp2_with fail;generalize aC:cs.map (·.1)=ls at *;rw[<-L]at J V ⊢;clear L Y aC;go_loopw [28] (λA wr=>∃i,i<=ls.length/\A=zA i/\Below w1.heap.size w1 wr/\(a,be)=DY rs m (ls.drop i)) (λA wr=>ls.length-(intOf A).toNat);case atStart=>exact⟨0,Be _,rfl,Ag _ _,a6.o⟩
   case round=>
    obtain⟨i,hi,rfl,t,n⟩:=hrel;have q:=Aa t;have HJ:=Aa n;by_cases B:i<ls.length
    ·have aD:(i:Int)<(ls.length:Int):=(by omega);have aI:(i:Int)<=400:=(by omega);obtain⟨b,o,a1,c1,a2,c2,hva,p0,p1,p2,p3,s1,s2⟩:=(J.o.later t).get i B;subst hva;have aE:=Aa s1;have aF:=Aa s2;have M:=Aa (aB.o ls[i] (AM B));have N:Hid ((a,be)=DY rs m (ls[i]::ls.drop (i+1))):=Aa (by rw[<-Jx B];exact n);clear t n s1 s2;go_wp2_with fail;rename_i wr;refine(Wn rs (G1 HR.o) ls[i].l ls[i].r m _ a1 a2 c1 c2 _ (λ_=>True) (((R.o.later aa.o).later q.o).mono (λ_ _ _=>trivial) |>.alloc _) ((aE.o.later ((Ag _ _).alloc (Al _) _)).mono λ_ _ _=>trivial) ((aF.o.later ((Ag _ _).alloc (Al _) _)).mono λ_ _ _=>trivial) M.o.1 M.o.2 aA.o).mono ?_;rintro e w3 ⟨rfl,O⟩;have C:Hid (Below w1.heap.size w1 w3):=(q.o.alloc q.o.size _).trans (O.mono (by have:=q.o.size; simp; omega));clear O p0 p1 p2 p3;obtain⟨x,d,D⟩:∃x d,(x,d)=C3 rs m ls[i].l ls[i].r:=⟨_,_,rfl⟩;have s:Hid ((a,be)=if x=true/\d=0 then DY rs m (ls.drop (i+1)) else (false,d)):=(by have h:=N.o;rw[DY,<-D]at h;exact h);rw[<-D];clear D N;simp only;cases x with
     |false=>go_wp2_with fail;refine Aq (v:=.tuple #[.bool false,zA d]) (by simp[results,results6,go_sem]) rfl ?_;have h:=s.o;simp at h;obtain⟨rfl,rfl⟩:=h;exact⟨rfl,aa.o.trans (C.o.mono aa.o.size)⟩
     |true=>
      by_cases E:d=0
      ·subst E;have F:Hid ((a,be)=DY rs m (ls.drop (i+1))):=Aa (by have h:=s.o;simpa using h);clear s;go_wp2_with fail;go_roundw
       case rel=>exact⟨i+1,by omega,by simp,C.o,F.o⟩
       case measure=>simp[intOf]; omega
      ·have F:Hid ((a,be)=(false,d)):=by have h:=s.o; rw[Ah (by simp[E])] at h; exact h
       have aJ:(d !=0)=true:=(by simp[E]);clear s;go_wp2_with fail;refine Aq (v:=.tuple #[.bool false,zA d]) (by simp[results,results6,go_sem]) rfl ?_;have h:=F.o;simp at h;obtain⟨rfl,rfl⟩:=h;exact⟨rfl,aa.o.trans (C.o.mono aa.o.size)⟩
    ·have aD:¬(i:Int)<(ls.length:Int):=(by omega);have aG:Hid ((a,be)=(true,0)):=Aa (by rw[n,N4 (by omega),DY]);clear t n;go_wp2_with fail;refine Aq (v:=.tuple #[.bool true,zA 0]) (by simp[results,results6,go_sem]) rfl ?_;have h:=aG.o;simp at h;obtain⟨rfl,rfl⟩:=h;exact⟨rfl,aa.o.trans (q.o.mono aa.o.size)⟩
  ·have c:Hid (a=false/\be=10):=(by have h:=ab.o;unfold Ep at h;rw[Ao h1,Ao h2,Ah hk]at h;exact⟨Cb Prod.fst h,Cb Prod.snd h⟩);clear f h1 h2 hq hm ab;by_cases a7:k<0
   ·go_wp2_with fail;refine Aq (v:=.tuple #[.bool false,zA 10]) (by simp[results,results6,go_sem]) rfl ?_;obtain⟨rfl,rfl⟩:=c.o;exact⟨rfl,aa.o⟩
   ·have a8:400<k:=(by omega);go_wp2_with fail;refine Aq (v:=.tuple #[.bool false,zA 10]) (by simp[results,results6,go_sem]) rfl ?_;obtain⟨rfl,rfl⟩:=c.o;exact⟨rfl,aa.o⟩
