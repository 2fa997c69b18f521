import Derived.Test.YtacmmcnnhfmepaaGreatDoorZGLongMadeOwn
import Derived.Deep.RegionHeld3
namespace Go.Proofs.YtacmmcnnhfmepaaGreatDoor
set_option linter.all false
set_option maxRecDepth 9999
set_option maxHeartbeats 0
open Go.RowKit Go.Proofs.Tryz
variable {w w1 w3 wr:World} {O b c i n o:Nat} {s s1:ByteArray} {a:Option Addr} {v1:Value}
def VA (w:World) (X:Nat->Prop) (t:Tm) (e:Ending) (w':World):Prop:=
 ∃a c,e=.returned (.agg (zG t a c))/\Sl w' (λb=>(X b/\b<w.heap.size)∨w.heap.size<=b) a t.args/\Below w.heap.size w w'
def CX (w:World) (b o:Nat) (s:ByteArray) (a:Option Addr) (n c:Nat) (s1:ByteArray) (v1:Value) (w':World):Prop:=
 Ab w' w.heap.size #[.string s,.slice a n c] 61/\w'.cell? (zD b o)=some (.string s1)/\w'.cell? ⟨b,o+1,none⟩=some v1
theorem Iy {w':World} {v:Value} (hb:w'.heap[b]? = w.heap[b]?) (h:w.cell? (zD b i)=some v):w'.cell? (zD b i)=some v:=by simpa [World.cell?,hb] using h
theorem CX.below (h:CX w b o s a n c s1 v1 wr) (hb:Below wr.heap.size wr w1) (d:w.heap.size<wr.heap.size/\b<wr.heap.size):CX w b o s a n c s1 v1 w1:=
 ⟨h.1.below hb d.1,Iy (hb.block b d.2) h.2.1,Iy (hb.block b d.2) h.2.2⟩
theorem CX.alloc (h:CX w b o s a n c s1 v1 wr) (x:Obj):CX w b o s a n c s1 v1 (wr.alloc x):=
 ⟨h.1.alloc x,Iy (BL _ _ _ (Es h.2.1)) h.2.1,Iy (BL _ _ _ (Es h.2.1)) h.2.2⟩
theorem CX.grown {row:Option Nat} (h:CX w b o s a n c s1 v1 wr) (d:wr.grownBy w3 row) (e:∀j,j<=w.heap.size->some j≠row) (hb:b<w.heap.size) (_:True):CX w b o s a n c s1 v1 w3:=
 ⟨h.1.grown d (e _ (Af _)),Iy (d.block b (Es h.2.1) (e b (by omega))) h.2.1,Iy (d.block b (Es h.2.1) (e b (by omega))) h.2.2⟩
theorem CX.set (h:CX w b o s a n c s1 v1 wr) (v:Value) (_:True) (d:w.heap.size≠O) (hb:b≠O):CX w b o s a n c s1 v1 (wr.setCell (zD O i) v):=
 ⟨h.1.setOther _ _ d,Iy (Ak _ _ _ _ (by simpa using hb)) h.2.1,Iy (Ak _ _ _ _ (by simpa using hb)) h.2.2⟩
theorem VB {X:Nat->Prop} {l:List Tm} (h:Sl w X (some (zD b o)) l) (a:0<l.length):b<w.heap.size:=by
 obtain⟨_,h⟩:=h;rcases h with rfl|⟨b',o',e,h⟩
 ·simp at a
 ·simp at e;obtain⟨rfl,rfl⟩:=e;exact Es (Lu l b o h 0 a).2.1
def VC (w:World) (Y:Nat->Prop) (O:Nat) (s:ByteArray) (a:Option Addr) (n c:Nat) (u:Value) (L:List Tm) (wr:World):Prop:=
 ∃xs,Cp wr (O+1) 61 Y u L xs/\Below w.heap.size w wr/\Ab wr w.heap.size #[.string s,.slice a n c] 61/\Ab wr (w.heap.size+1) ze 61/\Ab wr O #[.string s,u] 61/\O<wr.heap.size
def VD (w:World) (Y:Nat->Prop) (O:Nat) (s:ByteArray) (a:Option Addr) (c:Nat) (ls:List Bd) (l:List Tm) (i:Value) (wr:World):Prop:=
 ∃(k:Nat) (u:Value),k<=l.length/\i=zA k/\VC w Y O s a l.length c u (An ls (l.take k)) wr
theorem JY {Y:Nat->Prop} {u:Value} {L:List Tm} {xs:List Value} {d:Obj} {s':ByteArray} {l:Option Addr} {m c1 g cap:Nat} {t:Tm} (hO:w.heap.size+2<=O) (o:∀b,Y b->b<w.heap.size)
  (q:Cp wr (O+1) 61 Y u L xs) (hx:Below w.heap.size w wr) (hT:Ab wr w.heap.size #[.string s,.slice a n c] 61) (x:Ab wr (w.heap.size+1) ze 61) (r:Ab wr O #[.string s,u] 61)
  (f:Below wr.heap.size wr w1) (ht:TV w1 (λb=>Y b∨wr.heap.size<=b) (.agg #[.string s',.slice l m c1]) t)
  (y:w3.ownsRow (O+1) 61 2 (.slice (some (zD g 0)) (L.length+1) cap) (L.length+1) (xs++[.string s',.slice l m c1])) (i:(w1.alloc d).grownBy w3 u.ownBlock) (z:u.ownBlock=some g∨g=(w1.alloc d).heap.size):
  VC w Y O s a n c (.slice (some (zD g 0)) (L.length+1) cap) (L++[t]) (w3.setCell (zD O 1) (.slice (some (zD g 0)) (L.length+1) cap)):=by
 have v:=q.own.lt;have aj:=r.lt;have hp:=q.push (w1:=w1) (w2:=w1.alloc d) (w3:=w3) (by omega) (λb h=>by have:=o b h; omega) f ht d rfl y i z;have j:∀b,b<O+1->some b≠u.ownBlock:=λb hb e=>by have:=(v b e.symm).1; omega
 have ak:=f.size;have al:=hx.size;have A:Below w.heap.size w w3:=((hx.trans (f.mono (by omega))).alloc (by omega) d).grown i (by simp; omega) (λk hk=>by have:=(v k hk).1; omega);have B:=i.size;simp at B;refine⟨_,hp.setCell (by omega) (λh=>by have:=o _ h; omega) _,A.setCell (p:=(zD O 1)) (by simp; omega) _,?_,?_,?_,by simp[World.setCell]; omega⟩
 ·exact(((hT.below f (by omega)).alloc d).grown i (j _ (by omega))).setOther _ _ (by omega)
 ·exact(((x.below f (by omega)).alloc d).grown i (j _ (by omega))).setOther _ _ (by omega)
 ·exact(((r.below f (by omega)).alloc d).grown i (j _ (by omega))).set 1 _
theorem pH (ls:List Bd) (t:Tm):∀(u v:Value) (w:World) (X Z:Nat->Prop),BV w Z u ls->TV w X v t->Ah [t]<=1000000->
  Calls prog 50 #[u,v] w λe w'=>VA w Z (Ag ls t) e w':=by
 induction t using Tm.ind with
 |h s l ih=>
  intro u v w X Z hu hv aQ;obtain⟨a,c,rfl,hs⟩:=hv;have IH:=Aa ih;have HU:=Aa hu;have HS:=Aa hs;have hl:=hs.1;have hz:Ah [(⟨s,l⟩:Tm)]=1+Ah l:=by simp[Ah]
  rw[hz]at aQ;have hlen:=Ie l;clear ih hu hs hz;obtain⟨i0,aB,aC,aD,aE⟩:=Dw Tryz.infoTerm;go_in;go_wp2_with fail;refine(UW ls s u _ (λb=>Z b/\b<w.heap.size) (by exact((HU.o.mono λb h1 h2=>⟨h1,h2⟩).alloc _).alloc _)).mono ?_;rintro e w1 ⟨f,aF⟩;have T1:=Aa (((Ab.new w #[.string s,.slice a l.length c] 61).alloc zd).below f (by simp; omega));have W:Hid (Ab w1 (w.heap.size+1) ze 61):=by
   have h:=(Ab.new (w.alloc (zp #[.string s,.slice a l.length c] 61)) ze 61).below f (by simp);unfold Hid;simpa using h
  have B1:=Aa ((((Ac w.heap.size w).alloc (Af _) (.cells #[.string s,.slice a l.length c] 61)).alloc (by simp) zd).trans (f.mono (by simp; omega)));have aR:w.heap.size<w1.heap.size:=T1.o.lt;have aG:w.heap.size+1<w1.heap.size:=W.o.lt;clear f;have t0:∀o,(w1.alloc o).cell? (zD w.heap.size 0)=some (.string s):=λo=>(T1.o.alloc o).cell 0;have t1:∀o,(w1.alloc o).cell? (zD w.heap.size 1)=some (.slice a l.length c):=λo=>(T1.o.alloc o).cell 1;rcases aF with ⟨x,N,P,hf,rfl,aN⟩|⟨hf,rfl⟩
  ·by_cases aO:l=[]
   ·subst aO;have HF:=Aa (IJ hf);have SX:=Aa aN;clear hf aN;have r0:=W.o.c0;have r1:=W.o.c1;have rf:=W.o.frozen;go_wp2_with fail;refine Ao (v:=.agg (zG x N P)) (by simp[results,results50,go_sem,AL,AE,r0,r1,aG,EI]) rfl ?_;rw[HF.o];refine⟨N,P,rfl,?_,((B1.o.setCell (by simp) _).setCell (by simp) _).alloc (by have:=B1.o.size; simpa [World.setCell] using this) _⟩;refine((SX.o.mono (Y:=λb=>Z b/\b<w.heap.size) λb h1 _=>h1.1).kept λb hb=>?_).mono λb hb _=>Ad hb;rw[BL _ _ _ (by simp[World.setCell]; omega),Ak _ _ _ _ (by simp; omega),Ak _ _ _ _ (by simp; omega)]
   ·have HD:Hid (Ag ls ⟨s,l⟩=⟨s,An ls l⟩):=Hc (Ad aO);have aS:((l.length:Int)==0)=false:=Dx.2 (by have:=GY.2 aO; omega);clear hf aN;go_wp2_with fail;have T3:=Aa ((T1.o.alloc (zh x N P)).alloc (zp #[.string s,zB] 61));have R3:=Aa ((W.o.alloc (zh x N P)).alloc (zp #[.string s,zB] 61));have O3:=Aa (Ab.new (w1.alloc (zh x N P)) #[.string s,zB] 61);have B3:=Aa ((B1.o.alloc B1.o.size (zh x N P)).alloc (by have:=B1.o.size; simp; omega) (.cells #[.string s,zB] 61));have aH:=Aa (O3.o.lt);have R:w.heap.size+2<=(w1.alloc (zh x N P)).heap.size:=by have:=W.o.lt; simp; omega
    have eO:(w1.alloc (zh x N P)).heap.size=w1.heap.size+1:=(by simp);rw[eO]at O3 aH R;clear eO;generalize (w1.alloc (zh x N P)).alloc (zp #[.string s,zB] 61)=w3 at *;generalize w1.heap.size+1=O at *;clear t0 t1;have hY:∀b,(Z b/\b<w.heap.size)->b<w.heap.size:=λb h=>h.2;go_loopw [8] (λi wr=>VD w (λb=>Z b/\b<w.heap.size) O s a c ls l i wr) (λi wr=>l.length-(intOf i).toNat);case atStart=>exact⟨0,zB,Bp _,rfl,[],by have h:=Cp.start w3 (O+1) 61 (λb=>Z b/\b<w.heap.size); simpa [An] using h,B3.o,T3.o,R3.o,O3.o,aH.o⟩
    case round=>
     obtain⟨k,u9,hk,rfl,xs,ak,aI,hT,hR,aJ,D⟩:=hrel;have q:=Aa ak;have F:=Aa aI;have A:=Aa hT;have G:=Aa hR;have y:=Aa aJ;clear ak aI hT hR aJ;have c0:=A.o.c0;have c1:=A.o.c1;have o0:=y.o.c0;have o1:wr.cell? (zD O 1)=some u9:=y.o.cell 1;by_cases E:k<l.length
     ·obtain⟨b,o,a',c',rfl,d0,d1,hx⟩:=(HS.o.mono (Y:=λb=>X b/\b<w.heap.size) λb h1 h2=>⟨h1,h2⟩).get F.o (λb h _=>h.2) k E;have HX:=Aa hx;have ay:b<w.heap.size:=VB HS.o (Nat.lt_of_le_of_lt (Bp k) E);have az:Ah [l[k]]<=1000000:=by
       have:=Id l k E;have:=Ji l (k+1);omega
      have a6:(An ls (l.take k)).length=k:=by rw[Jl]; simp; omega
      have aK:Hid (Calls prog 50 #[u,.agg (zG l[k] a' c')] wr.drew λe a7=>∃m c1,e=.returned (.agg #[.string (Ag ls l[k]).name,.slice m (Ag ls l[k]).args.length c1])/\Sl a7 (λb=>(Z b/\b<w.heap.size)∨wr.heap.size<=b) m (Ag ls l[k]).args/\Below wr.heap.size wr a7):=(IH.o l[k] (Bv E) u _ wr.drew (λb=>X b/\b<w.heap.size) (λb=>Z b/\b<w.heap.size) ((HU.o.mono λb h1 h2=>⟨h1,h2⟩).later (F.o.drew)) (HX.o.later ((Ac wr.heap.size wr).drew)) az).mono λe a7 hp=>by
       obtain⟨m,c1,h1,h2,h3⟩:=hp;exact⟨m,c1,h1,h2.mono (λb hb _=>hb.imp (λh=>h.1) id),((Ac wr.heap.size wr).drew).trans h3⟩
      have a8:Hid (∀m c1,∀x∈[Value.string (Ag ls l[k]).name,Value.slice m (Ag ls l[k]).args.length c1],x.oneCell'=true):=λm c1 x hx=>by simp at hx; rcases hx with rfl|rfl<;>rfl
      have H:Hid ((An ls (l.take k)).length+1<=maxLen/\((An ls (l.take k)).length+1)*40<=140737488355328):=⟨by rw[a6]; unfold maxLen; omega,by rw[a6]; omega⟩;clear a6;have aL:Hid (w.heap.size<wr.heap.size/\b<wr.heap.size):=⟨A.o.lt,by have:=A.o.lt; omega⟩;have aA:Hid (CX w b (o+k*2) s (some (zD b o)) l.length c l[k].name (.slice a' l[k].args.length c') wr):=⟨A.o,d0,d1⟩;go_wp2_with fail;refine Co (S:=CX w b (o+k*2) s (some (zD b o)) l.length c l[k].name (.slice a' l[k].args.length c')) (by kernel_rfl) (by exact aA.o) λhH=>?_;refine tkz 0 ?_;refine tkz 2 ?_;refine tkz 3 ?_;refine tkz 5 ?_;refine tkz 4 ?_ (hy:=by intro w' ar;have k1:w'.cell? (zD w.heap.size 1)=some (.slice (some (zD b o)) l.length c):=ar.1.cell 1;go_simp<;>with_reducible rfl);refine tkz 6 ?_;refine tkz 7 ?_ (hy:=by intro w' ar;have k2:=ar.2.1;have k3:=ar.2.2;go_simp<;>with_reducible rfl);refine Bw (rs:=[1,8]) (by kernel_rfl) (by simp) ?_;refine Ax rfl (λK d=>?_) (Ax rfl (λK d=>?_) Bx)
      ·go_simp;refine zo d (by exact hH) λhH=>?_;clear d K;refine rdq 8 rfl λK d=>?_
       ·go_simp;go_at_call 50;refine aK.o.mono ?_;rintro e w1 ⟨m,c1,rfl,T,f⟩;have U:∀o,(w1.alloc o).cell? (zD O 1)=some u9:=λo=>((y.o.below f D).alloc o).cell 1;have V:w1.cell? (zD O 1)=some u9:=(y.o.below f D).cell 1;go_simp;refine zo d (by exact CX.below aA.o f aL.o) λhH=>?_;clear d K;refine rdq 9 rfl λK d=>?_
        ·go_simp;refine zo d (by exact hH.alloc _) λhH=>?_;clear d K;refine rdq 10 rfl λK d=>?_
         ·refine step_append_lies _ rfl _ _ 59 rfl (O+1) 61 i0 _ 2 40 underlying59 aB aC aD aE rfl (by decide) u9 (An ls (l.take k)).length xs rfl (by exact(q.o.below f).own.alloc _) (zD w1.heap.size 0) 1 1 [.string (Ag ls l[k]).name,.slice m (Ag ls l[k]).args.length c1] rfl rfl (cell_two_new _ _ _ _) (a8.o m c1) (by decide) H.o.1 H.o.2 (by have:=f.size; simp; omega) _ rfl ?_;intro g cap w3 B r C I;have z:=Aa (((y.o.below f D).alloc _).grown r (q.o.ne (DC _)));have J:w3.cell? (zD O 1)=some u9:=z.o.cell 1;have L:=z.o.frozen 1;have M:=Aa (JY (c:=c) (n:=l.length) (a:=some (zD b o)) R hY q.o F.o A.o G.o y.o f ⟨m,c1,rfl,T⟩ B r C);refine zo d (by exact CX.grown hH r (λj hj=>q.o.ne (by omega)) ay trivial) λhH=>?_;clear d K;refine tkz 11 ?_;refine rdq 12 rfl λK d=>?_
          ·go_simp;refine zo d (by exact CX.set hH _ trivial (by omega) (by omega)) λhH=>?_;clear d K;refine dnq ?_;clear U V J L B r C I z hH;go_wp2_with fail;go_roundw
           case rel=>refine⟨k+1,.slice (some (zD g 0)) ((An ls (l.take k)).length+1) cap,by omega,by go_num,?_⟩;rw[II ls l k E];exact M.o
           case measure=>simp[intOf]; omega
      ·go_simp;go_at_call 50;refine aK.o.mono ?_;rintro e w1 ⟨m,c1,rfl,T,f⟩;have U:∀o,(w1.alloc o).cell? (zD O 1)=some u9:=λo=>((y.o.below f D).alloc o).cell 1;have V:w1.cell? (zD O 1)=some u9:=(y.o.below f D).cell 1;go_simp;refine zo d (by exact CX.below aA.o f aL.o) λhH=>?_;clear d K;refine Bw (rs:=[1,9]) (by kernel_rfl) (by simp) ?_;refine Ax rfl (λK d=>?_) (Ax rfl (λK d=>?_) Bx)
       ·go_simp;refine zo d (by exact hH) λhH=>?_;clear d K;refine rdq 9 rfl λK d=>?_
        ·go_simp;refine zo d (by exact hH.alloc _) λhH=>?_;clear d K;refine rdq 10 rfl λK d=>?_
         ·refine step_append_lies _ rfl _ _ 59 rfl (O+1) 61 i0 _ 2 40 underlying59 aB aC aD aE rfl (by decide) u9 (An ls (l.take k)).length xs rfl (by exact(q.o.below f).own.alloc _) (zD w1.heap.size 0) 1 1 [.string (Ag ls l[k]).name,.slice m (Ag ls l[k]).args.length c1] rfl rfl (cell_two_new _ _ _ _) (a8.o m c1) (by decide) H.o.1 H.o.2 (by have:=f.size; simp; omega) _ rfl ?_;intro g cap w3 B r C I;have z:=Aa (((y.o.below f D).alloc _).grown r (q.o.ne (DC _)));have J:w3.cell? (zD O 1)=some u9:=z.o.cell 1;have L:=z.o.frozen 1;have M:=Aa (JY (c:=c) (n:=l.length) (a:=some (zD b o)) R hY q.o F.o A.o G.o y.o f ⟨m,c1,rfl,T⟩ B r C);refine zo d (by exact CX.grown hH r (λj hj=>q.o.ne (by omega)) ay trivial) λhH=>?_;clear d K;refine tkz 11 ?_;refine rdq 12 rfl λK d=>?_
          ·go_simp;refine zo d (by exact CX.set hH _ trivial (by omega) (by omega)) λhH=>?_;clear d K;refine dnq ?_;clear U V J L B r C I z hH;go_wp2_with fail;go_roundw
           case rel=>refine⟨k+1,.slice (some (zD g 0)) ((An ls (l.take k)).length+1) cap,by omega,by go_num,?_⟩;rw[II ls l k E];exact M.o
           case measure=>simp[intOf]; omega
       ·go_simp;refine zo d (by exact hH.alloc _) λhH=>?_;clear d K;refine rdq 1 rfl λK d=>?_
        ·go_simp;refine zo d (by exact hH) λhH=>?_;clear d K;refine rdq 10 rfl λK d=>?_
         ·refine step_append_lies _ rfl _ _ 59 rfl (O+1) 61 i0 _ 2 40 underlying59 aB aC aD aE rfl (by decide) u9 (An ls (l.take k)).length xs rfl (by exact(q.o.below f).own.alloc _) (zD w1.heap.size 0) 1 1 [.string (Ag ls l[k]).name,.slice m (Ag ls l[k]).args.length c1] rfl rfl (cell_two_new _ _ _ _) (a8.o m c1) (by decide) H.o.1 H.o.2 (by have:=f.size; simp; omega) _ rfl ?_;intro g cap w3 B r C I;have z:=Aa (((y.o.below f D).alloc _).grown r (q.o.ne (DC _)));have J:w3.cell? (zD O 1)=some u9:=z.o.cell 1;have L:=z.o.frozen 1;have M:=Aa (JY (c:=c) (n:=l.length) (a:=some (zD b o)) R hY q.o F.o A.o G.o y.o f ⟨m,c1,rfl,T⟩ B r C);refine zo d (by exact CX.grown hH r (λj hj=>q.o.ne (by omega)) ay trivial) λhH=>?_;clear d K;refine tkz 11 ?_;refine rdq 12 rfl λK d=>?_
          ·go_simp;refine zo d (by exact CX.set hH _ trivial (by omega) (by omega)) λhH=>?_;clear d K;refine dnq ?_;clear U V J L B r C I z hH;go_wp2_with fail;go_roundw
           case rel=>refine⟨k+1,.slice (some (zD g 0)) ((An ls (l.take k)).length+1) cap,by omega,by go_num,?_⟩;rw[II ls l k E];exact M.o
           case measure=>simp[intOf]; omega
     ·have aM:l.take k=l:=Bz (by omega);rw[aM]at q;obtain⟨a9,c9,aP,ao⟩:=q.o.sl;subst aP;have S9:=Aa ao;have r0:=G.o.c0;have r1:=G.o.c1;have rf:=G.o.frozen;clear ao aM;go_wp2_with fail;refine Ao (v:=.agg #[.string s,.slice a9 (An ls l).length c9]) (by simp[results,results50,go_sem,AL,AE,r0,r1]) rfl ?_;rw[HD.o];refine⟨a9,c9,rfl,(S9.o.kept λb hb=>?_).mono λb hb _=>hb.imp id (λh=>by omega),(F.o.setCell (by simp) _).setCell (by simp) _⟩;have aq:b≠w.heap.size+1:=by
       rcases hb with h|h
       ·have:=h.2; omega
       ·omega
      rw[Ak _ _ _ _ (by simpa using aq),Ak _ _ _ _ (by simpa using aq)]
  ·have HD:Hid (Ag ls ⟨s,l⟩=⟨s,An ls l⟩):=Hc (Ae hf);clear hf;go_wp2_with fail;have T3:=Aa ((T1.o.alloc zd).alloc (zp #[.string s,zB] 61));have R3:=Aa ((W.o.alloc zd).alloc (zp #[.string s,zB] 61));have O3:=Aa (Ab.new (w1.alloc zd) #[.string s,zB] 61);have B3:=Aa ((B1.o.alloc B1.o.size zd).alloc (by have:=B1.o.size; simp; omega) (.cells #[.string s,zB] 61));have aH:=Aa (O3.o.lt);have R:w.heap.size+2<=(w1.alloc zd).heap.size:=by have:=W.o.lt; simp; omega
   have eO:(w1.alloc zd).heap.size=w1.heap.size+1:=(by simp);rw[eO]at O3 aH R;clear eO;generalize (w1.alloc zd).alloc (zp #[.string s,zB] 61)=w3 at *;generalize w1.heap.size+1=O at *;clear t0 t1;have hY:∀b,(Z b/\b<w.heap.size)->b<w.heap.size:=λb h=>h.2;go_loopw [8] (λi wr=>VD w (λb=>Z b/\b<w.heap.size) O s a c ls l i wr) (λi wr=>l.length-(intOf i).toNat);case atStart=>exact⟨0,zB,Bp _,rfl,[],by have h:=Cp.start w3 (O+1) 61 (λb=>Z b/\b<w.heap.size); simpa [An] using h,B3.o,T3.o,R3.o,O3.o,aH.o⟩
   case round=>
    obtain⟨k,u9,hk,rfl,xs,ak,aI,hT,hR,aJ,D⟩:=hrel;have q:=Aa ak;have F:=Aa aI;have A:=Aa hT;have G:=Aa hR;have y:=Aa aJ;clear ak aI hT hR aJ;have c0:=A.o.c0;have c1:=A.o.c1;have o0:=y.o.c0;have o1:wr.cell? (zD O 1)=some u9:=y.o.cell 1;by_cases E:k<l.length
    ·obtain⟨b,o,a',c',rfl,d0,d1,hx⟩:=(HS.o.mono (Y:=λb=>X b/\b<w.heap.size) λb h1 h2=>⟨h1,h2⟩).get F.o (λb h _=>h.2) k E;have HX:=Aa hx;have ay:b<w.heap.size:=VB HS.o (Nat.lt_of_le_of_lt (Bp k) E);have az:Ah [l[k]]<=1000000:=by
      have:=Id l k E;have:=Ji l (k+1);omega
     have a6:(An ls (l.take k)).length=k:=by rw[Jl]; simp; omega
     have aK:Hid (Calls prog 50 #[u,.agg (zG l[k] a' c')] wr.drew λe a7=>∃m c1,e=.returned (.agg #[.string (Ag ls l[k]).name,.slice m (Ag ls l[k]).args.length c1])/\Sl a7 (λb=>(Z b/\b<w.heap.size)∨wr.heap.size<=b) m (Ag ls l[k]).args/\Below wr.heap.size wr a7):=(IH.o l[k] (Bv E) u _ wr.drew (λb=>X b/\b<w.heap.size) (λb=>Z b/\b<w.heap.size) ((HU.o.mono λb h1 h2=>⟨h1,h2⟩).later (F.o.drew)) (HX.o.later ((Ac wr.heap.size wr).drew)) az).mono λe a7 hp=>by
      obtain⟨m,c1,h1,h2,h3⟩:=hp;exact⟨m,c1,h1,h2.mono (λb hb _=>hb.imp (λh=>h.1) id),((Ac wr.heap.size wr).drew).trans h3⟩
     have a8:Hid (∀m c1,∀x∈[Value.string (Ag ls l[k]).name,Value.slice m (Ag ls l[k]).args.length c1],x.oneCell'=true):=λm c1 x hx=>by simp at hx; rcases hx with rfl|rfl<;>rfl
     have H:Hid ((An ls (l.take k)).length+1<=maxLen/\((An ls (l.take k)).length+1)*40<=140737488355328):=⟨by rw[a6]; unfold maxLen; omega,by rw[a6]; omega⟩;clear a6;have aL:Hid (w.heap.size<wr.heap.size/\b<wr.heap.size):=⟨A.o.lt,by have:=A.o.lt; omega⟩;have aA:Hid (CX w b (o+k*2) s (some (zD b o)) l.length c l[k].name (.slice a' l[k].args.length c') wr):=⟨A.o,d0,d1⟩;go_wp2_with fail;refine Co (S:=CX w b (o+k*2) s (some (zD b o)) l.length c l[k].name (.slice a' l[k].args.length c')) (by kernel_rfl) (by exact aA.o) λhH=>?_;refine tkz 0 ?_;refine tkz 2 ?_;refine tkz 3 ?_;refine tkz 5 ?_;refine tkz 4 ?_ (hy:=by intro w' ar;have k1:w'.cell? (zD w.heap.size 1)=some (.slice (some (zD b o)) l.length c):=ar.1.cell 1;go_simp<;>with_reducible rfl);refine tkz 6 ?_;refine tkz 7 ?_ (hy:=by intro w' ar;have k2:=ar.2.1;have k3:=ar.2.2;go_simp<;>with_reducible rfl);refine Bw (rs:=[1,8]) (by kernel_rfl) (by simp) ?_;refine Ax rfl (λK d=>?_) (Ax rfl (λK d=>?_) Bx)
     ·go_simp;refine zo d (by exact hH) λhH=>?_;clear d K;refine rdq 8 rfl λK d=>?_
      ·go_simp;go_at_call 50;refine aK.o.mono ?_;rintro e w1 ⟨m,c1,rfl,T,f⟩;have U:∀o,(w1.alloc o).cell? (zD O 1)=some u9:=λo=>((y.o.below f D).alloc o).cell 1;have V:w1.cell? (zD O 1)=some u9:=(y.o.below f D).cell 1;go_simp;refine zo d (by exact CX.below aA.o f aL.o) λhH=>?_;clear d K;refine rdq 9 rfl λK d=>?_
       ·go_simp;refine zo d (by exact hH.alloc _) λhH=>?_;clear d K;refine rdq 10 rfl λK d=>?_
        ·refine step_append_lies _ rfl _ _ 59 rfl (O+1) 61 i0 _ 2 40 underlying59 aB aC aD aE rfl (by decide) u9 (An ls (l.take k)).length xs rfl (by exact(q.o.below f).own.alloc _) (zD w1.heap.size 0) 1 1 [.string (Ag ls l[k]).name,.slice m (Ag ls l[k]).args.length c1] rfl rfl (cell_two_new _ _ _ _) (a8.o m c1) (by decide) H.o.1 H.o.2 (by have:=f.size; simp; omega) _ rfl ?_;intro g cap w3 B r C I;have z:=Aa (((y.o.below f D).alloc _).grown r (q.o.ne (DC _)));have J:w3.cell? (zD O 1)=some u9:=z.o.cell 1;have L:=z.o.frozen 1;have M:=Aa (JY (c:=c) (n:=l.length) (a:=some (zD b o)) R hY q.o F.o A.o G.o y.o f ⟨m,c1,rfl,T⟩ B r C);refine zo d (by exact CX.grown hH r (λj hj=>q.o.ne (by omega)) ay trivial) λhH=>?_;clear d K;refine tkz 11 ?_;refine rdq 12 rfl λK d=>?_
         ·go_simp;refine zo d (by exact CX.set hH _ trivial (by omega) (by omega)) λhH=>?_;clear d K;refine dnq ?_;clear U V J L B r C I z hH;go_wp2_with fail;go_roundw
          case rel=>refine⟨k+1,.slice (some (zD g 0)) ((An ls (l.take k)).length+1) cap,by omega,by go_num,?_⟩;rw[II ls l k E];exact M.o
          case measure=>simp[intOf]; omega
     ·go_simp;go_at_call 50;refine aK.o.mono ?_;rintro e w1 ⟨m,c1,rfl,T,f⟩;have U:∀o,(w1.alloc o).cell? (zD O 1)=some u9:=λo=>((y.o.below f D).alloc o).cell 1;have V:w1.cell? (zD O 1)=some u9:=(y.o.below f D).cell 1;go_simp;refine zo d (by exact CX.below aA.o f aL.o) λhH=>?_;clear d K;refine Bw (rs:=[1,9]) (by kernel_rfl) (by simp) ?_;refine Ax rfl (λK d=>?_) (Ax rfl (λK d=>?_) Bx)
      ·go_simp;refine zo d (by exact hH) λhH=>?_;clear d K;refine rdq 9 rfl λK d=>?_
       ·go_simp;refine zo d (by exact hH.alloc _) λhH=>?_;clear d K;refine rdq 10 rfl λK d=>?_
        ·refine step_append_lies _ rfl _ _ 59 rfl (O+1) 61 i0 _ 2 40 underlying59 aB aC aD aE rfl (by decide) u9 (An ls (l.take k)).length xs rfl (by exact(q.o.below f).own.alloc _) (zD w1.heap.size 0) 1 1 [.string (Ag ls l[k]).name,.slice m (Ag ls l[k]).args.length c1] rfl rfl (cell_two_new _ _ _ _) (a8.o m c1) (by decide) H.o.1 H.o.2 (by have:=f.size; simp; omega) _ rfl ?_;intro g cap w3 B r C I;have z:=Aa (((y.o.below f D).alloc _).grown r (q.o.ne (DC _)));have J:w3.cell? (zD O 1)=some u9:=z.o.cell 1;have L:=z.o.frozen 1;have M:=Aa (JY (c:=c) (n:=l.length) (a:=some (zD b o)) R hY q.o F.o A.o G.o y.o f ⟨m,c1,rfl,T⟩ B r C);refine zo d (by exact CX.grown hH r (λj hj=>q.o.ne (by omega)) ay trivial) λhH=>?_;clear d K;refine tkz 11 ?_;refine rdq 12 rfl λK d=>?_
         ·go_simp;refine zo d (by exact CX.set hH _ trivial (by omega) (by omega)) λhH=>?_;clear d K;refine dnq ?_;clear U V J L B r C I z hH;go_wp2_with fail;go_roundw
          case rel=>refine⟨k+1,.slice (some (zD g 0)) ((An ls (l.take k)).length+1) cap,by omega,by go_num,?_⟩;rw[II ls l k E];exact M.o
          case measure=>simp[intOf]; omega
      ·go_simp;refine zo d (by exact hH.alloc _) λhH=>?_;clear d K;refine rdq 1 rfl λK d=>?_
       ·go_simp;refine zo d (by exact hH) λhH=>?_;clear d K;refine rdq 10 rfl λK d=>?_
        ·refine step_append_lies _ rfl _ _ 59 rfl (O+1) 61 i0 _ 2 40 underlying59 aB aC aD aE rfl (by decide) u9 (An ls (l.take k)).length xs rfl (by exact(q.o.below f).own.alloc _) (zD w1.heap.size 0) 1 1 [.string (Ag ls l[k]).name,.slice m (Ag ls l[k]).args.length c1] rfl rfl (cell_two_new _ _ _ _) (a8.o m c1) (by decide) H.o.1 H.o.2 (by have:=f.size; simp; omega) _ rfl ?_;intro g cap w3 B r C I;have z:=Aa (((y.o.below f D).alloc _).grown r (q.o.ne (DC _)));have J:w3.cell? (zD O 1)=some u9:=z.o.cell 1;have L:=z.o.frozen 1;have M:=Aa (JY (c:=c) (n:=l.length) (a:=some (zD b o)) R hY q.o F.o A.o G.o y.o f ⟨m,c1,rfl,T⟩ B r C);refine zo d (by exact CX.grown hH r (λj hj=>q.o.ne (by omega)) ay trivial) λhH=>?_;clear d K;refine tkz 11 ?_;refine rdq 12 rfl λK d=>?_
         ·go_simp;refine zo d (by exact CX.set hH _ trivial (by omega) (by omega)) λhH=>?_;clear d K;refine dnq ?_;clear U V J L B r C I z hH;go_wp2_with fail;go_roundw
          case rel=>refine⟨k+1,.slice (some (zD g 0)) ((An ls (l.take k)).length+1) cap,by omega,by go_num,?_⟩;rw[II ls l k E];exact M.o
          case measure=>simp[intOf]; omega
    ·have aM:l.take k=l:=Bz (by omega);rw[aM]at q;obtain⟨a9,c9,aP,ao⟩:=q.o.sl;subst aP;have S9:=Aa ao;have r0:=G.o.c0;have r1:=G.o.c1;have rf:=G.o.frozen;clear ao aM;go_wp2_with fail;refine Ao (v:=.agg #[.string s,.slice a9 (An ls l).length c9]) (by simp[results,results50,go_sem,AL,AE,r0,r1]) rfl ?_;rw[HD.o];refine⟨a9,c9,rfl,(S9.o.kept λb hb=>?_).mono λb hb _=>hb.imp id (λh=>by omega),(F.o.setCell (by simp) _).setCell (by simp) _⟩;have aq:b≠w.heap.size+1:=by
      rcases hb with h|h
      ·have:=h.2; omega
      ·omega
     rw[Ak _ _ _ _ (by simpa using aq),Ak _ _ _ _ (by simpa using aq)]
theorem pI (ls:List Bd) (t:Tm) (u v:Value) (w:World) (X:Nat->Prop) (hu:BV w X u ls) (a:TV w X v t) (b:Ah [t]<=1000000):
  Calls prog 50 #[u,v] w λe w'=>VA w X (Ag ls t) e w':=pH ls t u v w X X hu a b
def pJ (w:World) (X:Nat->Prop) (t:Tm) (e:Ending) (w':World):Prop:=
 Below w.heap.size w w'/\((2000<Ah [t]/\e=.returned (.tuple #[.agg ze,.bool false]))∨(Ah [t]<=2000/\∃a c,e=.returned (.tuple #[.agg (zG t a c),.bool true])/\Sl w' (λb=>(X b/\b<w.heap.size)∨w.heap.size<=b) a t.args))
theorem VE (ls:List Bd) (t:Tm) (u v:Value) (w:World) (X:Nat->Prop) (hu:BV w X u ls) (A:TV w X v t) (B:Ah [t]<=1000000):
  Calls prog 26 #[u,v] w λe w'=>pJ w X (Ag ls t) e w':=by
 obtain⟨a,c,rfl,n⟩:=A;have q:=Aa (hu.mono (Y:=λb=>X b/\b<w.heap.size) λb h1 h2=>⟨h1,h2⟩);have r:=Aa (n.mono (Y:=λb=>X b/\b<w.heap.size) λb h1 h2=>⟨h1,h2⟩);clear hu n;go_in;go_wp2_with fail;refine(mN ls t u _ 2000 _ (λb=>X b/\b<w.heap.size) (by exact(q.o.alloc _).alloc _) (by exact⟨a,c,rfl,(r.o.later ((Ac _ _).alloc (Af _) _)).later ((Ac _ _).alloc (Af _) _)⟩) (by decide) (by decide)).mono ?_;rintro e w1 ⟨rfl,g⟩;have s:=Aa (((Ab.new w (zG t a c) 61).alloc zd).below g (by simp; omega));have d:Hid (Ab w1 (w.heap.size+1) ze 61):=by
  have h:=(Ab.new (w.alloc (zh t a c)) ze 61).below g (by simp);unfold Hid;simpa using h
 have f:=Aa ((((Ac w.heap.size w).alloc (Af _) (zh t a c)).alloc (by simp) zd).trans (g.mono (by simp; omega)));clear g;have t0:=s.o.c0;have t1:=s.o.c1;have i:=d.o.c0;have j:=d.o.c1;have x:=d.o.frozen;by_cases C:2000<Ah [Ag ls t]
 ·have k:min (Ah [Ag ls t]:Int) (2000+1)=2001:=by omega
  rw[k];go_wp2_with fail;refine Ao (v:=.tuple #[.agg ze,.bool false]) (by simp[results,results26,go_sem,AL,AE,i,j]) rfl ?_;exact⟨(f.o.setCell (by simp) _).setCell (by simp) _,Ad ⟨C,rfl⟩⟩
 ·have k:min (Ah [Ag ls t]:Int) (2000+1)=Ah [Ag ls t]:=by omega
  rw[k];have hle:¬(2000:Int)<(Ah [Ag ls t]:Int):=by omega
  clear k;go_wp2_with fail;refine(pI ls t u _ _ (λb=>X b/\b<w.heap.size) (by exact q.o.later f.o) (by exact⟨a,c,rfl,r.o.later f.o⟩) B).mono ?_;rintro e w2 ⟨a2,c2,rfl,y,l⟩;have m:=Aa (d.o.below l d.o.lt);have D:=Aa (f.o.trans (l.mono f.o.size));have E:=Aa (y.mono (Y:=λb=>(X b/\b<w.heap.size)∨w.heap.size+2<=b) λb hb _=>hb.imp (λh=>h.1) (λh=>by have:=d.o.lt; omega));clear l y i j x t0 t1;have i:=m.o.c0;have j:=m.o.c1;have x:=m.o.frozen;go_wp2_with fail;refine Ao (v:=.tuple #[.agg #[.string (Ag ls t).name,.slice a2 (Ag ls t).args.length c2],.bool true]) (by simp[results,results26,go_sem,AL,AE,i,j]) rfl ?_;refine⟨(D.o.setCell (by simp) _).setCell (by simp) _,Ae ⟨by omega,a2,c2,rfl,(E.o.kept λb hb=>?_).mono λb hb _=>hb.imp id (λh=>by omega)⟩⟩;have z:b≠w.heap.size+1:=by
   rcases hb with h|h
   ·have:=h.2; omega
   ·omega
  rw[Ak _ _ _ _ (by simpa using z),Ak _ _ _ _ (by simpa using z)]
