/- Several texts in one. -/
import Derived.Test.YtacmmcnnhfmepaaGreatDoorZHLongSaysOwn
import Derived.Deep.RegionHeld
import Derived.RangeFuncNested
import Derived.RangeFuncBound
import Derived.RangeFuncCalls
import Derived.RangeFuncLeaves
import Derived.RangeFuncWrites
import Derived.Shelf.Abstract
import Derived.Shelf.RegionOpen
import Derived.OwnWalkIn
import Derived.TacticsInMore
import Derived.LoopNIn
import Derived.LoopIn
namespace Go.Proofs.YtacmmcnnhfmepaaGreatDoor
set_option linter.all false
set_option maxRecDepth 20000
set_option maxHeartbeats 8000000
open Go.RowKit Go.Proofs.Tryz
def N7:Prop:=∀(q:Nat) (L:List (ByteArray×Value)) (w:World),BC w q L->(L.map (·.1)).Pairwise (·≠·)->(∀p∈L,p.1.size<=8)->L.length<=1000000->
 (Calls prog 139 #[.map (some q)] w λe w'=>e=.returned (.func (.func 146) #[] #[zC w.heap.size])/\w'=w.alloc (.cells #[.map (some q)] 159))/\
 (Calls prog 138 #[.func (.func 146) #[] #[zC w.heap.size]] (w.alloc (.cells #[.map (some q)] 159)) λe w'=>∃(v:Value) (nl:List ByteArray),e=.returned v/\nl.Perm (L.map (·.1))/\(nl.Pairwise λa b=>Cw b a=false)/\LV Value.string w' (λb=>w.heap.size+1<=b) v nl/\Below (w.heap.size+1) (w.alloc (.cells #[.map (some q)] 159)) w')
theorem Yy (a b c:Value) (w:World):Sem.run prog (Instr.field 193 (.agg #[a,b,c]) 0) w=.ok (.agg #[a,b]) w:=by
 rfl
theorem Yz {w w1:World} {N:Nat} {Y:Nat->Prop} {v:Value} {cs:List Bc} (h:Cm w N Y v cs) (d:N<=w.heap.size) (f:∀b,Y b->b<N) (hb:Below w.heap.size w w1) (x:Bc) (ht:Sl w1 (λb=>Y b∨w.heap.size<=b) x.2.1 x.1.t.args) (hn:cs.length<=1000000) (A:Nat) (i:w1.heap.size=A):
  ∃v2 w3,(Builtin.append_ #[63,63] 63 #[v,.slice (some (zD A 0)) 1 1]).run prog (w1.alloc (.cells #[.string x.1.nm,.string x.1.t.name,.slice x.2.1 x.1.t.args.length x.2.2] 93))=.ok v2 w3/\Cm w3 N Y v2 (cs++[x])/\
   (w1.alloc (.cells #[.string x.1.nm,.string x.1.t.name,.slice x.2.1 x.1.t.args.length x.2.2] 93)).grownBy w3 v.ownBlock/\∀k,v2.ownBlock=some k->v.ownBlock=some k∨w1.heap.size<=k:=by
 subst i;obtain⟨i0,hi,j,l,m⟩:=Dq Tryz.infoBind;have hs:=hb.size;obtain⟨g,cap,w3,n,ho,a,c,hlt⟩:=run_append_lies (P:=prog) (w:=w1.alloc (.cells #[.string x.1.nm,.string x.1.t.name,.slice x.2.1 x.1.t.args.length x.2.2] 93)) 63 63 N 93 i0 _ 3 56 underlying63 hi j l m rfl (by decide) v cs.length (DA cs) ((h.below hb).own.alloc _)
  (zD w1.heap.size 0) 1 1 (DX x) rfl (LW _ _ _ _ _) (λy hy=>by simp[DX] at hy; rcases hy with rfl|rfl|rfl<;>rfl) (by decide) (by unfold maxLen; omega) (by omega) (by simp; omega) _ rfl
 refine⟨_,w3,n,h.push d f hb ht _ rfl ho a c,a,λk hk=>?_⟩;have e:g=k:=by simpa [Value.ownBlock] using hk
 rcases c with h1|h1
 ·exact Ad (by rw[h1,e])
 ·right; simp at h1; omega
def He (s:List Bd) (n:ByteArray):Bd:=⟨n,(AC s n).getD ⟨n,[]⟩⟩
def YA (S q:Nat) (td:Value) (h:List (ByteArray×Tm)) (nl:List ByteArray) (Y:Nat->Prop) (w2:World) (u i:Value) (wr:World):Prop:=
 ∃(k:Nat) (f':Bool) (Y':Nat->Prop) (cs:List Bc),k<=nl.length/\i=zA k/\Cm wr w2.heap.size (λ_=>False) u cs/\cs.map (·.1)=(nl.take k).map (He (Aj h))/\(∀x∈cs,Ah [x.1.t]<=2000)/\Cp S q td h f' Y' wr/\(∀b,Y' b->Y b∨w2.heap.size<=b)/\(∀b,Y' b->some b≠u.ownBlock)/\Ak (Cq S q) w2 wr
def YC (h:List (ByteArray×Tm)) (S q:Nat) (w:World) (e:Ending) (w':World):Prop:=
 Ak (Cq S q) w w'/\((AU (Aj h)=true/\e=.returned (.tuple #[zB,.bool false]))∨(AU (Aj h)=false/\∃v,e=.returned (.tuple #[v,.bool true])/\BV w' (λb=>w.heap.size<=b) v (Aj h)))
theorem YD:∀ {h:List (ByteArray×Tm)},Ci h->Fk (Aj h):=fun {h} g=>by
 rcases List.eq_nil_or_concat h with rfl|⟨k,p,rfl⟩
 ·simp[Aj,Fk]
 ·rw[List.concat_eq_append]at g ⊢;rw[Ff];have hk:k.length<(k++[p]).length:=by simp
  have m:=g k.length hk;rw[JN (Ag _),GM]at m;have gk:=g.ok k.length (by simp);rw[JN (Ag _),GM]at gk;have m2:∀d∈Aj k,d.nm≠p.1:=λd hd=>by
   have:=m.2.1 d hd;simpa using this
  exact Lq _ (Kd gk.1 m2)
theorem YE {h:List (ByteArray×Tm)} (g:Ci h) {nl:List ByteArray} (hp:nl.Perm (h.map (·.1))) (ho:nl.Pairwise λa b=>Cw b a=false):nl.map (He (Aj h))=Aj h:=by
 have ok:=g.all;have f:(h.map (·.1)).Nodup:=(by rw[Oz,Hr,KK];intro i j hi l ag e;have:=g.once hi l e;omega);have ah:nl.Nodup:=hp.symm.nodup f;have k:(nl.map (He (Aj h))).Perm (Aj h):=by
  have h1:((h.map (·.1)).map (He (Aj h))).Perm (Aj h):=by
   refine(List.perm_ext_iff_of_nodup ?_ ?_).2 λd=>?_
   ·rw[Oz,Hr];refine(Oz.1 f).imp fun {a b} c e=>c ?_;have:=Dl Bd.nm e;exact this
   ·exact(List.Pairwise.imp (fun {a b} c e=>c (by rw[e])) ok.1:(Aj h).Pairwise (·≠·))
   ·constructor
    ·intro hd;obtain⟨n,m,rfl⟩:=Cv.1 hd;obtain⟨p,o,rfl⟩:=Cv.1 m;obtain⟨i,hi,rfl⟩:=IW o;obtain⟨d,q,e1,e2⟩:=Fl (Ju g hi);have:He (Aj h) h[i].1=d:=by
      unfold He;rw[Ju g hi,Option.getD_some,<-e2,<-e1]
     rw[this]; exact q
    ·intro hd;have h2:=(g.bound h.length (Ag _) d.nm).1 ⟨d,by rw[GM]; exact hd,rfl⟩;obtain⟨i,hi,_,e⟩:=h2;refine Cv.2 ⟨d.nm,Cv.2 ⟨h[i],Bu hi,e⟩,?_⟩;unfold He;rw[J8 ok.1 hd,Option.getD_some]
  exact(hp.map _).trans h1
 refine Ni k (Nj (ok.1.perm k) ?_) (YD g);rw[Hr];exact ho
theorem SQ (bd:Hid N7) (S q:Nat) (a:Value) (h:List (ByteArray×Tm)) (g:Ci h) (z:Gn h) (hh:h.length<=1000000) (w:World) (Y:Nat->Prop) (f:Bool) (hE:Cp S q a h f Y w):
  Calls prog 121 #[zC S] w λe w'=>YC h S q w e w':=by
 have HE:=Aa hE;obtain⟨⟨L,J,M,A⟩,bB,bC,hY,hg⟩:=hE;have bD:=J.lt;have bE:=M.lt;have bf:=A.1;have HY:=Aa hY;have aD:Hid (L.map (·.1)=h.map (·.1)):=(by refine List.ext_getElem (by simp[bf]) λi h1 h2=>?_;simp only[Im];exact(A.2 i (by simpa using h2) (by simpa using h1)).1);have B:=bd.o q L w M (by
   rw[aD.o,Hr,KK];intro i j hi C bF e;have:=g.once hi C e;omega) (λp hp=>by
   obtain⟨i,hi,rfl⟩:=IW hp;rw[(A.2 i (by omega) hi).1];have h1:=z i (by omega);simp[ET]at h1;omega) (by omega)
 rw[aD.o]at B;have s1:w.cell? (zD S 1)=some (.map (some q)):=J.cell 1;clear J M A hg hY;go_enter func121,ntmps121;go_wp2_with (first
  | (go_at_call 139; refine B.1.mono ?_; rintro e w1 ⟨rfl,rfl⟩)
  | (go_at_call 138; refine B.2.mono ?_; rintro e w2 ⟨v2,nl,rfl,N,aE,aF,O⟩; have bg:=Aa aF; obtain⟨na,nc,rfl,bh,bj⟩:=aF; clear bj))
 have HP:=Aa N;have HO:=Aa aE;have ar:Hid (Below w.heap.size w w2):=((Ac _ _).alloc (Ag _) _).trans (O.mono (by omega));have bG:w.heap.size+1<=w2.heap.size:=by have:=O.size; simp at this; omega
 have bk:=Aa ((Du S q a h).below HE.o ar.o);have aG:nl.length<=1000000:=by have:=N.length_eq; simp at this; omega
 obtain⟨bl,bm⟩:=bh;clear N aE O B s1;go_wp2_with fail;go_loopw [4,16] (λu i wr=>YA S q a h nl Y w2 u i wr) (λu i wr=>nl.length-(intOf i).toNat);case atStart=>exact⟨0,f,Y,[],Bm _,rfl,Cm.start _ _ _,by simp,by simp,bk.o,λb hb=>Ad hb,λb _ e=>by simp[Value.ownBlock] at e,Ak.refl _ _⟩
 case round=>
  obtain⟨k,f',Y',cs,hk,rfl,hR,hC,hZ,R,ad,ae,hx⟩:=hrel;have D:=Aa hR;have m:=Aa hC;have HZ:=Aa hZ;have bo:=Aa R;have av:=Aa ad;have aw:=Aa ae;have U:=Aa hx;have bH:=hx.size;clear hR hC hZ ad ae hx;by_cases n:k<nl.length
  ·have bp:(k:Int)<(nl.length:Int):=(by omega);have bq:LV Value.string wr (λb=>w.heap.size+1<=b/\b<w2.heap.size) (.slice na nl.length nc) nl:=(bg.o.mono (Y:=λb=>w.heap.size+1<=b/\b<w2.heap.size) λb h1 h2=>⟨h1,h2⟩).kept λb hb=>U.o.block b hb.2 (λhm=>by rcases hm with e|e<;>omega);obtain⟨bI,bJ,e0,_,E⟩:=bq;obtain⟨bn,on,rfl,bK,E⟩:=E.resolve_left (λe=>by rw[e] at n; simp at n);simp at e0;obtain⟨rfl,rfl⟩:=e0;have nk:=E k n;obtain⟨i,hi,F⟩:∃i,∃hi:i<h.length,h[i].1=nl[k]:=(by have h1:=HP.o.subset (Bu n);obtain⟨p,hp,e⟩:=Cv.1 h1;obtain⟨i,hi,rfl⟩:=IW hp;exact⟨i,hi,e⟩);have r:nl.take (k+1)=nl.take k++[nl[k]]:=CB n;have br:=Aa r;obtain⟨⟨L',aH,aI,ag⟩,ax,ay,aJ,bs⟩:=R;obtain⟨v,V,aK⟩:=ag.get g hi;obtain⟨T,j,ta,G,hT,C,rfl,aL⟩:=SD aK;have bt:=Aa aL;have HT:=Aa hT;have bL:=Aa aJ;have hz:∀w',(zeroValue 193).run prog w'=.ok (.agg #[.string ⟨#[]⟩,zB,zA 0]) w':=λw'=>zeroValue193 w';have bM:=Aa F;rw[F]at V;have bu:Hid (He (Aj h) nl[k]=⟨nl[k],stood h i h.length hi⟩):=Aa (by unfold He;rw[<-F,Ju g hi,Option.getD_some]);generalize nl[k]=nm at *;have bw:(Instr.lookup 159 (.map (some q)) (.string nm) false).run prog wr=.ok (.agg #[.string T.name,.slice ta T.args.length G,zA j]) wr:=(by rw[WG (P:=prog) underlying159 underlying9 (hz _) aI nm,V]; rfl);have bN:Sem.run prog (Instr.field 193 (.agg #[.string T.name,.slice ta T.args.length G,zA j]) 0) wr=.ok (.agg (zG T ta G)) wr:=Yy _ _ _ _;have s1:wr.cell? (zD S 1)=some (.map (some q)):=aH.cell 1;have bx:Hid (Af (Aj h) T=stood h i h.length hi):=Aa (by rw[HT.o];exact Sk g hi (Nat.max_le.2 ⟨C,hi⟩) (z i hi));have bz:Hid (As [T]=0):=Aa (by rw[HT.o];exact Su g z hi (Nat.max_le.2 ⟨C,hi⟩));have W:=N4 S q a h g z T bz.o ta G wr (λb=>Y' b/\b≠S/\b≠q) Y' f' (λb hb hm=>by rcases hm with e|e; exact hb.2.1 e; exact hb.2.2 e) bt.o bo.o;rw[bx.o]at W;have b0:Hid (cs.length<=1000000):=Aa (by have h1:=Dl List.length m.o;simp at h1;omega);clear aH aI ag ax ay aJ bs V aK aL hT r E F HT;go_wp2_with fail;refine W.mono ?_;clear W;rintro e c ⟨y,s,t,ok,f2,l,rfl,aM,ab,a1,H,ah,aN,aO⟩;have Z:=Aa aM;have aP:Hid (Ak (Cq S q) w2 c):=U.o.trans H;have a7:=Aa H;have a8:=Aa ah;have aQ:=Aa ab;have aA:=Aa aN;have aB:=Aa aO;have bO:=H.size;clear aM ab a1 H ah aN aO bw s1 nk;cases ok with
   |false=>
    have b1:Hid (AU (Aj h)=true):=by
     rcases aB.o rfl with h1|h1
     ·exact Z.o.2.2.2.2 h1
     ·exact Sv g hi h1
    clear aA aB;go_wp2_with fail;refine Ao (v:=.tuple #[zB,.bool false]) (by simp[results,results121,go_sem]) rfl ?_;exact⟨((Ak.ofBelow ar.o).trans aP.o).alloc _,Ad ⟨b1.o,rfl⟩⟩
   |true=>
    obtain⟨rfl,aR,aS⟩:=aA.o rfl;have b2:=Aa aR;have b3:=Aa aS;clear aR aS aA aB;obtain⟨wm,aT,bP,aU⟩:=a7.o.mid;have aV:=D.o.exq aU (λb hb=>by rcases hb with rfl|rfl<;>omega) (λ_ _ h=>h);have b4:(c.alloc (.cells (zG y s t) 61)).heap.size=c.heap.size+1:=(by simp);have aW:Below wm.heap.size wm (c.alloc (.cells (zG y s t) 61)):=aT.alloc (by omega) _;obtain⟨v6,w6,ai,aX,I,aY⟩:=Yz aV (by omega) (λ_ h=>h.elim) aW (⟨nm,y⟩,s,t) ((a8.o.later ((Ac _ _).alloc (Ag _) _)).mono λb hb _=>Ae (by omega)) b0.o (c.heap.size+1) b4;have aC:=Aa ai;have b5:=Aa aX;have aZ:=I.size;simp at aZ;have b6:Hid (Ak (Cq S q) w2 w6):=((aP.o.alloc _).alloc _).grown I (λb hb=>Ad (D.o.own.lt b hb).1);have b7:Hid (∀b,l b->Y b∨w2.heap.size<=b):=λb hb=>by
     rcases aQ.o b hb with h1|h1
     ·exact av.o b h1
     ·right; omega
    have ba:Hid (∀b,l b->some b≠u4.ownBlock):=λb hb e=>by
     rcases aQ.o b hb with h1|h1
     ·exact aw.o b h1 e
     ·have:=(D.o.own.lt b e.symm).2; omega
    have bb:Hid (∀b,l b->b<c.heap.size):=Z.o.2.2.2.1;have b8:Hid (Cp S q a h false l w6):=(Du S q a h).keep _ _ _ _ Z.o λb hb=>by
     have h1:=bb.o b hb;rw[I.block b (by simp; omega) (ba.o b hb),BH _ _ _ (by simp; omega),BH _ _ _ h1]
    have b9:Hid (∀b,l b->some b≠v6.ownBlock):=λb hb e=>by
     rcases aY b e.symm with h1|h1
     ·exact ba.o b hb h1.symm
     ·have:=bb.o b hb; omega
    clear aT aU aV aW ai aX I aY aZ;go_wp2_with (at_builtin; refine Io rfl _ _ _ _ rfl rfl rfl aC.o ?_);go_roundw
    case rel=>
     refine⟨k+1,false,l,cs++[(⟨nm,y⟩,s,t)],by omega,by go_num,b5.o,?_,λx hx=>?_,b8.o,b7.o,b9.o,b6.o⟩
     ·rw[br.o,CY,CY,m.o];simp only[Cu,Hm];rw[bu.o,b2.o]
     ·rcases BJ.1 hx with hx|hx
      ·exact HZ.o x hx
      ·have e:x=(⟨nm,y⟩,s,t):=(by simpa using hx);rw[e]; exact b3.o
    case measure=>simp[intOf]; omega
  ·have r:nl.take k=nl:=Bv (by omega);rw[r]at m;have bc:=Aa (YE g HP.o HO.o);have bA:Hid (AU (Aj h)=false):=Aa (by rw[<-bc.o,<-m.o];unfold AU;rw[List.any_eq_false];intro d hd;obtain⟨x,hx,rfl⟩:=Cv.1 hd;have:=HZ.o x hx;simp;omega);clear R r;go_wp2_with fail;refine Ao (v:=.tuple #[u4,.bool true]) (by simp[results,results121,go_sem]) rfl ?_;refine⟨(Ak.ofBelow ar.o).trans U.o,Ae ⟨bA.o,u4,rfl,?_⟩⟩;have h1:=D.o.bv;rw[m.o,bc.o]at h1;exact h1.mono λb hb _=>by rcases hb with hb|hb; exact hb.elim; omega
theorem SR {p:ByteArray} {l:List Tm} {k:Nat} (h:k<l.length):CG p (l.take (k+1))=(CG p (l.take k)||CG p [l[k]]):=by
 unfold CG;rw[OP l k h,List.any_append]
theorem YF {p:ByteArray} {l:List Tm} {k:Nat} (h:k<l.length) (h0:CG p [l[k]]=true):CG p l=true:=by
 have e:l=l.take (k+1)++l.drop (k+1):=(Fu _ _).symm;have h1:=SR (p:=p) h;rw[h0,Bool.or_true]at h1;unfold CG at h1 ⊢;rw[e,KW,List.any_append,h1];rfl
theorem YG (s:ByteArray) (l:List Tm) (p:ByteArray):CG p [⟨s,l⟩]=((s.toList==p.toList)||CG p l):=by
 unfold CG;simp[Aw]
def YH (p:ByteArray) (l:List Tm) (w:World) (v:Value) (wr:World):Prop:=∃k:Nat,k<=l.length/\v=zA k/\CG p (l.take k)=false/\Below w.heap.size w wr
theorem YI (P:Nat) (p:ByteArray) (l:List Tm) (a:Option Addr) (c:Nat) (w:World) (X:Nat->Prop) (g:Sl w X a l)
  (n:∀x∈l,∀d c' w',Below w.heap.size w w'->Sl w' X d x.args->Calls prog 153 #[.agg (zG x d c'),zC P] w' λe z=>e=.returned (.bool (CG p [x]))/\Below w'.heap.size w' z):
  Calls prog 162 #[.slice a l.length c,.func (.func 153) #[] #[zC P]] w λe w'=>(∃i:Int,e=.returned (zA i)/\decide (0<=i)=CG p l)/\Below w.heap.size w w':=by
 have A:=Aa g;have B:=Aa n;have hl:=g.1;clear g n;go_enter func162,ntmps162;go_wp2_with fail;go_loopw [8] (λv wr=>YH p l w v wr) (λv wr=>l.length-(intOf v).toNat);case atStart=>exact⟨0,Bm _,rfl,by simp[CG,Aw],Ac _ _⟩
 case round=>
  obtain⟨k,hk,rfl,hT,hb⟩:=hrel;have HT:=Aa hT;have j:=Aa hb;clear hT;by_cases f:k<l.length
  ·have ai:(k:Int)<(l.length:Int):=(by omega);obtain⟨b,o,d,c',rfl,d0,d1,hx⟩:=A.o.get hb (λ_ _ h=>h) k f;obtain⟨av,cv,q,r⟩:=hx;simp at q;obtain⟨rfl,rfl⟩:=q;have C:=Aa (B.o l[k] (Bu f) d c' wr hb r);have s:=Aa (SR (p:=p) f);have D:=Aa (YF (p:=p) f);clear r hb;generalize l[k]=y at *;go_wp2_with fail;refine C.o.mono ?_;rintro e w1 ⟨rfl,t⟩;have u:=Aa (j.o.trans (t.mono j.o.size));clear t;cases hm:CG p [y] with
   |true=>have m:=Aa (D.o hm);go_wp2_with fail;go_ret;exact⟨⟨_,rfl,by rw[m.o]; simp⟩,u.o⟩
   |false=>
    rw[hm]at s;go_wp2_with fail;go_roundw
    case rel=>exact⟨k+1,by omega,by go_num,by rw[s.o,HT.o]; rfl,u.o⟩
    case measure=>simp[intOf]; omega
  ·have m:Hid (false=CG p l):=Aa (by rw[<-HT.o,Bv (by omega)]);go_wp2_with fail;go_ret;exact⟨⟨-1,rfl,by rw[<-m.o]; decide⟩,j.o⟩
theorem YJ (P:Nat) (p:ByteArray) (l:List Tm) (a:Option Addr) (c:Nat) (w:World) (X:Nat->Prop) (b:Sl w X a l)
  (d:∀x∈l,∀f c' w',Below w.heap.size w w'->Sl w' X f x.args->Calls prog 153 #[.agg (zG x f c'),zC P] w' λe h=>e=.returned (.bool (CG p [x]))/\Below w'.heap.size w' h):
  Calls prog 152 #[.slice a l.length c,.func (.func 153) #[] #[zC P]] w λe w'=>e=.returned (.bool (CG p l))/\Below w.heap.size w w':=by
 have j:=Aa (YI P p l a c w X b d);clear b d;go_enter func152,ntmps152;go_wp2_with fail;refine j.o.mono ?_;rintro e w1 ⟨⟨i,rfl,hi⟩,g⟩;have k:=Aa hi;have m:=Aa g;clear hi g;go_wp2_with fail;go_ret;exact⟨Ef (by rw[<-k.o]),m.o⟩
theorem YK (n:ByteArray) (t:Tm):∀(d:Value) (w:World) (X:Nat->Prop),TV w X d t->
  Calls prog 143 #[d,.string n] w λe w'=>e=.returned (.bool (CG n [t]))/\Below w.heap.size w w':=by
 induction t using Tm.ind with
 |h s l g=>
  intro d w X ht;obtain⟨a,c,rfl,i⟩:=ht;have y:=Aa g;have z:=Aa i;have j:=Aa (YG s l n);clear g i;(try dsimp only[zG]);(try dsimp only[zH]);(try dsimp only[zE]);(try dsimp only);have b:Hid (Below w.heap.size w ((w.alloc (.cells #[.string s,.slice a l.length c] 61)).alloc (.cells #[.string n] 9))):=EC _ _;have PA:=Aa ((Ab.new w #[.string s,.slice a l.length c] 61).alloc (.cells #[.string n] 9));have k:Hid (Ab ((w.alloc (.cells #[.string s,.slice a l.length c] 61)).alloc (.cells #[.string n] 9)) (w.heap.size+1) #[.string n] 9):=by
   have h:=Ab.new (w.alloc (.cells #[.string s,.slice a l.length c] 61)) #[.string n] 9;unfold Hid;simpa using h
  have al:=@hmq prog;cases hm:(s.toList==n.toList) with
  |true=>have f:Hid (true=CG n [⟨s,l⟩]):=Aa (by rw[j.o,hm];rfl);go_enter func143,ntmps143;go_wp2_with fail;go_ret;exact⟨Ef f.o,b.o⟩
  |false=>
   have f:Hid (CG n l=CG n [⟨s,l⟩]):=Aa (by rw[j.o,hm];rfl);go_enter func143,ntmps143;go_wp2_with fail;generalize (w.alloc (.cells #[.string s,.slice a l.length c] 61)).alloc (.cells #[.string n] 9)=w3 at *;have A:=Aa (YJ (w.heap.size+1) n l a c w3 X (z.o.later b.o) (λx hx m c' w' q r=>by
    have B:=Aa (k.o.below q k.o.lt);have b0:∀o,(w'.alloc o).cell? (zD (w.heap.size+1) 0)=some (.string n):=λo=>(B.o.alloc o).cell 0;have C:=Aa (y.o x hx (.agg (zG x m c')) (w'.alloc (.cells (zG x m c') 61)) X ⟨_,_,rfl,r.later ((Ac _ _).alloc (Ag _) _)⟩);clear r q;go_enter func153,ntmps153;go_wp2_with fail;refine C.o.mono ?_;rintro e w1 ⟨rfl,u⟩;have D:=Aa (((Ac w'.heap.size w').alloc (Ag _) _).trans (u.mono (by simp)));clear u;go_wp2_with fail;go_ret;exact⟨rfl,D.o⟩))
   refine A.o.mono ?_;rintro e w4 ⟨rfl,v⟩;have E:=Aa (b.o.trans (v.mono b.o.size));clear v;go_wp2_with fail;go_ret;exact⟨Ef f.o,E.o⟩
def SU (ta tb:Tm) (s1:ByteArray) (a1:Option Addr) (n1:Nat) (s2:ByteArray) (a2:Option Addr) (n2:Nat) (ok f':Bool) (Z:Nat->Prop) (w':World):Prop:=
 (ok=true/\f'=false/\s1=ta.name/\n1=ta.args.length/\s2=tb.name/\n2=tb.args.length/\Ah [ta]<=2000/\Ah [tb]<=2000/\Sl w' Z a1 ta.args/\Sl w' Z a2 tb.args)∨(ok=false/\(f'=true∨2000<Ah [ta]∨2000<Ah [tb]))
def YL (S q:Nat) (td:Value) (h:List (ByteArray×Tm)) (ta tb:Tm) (X Y:Nat->Prop) (w:World) (e:Ending) (w':World):Prop:=
 ∃(s1:ByteArray) (a1:Option Addr) (n1 c1:Nat) (s2:ByteArray) (a2:Option Addr) (n2 c2:Nat) (ok f':Bool) (Y':Nat->Prop),e=.returned (.tuple #[.agg #[.string s1,.slice a1 n1 c1],.agg #[.string s2,.slice a2 n2 c2],.bool ok])/\Cp S q td h f' Y' w'/\(∀b,Y' b->Y b∨w.heap.size<=b)/\Ak (Cq S q) w w'/\SU ta tb s1 a1 n1 s2 a2 n2 ok f' (λb=>(X b/\b<w.heap.size)∨w.heap.size<=b) w'
theorem YM (w:World):w.drew.heap=w.heap:=rfl
theorem Mr {w:World} {c1 c2 c3 a c5 c d e f g h i:Nat} {v1 v2 v3 v4 v5 v6:Value} {b:Nat} (h1:b≠c1) (h2:b≠c2) (h3:b≠c3) (j:b≠a) (h5:b≠c5) (h6:b≠c):
  ((((((w.setCell (zD c1 d) v1).setCell (zD c2 e) v2).setCell (zD c3 f) v3).setCell (zD a g) v4).setCell (zD c5 h) v5).setCell (zD c i) v6).drew.heap[b]? = w.heap[b]? := by
 rw[YM];rw[Al _ _ _ _ (by simpa using h6),Al _ _ _ _ (by simpa using h5),Al _ _ _ _ (by simpa using j),Al _ _ _ _ (by simpa using h3),Al _ _ _ _ (by simpa using h2),Al _ _ _ _ (by simpa using h1)]
theorem SV {Q:Nat->Prop} {a w:World} {c1 c2 c3 b c5 c d e f g i j:Nat} {v1 v2 v3 v4 v5 v6:Value} (h:Ak Q a w) (h1:a.heap.size<=c1) (h2:a.heap.size<=c2) (h3:a.heap.size<=c3) (k:a.heap.size<=b) (h5:a.heap.size<=c5) (h6:a.heap.size<=c):
  Ak Q a ((((((w.setCell (zD c1 d) v1).setCell (zD c2 e) v2).setCell (zD c3 f) v3).setCell (zD b g) v4).setCell (zD c5 i) v5).setCell (zD c j) v6).drew:=
 ((((((h.setNew h1 _ _).setNew h2 _ _).setNew h3 _ _).setNew k _ _).setNew h5 _ _).setNew h6 _ _).drew
theorem YN (S q:Nat) (m:Value) (h:List (ByteArray×Tm)) (g:Ci h) (hN:Gn h) (p:Pr) (he:As [p.l]=0/\As [p.r]=0) (j:Nat) (hj:j<=h.length) (hid:j=h.length->(Af (Aj h) p.l=p.l/\Af (Aj h) p.r=p.r)) (aJ:Ah [p.l]<=2000/\Ah [p.r]<=2000) (d:Option Addr) (c1:Nat) (a2:Option Addr) (c2:Nat) (w:World) (X Y:Nat->Prop) (aK:∀b,X b->¬Cq S q b) (aL:Sl w X d p.l.args) (aM:Sl w X a2 p.r.args) (aN:Cp S q m h false Y w):
  Calls prog 135 #[zC S,.agg #[.string p.l.name,.slice d p.l.args.length c1,.string p.r.name,.slice a2 p.r.args.length c2,zA j]] w λe w'=>YL S q m h (Af (Aj h) p.l) (Af (Aj h) p.r) X Y w e w':=by
 have aO:=Aa aL;have aP:=Aa aM;have HE:=Aa aN;have ax:=Aa aK;have aQ:=Aa hid;have aR:=Aa aJ;obtain⟨⟨L,N,hM,aS⟩,bn,bo,hY,hg⟩:=aN;have bd:=N.lt;have aT:=hM.lt;have HY:=Aa hY;have bf:Hid (L.length=h.length):=aS.1;have bg:=Aa hM;have HB:=Aa N;clear aL aM aK hid aJ aS hg hY hM;have s1:∀o o' n,(((w.alloc o).alloc o').alloc n).cell? (zD S 1)=some (.map (some q)):=λo o' n=>(((N.alloc o).alloc o').alloc n).cell 1;have hlen:∀o o' n,Sem.run prog (Builtin.len_ #[159] 3 #[.map (some q)]) (((w.alloc o).alloc o').alloc n).drew=.ok (zA (h.length:Int)) (((w.alloc o).alloc o').alloc n).drew:=λo o' n=>by
  have h1:BC (((w.alloc o).alloc o').alloc n).drew q L:=bg.o.below (((((Ac w.heap.size w).alloc (Ag _) o).alloc (by simp) o').alloc (by simp; omega) n).drew) aT;rw[Ko underlying159 h1,bf.o]
 clear N;by_cases x:j=h.length
 ·have bh:((j:Int)==(h.length:Int))=true:=by rw[x]; simp
  have t:=Aa (aQ.o x);have HJ:=Aa x;clear x;go_enter func135,ntmps135;go_wp2_with fail;go_region
  go_wp2_with fail;go_region
  all_goals go_wp2_with fail
  all_goals
   refine Ao (v:=.tuple #[.agg (zG p.l d c1),.agg (zG p.r a2 c2),.bool true]) (by simp[results,results135,go_sem]) rfl ?_;have O:Below w.heap.size w (((w.alloc (.cells #[.string p.l.name,.slice d p.l.args.length c1,.string p.r.name,.slice a2 p.r.args.length c2,zA j] 167)).alloc (.cells (zG p.l d c1) 61)).alloc (.cells (zG p.r a2 c2) 61)).drew.drew:=(((((Ac w.heap.size w).alloc (Ag _) _).alloc (by simp) _).alloc (by simp; omega) _).drew).drew;exact⟨p.l.name,d,p.l.args.length,c1,p.r.name,a2,p.r.args.length,c2,true,false,Y,rfl,(Du S q m h).below HE.o O,λb hb=>Ad hb,Ak.ofBelow O,Ad ⟨rfl,rfl,by rw[t.o.1],by rw[t.o.1],by rw[t.o.2],by rw[t.o.2],by rw[t.o.1]; exact aR.o.1,by rw[t.o.2]; exact aR.o.2,by rw[t.o.1]; exact(aO.o.mono (Y:=λb=>X b/\b<w.heap.size) λb h1 h2=>⟨h1,h2⟩).later O |>.mono λb hb _=>Ad hb,by rw[t.o.2]; exact(aP.o.mono (Y:=λb=>X b/\b<w.heap.size) λb h1 h2=>⟨h1,h2⟩).later O |>.mono λb hb _=>Ad hb⟩⟩
 ·have bh:((j:Int)==(h.length:Int))=false:=Dr.2 (by omega);clear x aQ;have ay:=Aa (aO.o.mono (Y:=λb=>X b/\b<w.heap.size) λb h1 h2=>⟨h1,h2⟩);have az:=Aa (aP.o.mono (Y:=λb=>X b/\b<w.heap.size) λb h1 h2=>⟨h1,h2⟩);have a6:Hid (Below w.heap.size w (((w.alloc (.cells #[.string p.l.name,.slice d p.l.args.length c1,.string p.r.name,.slice a2 p.r.args.length c2,zA j] 167)).alloc (.cells #[.string ⟨#[]⟩,zB] 61)).alloc (.cells #[.string ⟨#[]⟩,zB] 61)).drew):=((((Ac w.heap.size w).alloc (Ag _) _).alloc (by simp) _).alloc (by simp; omega) _).drew;have Q3:Hid (Ab (((w.alloc (.cells #[.string p.l.name,.slice d p.l.args.length c1,.string p.r.name,.slice a2 p.r.args.length c2,zA j] 167)).alloc (.cells #[.string ⟨#[]⟩,zB] 61)).alloc (.cells #[.string ⟨#[]⟩,zB] 61)).drew w.heap.size #[.string p.l.name,.slice d p.l.args.length c1,.string p.r.name,.slice a2 p.r.args.length c2,zA j] 167):=((Ab.new w _ _).alloc _).alloc _;have A3:Hid (Ab (((w.alloc (.cells #[.string p.l.name,.slice d p.l.args.length c1,.string p.r.name,.slice a2 p.r.args.length c2,zA j] 167)).alloc (.cells #[.string ⟨#[]⟩,zB] 61)).alloc (.cells #[.string ⟨#[]⟩,zB] 61)).drew (w.heap.size+1) #[.string ⟨#[]⟩,zB] 61):=(by have h1:=(Ab.new (w.alloc (.cells #[.string p.l.name,.slice d p.l.args.length c1,.string p.r.name,.slice a2 p.r.args.length c2,zA j] 167)) #[.string ⟨#[]⟩,zB] 61).alloc (.cells #[.string ⟨#[]⟩,zB] 61);rw[BK]at h1;exact h1);have B3:Hid (Ab (((w.alloc (.cells #[.string p.l.name,.slice d p.l.args.length c1,.string p.r.name,.slice a2 p.r.args.length c2,zA j] 167)).alloc (.cells #[.string ⟨#[]⟩,zB] 61)).alloc (.cells #[.string ⟨#[]⟩,zB] 61)).drew (w.heap.size+1+1) #[.string ⟨#[]⟩,zB] 61):=(by have h1:=Ab.new ((w.alloc (.cells #[.string p.l.name,.slice d p.l.args.length c1,.string p.r.name,.slice a2 p.r.args.length c2,zA j] 167)).alloc (.cells #[.string ⟨#[]⟩,zB] 61)) #[.string ⟨#[]⟩,zB] 61;rw[BK,BK]at h1;exact h1);have z3:(((w.alloc (.cells #[.string p.l.name,.slice d p.l.args.length c1,.string p.r.name,.slice a2 p.r.args.length c2,zA j] 167)).alloc (.cells #[.string ⟨#[]⟩,zB] 61)).alloc (.cells #[.string ⟨#[]⟩,zB] 61)).drew.heap.size=w.heap.size+3:=by simp
  go_enter func135,ntmps135;go_wp2_with fail;go_region
  go_wp2_with fail;generalize (((w.alloc (.cells #[.string p.l.name,.slice d p.l.args.length c1,.string p.r.name,.slice a2 p.r.args.length c2,zA j] 167)).alloc (.cells #[.string ⟨#[]⟩,zB] 61)).alloc (.cells #[.string ⟨#[]⟩,zB] 61)).drew=w3 at *;refine(N4 S q m h g hN p.l he.1 d c1 w3 _ Y false (λb hb=>ax.o b hb.1) (ay.o.later a6.o) ((Du S q m h).below HE.o a6.o)).mono ?_;rintro e k ⟨y,a,c,ok,f',P,rfl,aU,z,a7,hx,A,B,C⟩;have D:∀b,Cq S q b->b<w.heap.size:=λb hb=>by rcases hb with rfl|rfl; exact bd; exact aT
  have aV:Hid (Ak (Cq S q) w k):=(Ak.ofBelow a6.o).trans hx;have Q4:=Aa (Q3.o.exq hx (λh=>by have:=D _ h; omega));have E:=Aa (A3.o.exq hx (λh=>by have:=D _ h; omega));have F:=Aa (B3.o.exq hx (λh=>by have:=D _ h; omega));have aW:Hid (w.heap.size+3<=k.heap.size):=Aa (by have:=hx.size;omega);have R:Hid (∀b,P b->Y b∨w.heap.size+3<=b):=λb hb=>(z b hb).imp id λh=>by omega
  have aX:=Aa aU;have a8:Hid (Sl k (λb=>w.heap.size+3<=b/\b<k.heap.size) a y.args):=A.mono λb hb h2=>⟨by omega,h2⟩;have aA:=Aa B;have aB:=Aa C;have aC:=Aa D;clear z hx A B C aU a7 D;have q2:=Q4.o.c2;have q3:=Q4.o.c3;have x0:=E.o.c0;have x1:=E.o.c1;have xf:=E.o.frozen;have y0:=F.o.c0;have y1:=F.o.c1;cases ok with
  |true=>
   obtain⟨rfl,aY,aZ⟩:=aA.o rfl;have T:=Aa aY;have bj:=Aa aZ;clear aY aZ aA aB;have aD:∀b,b≠w.heap.size+1->((k.setCell (zD (w.heap.size+1) 0) (.string y.name)).setCell (zD (w.heap.size+1) 1) (.slice a y.args.length c)).heap[b]? = k.heap[b]? := λb hb=>by
    rw[Al _ _ _ _ (by simpa using hb),Al _ _ _ _ (by simpa using hb)]
   have A5:Hid (Ab ((k.setCell (zD (w.heap.size+1) 0) (.string y.name)).setCell (zD (w.heap.size+1) 1) (.slice a y.args.length c)) (w.heap.size+1) (zG y a c) 61):=Aa (by have:=(E.o.set 0 (.string y.name)).set 1 (.slice a y.args.length c);simpa using this);have B5:=Aa ((F.o.setOther (b':=w.heap.size+1) 0 (.string y.name) (by omega)).setOther (b':=w.heap.size+1) 1 (.slice a y.args.length c) (by omega));have bk:=Aa ((Du S q m h).keep _ _ _ _ aX.o λb hb=>aD b (λe=>by rcases R.o b hb with h1|h1; have:=HY.o b h1; omega; omega));have ba:=Aa ((aV.o.setNew (b:=w.heap.size+1) (by omega) 0 (.string y.name)).setNew (b:=w.heap.size+1) (by omega) 1 (.slice a y.args.length c));have aE:=Aa (a8.o.kept λb hb=>aD b (by omega));have aF:Hid (Sl ((k.setCell (zD (w.heap.size+1) 0) (.string y.name)).setCell (zD (w.heap.size+1) 1) (.slice a y.args.length c)) (λb=>X b/\b<w.heap.size) a2 p.r.args):=az.o.exq ba.o (λb hb=>ax.o b hb.1);have bp:((k.setCell (zD (w.heap.size+1) 0) (.string y.name)).setCell (zD (w.heap.size+1) 1) (.slice a y.args.length c)).heap.size=k.heap.size:=(by simp[World.setCell]);go_wp2_with fail;clear x0 x1 y0 y1 q2 q3 aD xf;generalize ((k.setCell (zD (w.heap.size+1) 0) (.string y.name)).setCell (zD (w.heap.size+1) 1) (.slice a y.args.length c))=w5 at *;refine(N4 S q m h g hN p.r he.2 a2 c2 w5 _ P false (λb hb=>ax.o b hb.1) aF.o bk.o).mono ?_;rintro e U ⟨f,s,u,ok,f',Y2,rfl,bb,z,a7,hx,A,B,C⟩;have bl:Hid (Ak (Cq S q) w U):=ba.o.trans hx;have V:=Aa (A5.o.exq hx (λh=>by have:=aC.o _ h; omega));have Z:=Aa (B5.o.exq hx (λh=>by have:=aC.o _ h; omega));have bq:Hid (k.heap.size<=U.heap.size):=Aa (by have:=hx.size;omega);have ag:Hid (∀b,Y2 b->Y b∨w.heap.size+3<=b):=λb hb=>by
    rcases z b hb with h1|h1
    ·exact R.o b h1
    ·have:=aW.o; right; omega
   have bm:=Aa bb;have aG:Hid (Sl U (λb=>w.heap.size+3<=b) a y.args):=(aE.o.exq hx (λb hb h=>by have:=aC.o _ h; omega)).mono λb hb _=>hb.1;have aH:Hid (Sl U (λb=>w.heap.size+3<=b) s f.args):=A.mono λb hb h2=>by have:=aW.o; omega
   have aI:Hid (∀W:World,Sl W (λb=>w.heap.size+3<=b) a y.args->Sl W (λb=>w.heap.size+3<=b) s f.args->SU (Af (Aj h) p.l) (Af (Aj h) p.r) y.name a y.args.length f.name s f.args.length ok f' (λb=>(X b/\b<w.heap.size)∨w.heap.size<=b) W):=λW g1 g2=>by
    cases ok with
    |true=>obtain⟨e1,e2,e3⟩:=B rfl;exact Ad ⟨rfl,e1,by rw[T.o],by rw[T.o],by rw[e2],by rw[e2],by rw[<-T.o]; exact bj.o,by rw[<-e2]; exact e3,by rw[<-T.o]; exact g1.mono λb hb _=>Ae (by omega),by rw[<-e2]; exact g2.mono λb hb _=>Ae (by omega)⟩
    |false=>
     rcases C rfl with h1|h1
     ·exact Ae ⟨rfl,Ad h1⟩
     ·exact Ae ⟨rfl,Ae (Ae h1)⟩
   clear z hx A B C bb a7;have x0:=V.o.c0;have x1:=V.o.c1;have xf:=V.o.frozen;have y0:=Z.o.c0;have y1:=Z.o.c1;have yf:=Z.o.frozen;have bc:∀b,(Y2 b∨w.heap.size+3<=b)->b≠w.heap.size+1/\b≠w.heap.size+1+1:=λb hb=>by
    have h1:Y b∨w.heap.size+3<=b:=hb.elim (ag.o b) Ae;rcases h1 with h1|h1
    ·have:=HY.o b h1; omega
    ·omega
   have i:=Aa bc;clear bc;have G:=Aa ((((((V.o.setOther (b':=w.heap.size+1+1) 0 (.string f.name) (by omega)).setOther (b':=w.heap.size+1+1) 1 (.slice s f.args.length u) (by omega)).set 0 (.string y.name)).set 1 (.slice a y.args.length c)).setOther (b':=w.heap.size+1+1) 0 (.string f.name) (by omega)).setOther (b':=w.heap.size+1+1) 1 (.slice s f.args.length u) (by omega));have H:=Aa ((((((Z.o.set 0 (.string f.name)).set 1 (.slice s f.args.length u)).setOther (b':=w.heap.size+1) 0 (.string y.name) (by omega)).setOther (b':=w.heap.size+1) 1 (.slice a y.args.length c) (by omega)).set 0 (.string f.name)).set 1 (.slice s f.args.length u));have I:=G.o.cell 0;have J:=G.o.cell 1;have ar:=H.o.cell 0;have M:=H.o.cell 1;simp only[Ox,List.set_cons_zero,MS,BP,BR,BQ] at I J ar M;go_wp2_with fail;go_region
   all_goals go_wp2_with fail
   all_goals
    refine Ao (v:=.tuple #[.agg (zG y a c),.agg (zG f s u),.bool ok]) (by simp[results,results135,go_sem,I,J,ar,M]) rfl ?_;refine⟨y.name,a,y.args.length,c,f.name,s,f.args.length,u,ok,f',Y2,rfl,(Du S q m h).keep _ _ _ _ bm.o (λb hb=>Mr (i.o b (Ad hb)).2 (i.o b (Ad hb)).2 (i.o b (Ad hb)).1 (i.o b (Ad hb)).1 (i.o b (Ad hb)).2 (i.o b (Ad hb)).2),λb hb=>(ag.o b hb).imp id λh=>by omega,SV bl.o (by omega) (by omega) (by omega) (by omega) (by omega) (by omega),aI.o _ (aG.o.kept λb hb=>Mr (by omega) (by omega) (by omega) (by omega) (by omega) (by omega)) (aH.o.kept λb hb=>Mr (by omega) (by omega) (by omega) (by omega) (by omega) (by omega))⟩
  |false=>
   have yf:=F.o.frozen;have i:Hid (∀b,P b->b≠w.heap.size+1/\b≠w.heap.size+1+1):=λb hb=>by
    rcases R.o b hb with h1|h1
    ·have:=HY.o b h1; omega
    ·omega
   have aI:Hid (f'=true∨2000<Ah [Af (Aj h) p.l]):=aB.o rfl;clear aA aB;have G:=Aa ((((((E.o.set 0 (.string y.name)).set 1 (.slice a y.args.length c)).set 0 (.string y.name)).set 1 (.slice a y.args.length c)).setOther (b':=w.heap.size+1+1) 0 (.string ⟨#[]⟩) (by omega)).setOther (b':=w.heap.size+1+1) 1 zB (by omega));have H:=Aa ((((((F.o.setOther (b':=w.heap.size+1) 0 (.string y.name) (by omega)).setOther (b':=w.heap.size+1) 1 (.slice a y.args.length c) (by omega)).setOther (b':=w.heap.size+1) 0 (.string y.name) (by omega)).setOther (b':=w.heap.size+1) 1 (.slice a y.args.length c) (by omega)).set 0 (.string ⟨#[]⟩)).set 1 zB);have I:=G.o.cell 0;have J:=G.o.cell 1;have ar:=H.o.cell 0;have M:=H.o.cell 1;simp only[Ox,List.set_cons_zero,MS,BP,BR,BQ] at I J ar M;go_wp2_with fail;go_region
   all_goals go_wp2_with fail
   all_goals
    refine Ao (v:=.tuple #[.agg (zG y a c),.agg #[.string ⟨#[]⟩,zB],.bool false]) (by simp only[results,results135]; simp[go_sem,I,J,ar,M]) rfl ?_;refine⟨y.name,a,y.args.length,c,⟨#[]⟩,none,0,0,false,f',P,rfl,(Du S q m h).keep _ _ _ _ aX.o (λb hb=>Mr (i.o b hb).1 (i.o b hb).1 (i.o b hb).1 (i.o b hb).1 (i.o b hb).2 (i.o b hb).2),λb hb=>(R.o b hb).imp id λh=>by omega,SV aV.o (by omega) (by omega) (by omega) (by omega) (by omega) (by omega),Ae ⟨rfl,?_⟩⟩;rcases aI.o with h1|h1
    ·exact Ad h1
    ·exact Ae (Ad h1)
theorem SW {h:List (ByteArray×Tm)} {p:ByteArray×Tm} {i j:Nat} (hi:i<h.length) (a:i<(h++[p]).length) (b:j<=h.length):stood (h++[p]) i j a=stood h i j hi:=by
 unfold stood;rw[JN b,KJ hi]
theorem YO {h:List (ByteArray×Tm)} {x:ByteArray} {t:Tm} (g:Ci h) (m:Gk (Aj h) x t) (hi:h.length<(h++[(x,t)]).length):stood (h++[(x,t)]) h.length (h.length+1) hi=t:=by
 have g2:=g.snoc m;have h1:=Ju g2 hi;have e1:(h++[(x,t)])[h.length].1=x:=by simp
 rw[e1]at h1;have h2:(h++[(x,t)]).length=h.length+1:=by simp
 unfold stood;rw[e1,show(h++[(x,t)]).take (h.length+1)=h++[(x,t)] from Bv (by omega),Ff,LQ g.all.1 m.2.1 x];have h3:AC (Aj h) x=none:=by
  cases a:AC (Aj h) x with
  |none=>rfl
  |some u=>obtain⟨d,hd,e,_⟩:=Fl a;exact absurd e (m.2.1 d hd)
 rw[Fz (Aj h),h3];show Af [⟨x,t⟩] ⟨x,[]⟩=t;exact Is (by simp[AC])
theorem Eu.snoc {w:World} {Z:Nat->Prop} {h:List (ByteArray×Tm)} (g:Ci h) {L:List (ByteArray×Value)} (e:Eu w Z h L) {x:ByteArray} {t:Tm} (m:Gk (Aj h) x t) {a:Option Addr} {c:Nat} (n:Sl w Z a t.args):Eu w Z (h++[(x,t)]) (L++[(x,.agg #[.string t.name,.slice a t.args.length c,zA (h.length:Int)])]):=by
 have d:=e.1;refine⟨by simp[d],λi hi af=>?_⟩;by_cases b:i<h.length
 ·have f:i<L.length:=by omega
  rw[KJ b,KJ f];obtain⟨e1,j,o,c1,e2,e3,q⟩:=e.2 i b f;have k:max j (i+1)<=h.length:=Nat.max_le.2 ⟨e2,b⟩;refine⟨e1,j,o,c1,by simp; omega,?_,?_⟩
  ·rw[SW b hi k]; exact e3
  ·rw[SW b hi k]; exact q
 ·have r:i=h.length:=by simp at hi; omega
  subst r;have e1:(h++[(x,t)])[h.length]=(x,t):=by simp
  have e2:(L++[(x,Value.agg #[.string t.name,.slice a t.args.length c,zA (h.length:Int)])])[h.length]=(x,.agg #[.string t.name,.slice a t.args.length c,zA (h.length:Int)]):=by simp[<-d]
  rw[e1,e2];have l:=YO g m hi;refine⟨rfl,h.length,a,c,by simp,?_,?_⟩
  ·rw[Nat.max_eq_right (by omega),l]
  ·rw[Nat.max_eq_right (by omega),l]; exact n
def YP (S q:Nat) (td:Value) (h:List (ByteArray×Tm)) (nm:ByteArray) (t:Tm) (X Y:Nat->Prop) (w:World) (e:Ending) (w':World):Prop:=
 Ak (Cq S q) w w'/\((t.name=nm/\e=.returned (zA 0)/\Cp S q td h false Y w')∨(t.name≠nm/\CG nm [t]=true/\e=.returned (zA 6)/\Cp S q td h false Y w')∨
  (t.name≠nm/\CG nm [t]=false/\e=.returned (zA 0)/\Cp S q td (h++[(nm,t)]) false (λb=>Y b∨(X b/\b<w.heap.size)) w'))
theorem Ta (S q:Nat) (k:Value) (h:List (ByteArray×Tm)) (g:Ci h) (nm:ByteArray) (t:Tm) (D:t.name≠nm->CG nm [t]=false->Gk (Aj h) nm t) (a:Option Addr) (c:Nat) (w:World) (X Y:Nat->Prop) (E:∀b,X b->¬Cq S q b) (F:Sl w X a t.args) (ar:Cp S q k h false Y w):
  Calls prog 136 #[zC S,.string nm,.agg (zG t a c)] w λe w'=>YP S q k h nm t X Y w e w':=by
 have G:=Aa ar;have H:=Aa F;have I:=Aa E;have ai:=Aa D;obtain⟨⟨L,J,s,u⟩,a6,a7,M,hg⟩:=ar;have a8:=J.lt;have aA:=s.lt;have N:=Aa M;have aB:Hid (L.length=h.length):=u.1;have O:=Aa u;have R:=Aa s;have T:=Aa J;clear F E u hg M s D;by_cases f:t.name=nm
 ·have aC:=Ip f;have m:=Aa f;clear f;go_enter func136,ntmps136;go_wp2_with fail;go_ret;exact⟨(Ak.refl _ _).alloc _,Ad ⟨m.o,rfl,(Du S q k h).below G.o ((Ac _ _).alloc (Ag _) _)⟩⟩
 ·have aC:=JT f;have m:=Aa f;clear f;have U:Below w.heap.size w (w.alloc (.cells (zG t a c) 61)):=(Ac _ _).alloc (Ag _) _;have v:=Aa U;have T1:=Aa (Ab.new w (zG t a c) 61);have aJ:(w.alloc (.cells (zG t a c) 61)).heap.size=w.heap.size+1:=by simp
  clear U;go_enter func136,ntmps136;go_wp2_with fail;generalize (w.alloc (.cells (zG t a c) 61))=w1 at *;refine(YK nm t _ w1 X ⟨a,c,rfl,H.o.later v.o⟩).mono ?_;rintro e w2 ⟨rfl,n⟩;have j:=Aa (v.o.trans (n.mono v.o.size));have V:=Aa (T1.o.below n (by omega));have aD:Hid (w.heap.size+1<=w2.heap.size):=Aa (by have:=n.size;omega);clear n;cases ho:CG nm [t] with
  |true=>go_wp2_with fail;go_ret;exact⟨Ak.ofBelow j.o,Ae (Ad ⟨m.o,ho,rfl,(Du S q k h).below G.o j.o⟩)⟩
  |false=>
   have HO:=Aa ho;have x:=ai.o m.o ho;have aE:=Aa x;have W:=Aa (T.o.below j.o a8);have s1:w2.cell? (zD S 1)=some (.map (some q)):=W.o.cell 1;have t0:=V.o.c0;have t1:=V.o.c1;have y:BC w2.drew q L:=R.o.below (j.o.drew) aA;have hlen:Sem.run prog (Builtin.len_ #[159] 3 #[.map (some q)]) w2.drew=.ok (zA (h.length:Int)) w2.drew:=(by rw[Ko underlying159 y,aB.o]);have ab:BG L nm=none:=O.o.none λi hi e=>by
    obtain⟨d,hd,e1⟩:=(g.bound h.length (Ag _) h[i].1).2 ⟨i,hi,hi,rfl⟩;rw[GM]at hd;exact x.2.1 d hd (e1.trans e)
   obtain⟨z,aF,ax,A,ay,az,a1,r⟩:=Lj (P:=prog) underlying159 underlying9 y nm (.agg #[.string t.name,.slice a t.args.length c,zA (h.length:Int)]) ab;have aG:Hid (Ak (Cq S q) w z):=by
    have h1:Ak (Cq S q) w w2.drew:=Ak.ofBelow j.o.drew;exact⟨ay.trans h1.os,az.trans h1.tape,a1.trans h1.output,by rw[A]; exact h1.size,λb hb f=>(r b (λe=>f (Ae e))).trans (h1.block b hb f)⟩
   have aH:Hid (Cp S q k (h++[(nm,t)]) false (λb=>Y b∨(X b/\b<w.heap.size)) z):=by
    have aI:S≠q:=λe=>by
     obtain⟨es,aK,h1,_⟩:=R.o;have h2:=T.o;subst e;unfold Ab at h2;rw[h1]at h2; cases h2
    have keep:∀(Z:Nat->Prop) a l,(∀b,Z b->((Y b∨(X b/\b<w.heap.size))/\b≠S/\b≠q)/\b<w.heap.size)->Sl w Z a l->Sl z (λb=>(Y b∨(X b/\b<w.heap.size))/\b≠S/\b≠q) a l:=λZ a l B C=>(C.kept λb hb=>(r b (B b hb).1.2.2).trans (j.o.drew.block b (B b hb).2)).mono λb hb _=>(B b hb).1;refine⟨⟨_,?_,ax,?_⟩,Ad a6,Ad a7,λb hb=>?_,λhf=>by cases hf⟩
    ·have h1:=W.o;unfold Ab at *;rw[r S aI];exact h1
    ·exact Eu.snoc g (O.o.imp λa l C=>keep _ a l (λb hb=>⟨⟨Ad hb.1,hb.2⟩,N.o b hb.1⟩) C) aE.o (keep (λb=>X b/\b<w.heap.size) a t.args (λb hb=>⟨⟨Ae hb,λe=>I.o b hb.1 (Ad e),λe=>I.o b hb.1 (Ae e)⟩,hb.2⟩) (H.o.mono λb h1 h2=>⟨h1,h2⟩))
    ·rw[A];show b<w2.heap.size;have n:b<w.heap.size:=by
      rcases hb with hb|hb
      ·exact N.o b hb
      ·exact hb.2
     have:=aD.o;omega
   clear ax A ay az a1 r y ab x ho;go_wp2_with fail;go_region
   all_goals go_wp2_with fail
   all_goals go_ret
   all_goals exact⟨aG.o,Ae (Ae ⟨m.o,HO.o,rfl,aH.o⟩)⟩
abbrev Ec:=Pc×Nat
def EO (x:Ec):List Value:=[.string x.1.1.l.name,.slice x.1.2.1.1 x.1.1.l.args.length x.1.2.1.2,.string x.1.1.r.name,.slice x.1.2.2.1 x.1.1.r.args.length x.1.2.2.2,zA (x.2:Int)]
def Db:List Ec->List Value
 | []=>[]
 |x::r=>EO x++Db r
theorem Kq (b:List Ec):∀a,Db (a++b)=Db a++Db b
 | []=>rfl
 |x::r=>by rw[Di,Db,Db,Kq b r,IX]
theorem Ms:∀a:List Ec,(Db a).length=a.length*5
 | []=>rfl
 |x::r=>by rw[Db,Ed,Ms r]; simp[EO]; omega
theorem Tc:∀(a:List Ec) (i:Nat) (h:i<a.length) (j:Nat),j<5->(Db a)[i*5+j]? = (EO a[i])[j]?
 | [],i,h,j,b=>by simp at h
 |x::r,0,h,j,b=>by
  rw[Db,MO (by simp[EO]; omega)]; simp
 |x::r,i+1,h,j,b=>by
  rw[Db,Oy (by simp[EO]; omega)];have e:(i+1)*5+j-(EO x).length=i*5+j:=by simp[EO]; omega
  rw[e,Tc r i (by simpa using h) j b];simp
structure Dh (w:World) (N:Nat) (Y:Nat->Prop) (v:Value) (cs:List Ec):Prop where
 own:w.ownsRow N 167 5 v cs.length (Db cs)
 row:∀x∈cs,Sl w (λb=>Y b∨(N<=b/\some b≠v.ownBlock)) x.1.2.1.1 x.1.1.l.args/\Sl w (λb=>Y b∨(N<=b/\some b≠v.ownBlock)) x.1.2.2.1 x.1.1.r.args
theorem Dh.start (w:World) (N:Nat) (Y:Nat->Prop):Dh w N Y zB []:=⟨Hn w N _ 5,by simp⟩
theorem Dh.below {w w':World} {N:Nat} {Y:Nat->Prop} {v:Value} {cs:List Ec} (h:Dh w N Y v cs) (hb:Below w.heap.size w w'):Dh w' N Y v cs:=
 ⟨h.own.kept (w' := w') (row := none) ⟨hb.os, hb.tape, hb.output, hb.size, λj a _ => hb.block j a⟩ (by rcases IV (Value.ownBlock v) with h | ⟨x, h⟩; exact Ad h; exact Ae (by rw [h]; simp)),
  λx hx=>⟨(h.row x hx).1.later hb,(h.row x hx).2.later hb⟩⟩
theorem Dh.ne {w:World} {N:Nat} {Y:Nat->Prop} {v:Value} {cs:List Ec} (h:Dh w N Y v cs) {b:Nat} (hb:b<N):some b≠v.ownBlock:=λe=>by
 have:=(h.own.lt b e.symm).1; omega
theorem Dh.push {w w1 w2 w3:World} {N:Nat} {Y:Nat->Prop} {v:Value} {cs:List Ec} (h:Dh w N Y v cs) (hN:N<=w.heap.size) (i:∀b,Y b->b<N) (hb:Below w.heap.size w w1) {x:Ec}
  (ht:Sl w1 (λb=>Y b∨w.heap.size<=b) x.1.2.1.1 x.1.1.l.args/\Sl w1 (λb=>Y b∨w.heap.size<=b) x.1.2.2.1 x.1.1.r.args) (o:Obj) (m:w2=w1.alloc o) {g cap:Nat}
  (n:w3.ownsRow N 167 5 (.slice (some (zD g 0)) (cs.length+1) cap) (cs.length+1) (Db cs++EO x)) (j:w2.grownBy w3 v.ownBlock) (c:v.ownBlock=some g∨g=w2.heap.size):
  Dh w3 N Y (.slice (some (zD g 0)) (cs.length+1) cap) (cs++[x]):=by
 subst m;have d:=h.own.lt;have af:w1.heap.size<=(w1.alloc o).heap.size:=by simp
 have ag:=hb.size;have ah:N<=g:=by
  rcases c with e|e
  ·exact(d g e).1
  ·simp at e; omega
 have k:∀(a:Option Addr) (l:List Tm),Sl w (λb=>Y b∨(N<=b/\some b≠v.ownBlock)) a l->Sl w3 (λb=>Y b∨(N<=b/\some b≠(Value.slice (some (zD g 0)) (cs.length+1) cap).ownBlock)) a l:=λa l h0=>by
  have h1:Sl w (λb=>(Y b∨(N<=b/\some b≠v.ownBlock))/\b<w.heap.size) a l:=h0.mono λb h1 h2=>⟨h1,h2⟩;have h2:Sl w3 (λb=>(Y b∨(N<=b/\some b≠v.ownBlock))/\b<w.heap.size) a l:=h1.kept λb hx=>by
   have f:some b≠v.ownBlock:=by
    rcases hx.1 with hy|hy
    ·exact h.ne (i b hy)
    ·exact hy.2
   rw[j.block b (by simp; omega) f,BH _ _ _ (by omega),hb.block b hx.2]
  refine h2.mono λb hx _=>?_;rcases hx.1 with hy|hy
  ·exact Ad hy
  ·refine Ae ⟨hy.1,λe=>?_⟩;simp[Value.ownBlock]at e;rcases c with e'|e'
   ·exact hy.2 (by rw[e',e])
   ·simp at e'; omega
 have new:∀(a:Option Addr) (l:List Tm),Sl w1 (λb=>Y b∨w.heap.size<=b) a l->Sl w3 (λb=>Y b∨(N<=b/\some b≠(Value.slice (some (zD g 0)) (cs.length+1) cap).ownBlock)) a l:=λa l h0=>by
  have h1:Sl w1 (λb=>(Y b∨w.heap.size<=b)/\b<w1.heap.size) a l:=h0.mono λb h1 h2=>⟨h1,h2⟩;have h2:Sl w3 (λb=>(Y b∨w.heap.size<=b)/\b<w1.heap.size) a l:=h1.kept λb hx=>by
   have f:some b≠v.ownBlock:=by
    rcases hx.1 with hy|hy
    ·exact h.ne (i b hy)
    ·intro e; have:=(d b e.symm).2; omega
   rw[j.block b (by simp; omega) f,BH _ _ _ hx.2]
  refine h2.mono λb hx _=>?_;rcases hx.1 with hy|hy
  ·exact Ad hy
  ·refine Ae ⟨by omega,λe=>?_⟩;simp[Value.ownBlock]at e;rcases c with e'|e'
   ·have:=(d g e').2; omega
   ·simp at e'; omega
 refine⟨by rw[Kq]; simpa [Db] using n,λy hy=>?_⟩;rcases BJ.1 hy with hy|hy
 ·exact⟨k _ _ (h.row y hy).1,k _ _ (h.row y hy).2⟩
 ·have e:y=x:=by simpa using hy
  subst e;exact⟨new _ _ ht.1,new _ _ ht.2⟩
theorem Tryz.infoEq:(prog.info? 167).map (λi=>(i.zero,i.size,i.bytes))=some (some (.agg #[.string ByteArray.empty,zB,.string ByteArray.empty,zB,zA 0]),5,88):=by kernel_rfl
theorem N8 (w:World) (c0 c1 c2 c3 a:Value) (T:Nat):∀j u,[c0,c1,c2,c3,a][j]? = some u->(w.alloc (.cells #[c0,c1,c2,c3,a] T)).cell? (((zD w.heap.size 0):Addr).add j)=some u:=
 World.news_of_block (cs:=#[c0,c1,c2,c3,a]) (Ik w _)
theorem Dh.exq {w w':World} {Q:Nat->Prop} {N:Nat} {Y:Nat->Prop} {v:Value} {cs:List Ec} (h:Dh w N Y v cs) (he:Ak Q w w') (a:∀b,Q b->b<N) (c:∀b,Q b->¬Y b):Dh w' N Y v cs:=
 ⟨DH h.own λg d => he.block g (h.own.lt g d).2 (λhq => by have := a g hq; have := (h.own.lt g d).1; omega),
  λx hx=>⟨(h.row x hx).1.exq he λb hb hq=>by
   rcases hb with h1|h1
   ·exact c b hq h1
   ·have:=a b hq; omega,
   (h.row x hx).2.exq he λb hb hq=>by
   rcases hb with h1|h1
   ·exact c b hq h1
   ·have:=a b hq; omega⟩⟩
theorem Jz {w1 w3:World} {N n cap:Nat} {Y:Nat->Prop} {v:Value} {o:Obj} {g:Nat} (c:∀b,Y b->some b≠v.ownBlock) (d:(w1.alloc o).grownBy w3 v.ownBlock) (f:v.ownBlock=some g∨g=(w1.alloc o).heap.size) {a:Option Addr} {l:List Tm} (h0:Sl w1 (λb=>Y b∨(N<=b/\some b≠v.ownBlock)) a l):
  Sl w3 (λb=>Y b∨(N<=b/\some b≠(Value.slice (some (zD g 0)) n cap).ownBlock)) a l:=by
 have h1:Sl w1 (λb=>(Y b∨(N<=b/\some b≠v.ownBlock))/\b<w1.heap.size) a l:=h0.mono λb h1 h2=>⟨h1,h2⟩;refine(h1.kept λb hx=>?_).mono λb hx _=>?_
 ·have h:some b≠v.ownBlock:=by
   rcases hx.1 with hy|hy
   ·exact c b hy
   ·exact hy.2
  rw[d.block b (by simp; omega) h,BH _ _ _ hx.2]
 ·rcases hx.1 with hy|hy
  ·exact Ad hy
  ·refine Ae ⟨hy.1,λe=>?_⟩;simp[Value.ownBlock]at e;rcases f with e'|e'
   ·exact hy.2 (by rw[e',e])
   ·simp at e'; omega
theorem Dh.push2 {w w1 w3:World} {N:Nat} {Y:Nat->Prop} {v:Value} {cs:List Ec} (h:Dh w N Y v cs) (f:∀b,Y b->b<N) (hb:Below w.heap.size w w1) {x:Ec}
  (ht:Sl w1 (λb=>Y b∨(N<=b/\some b≠v.ownBlock)) x.1.2.1.1 x.1.1.l.args/\Sl w1 (λb=>Y b∨(N<=b/\some b≠v.ownBlock)) x.1.2.2.1 x.1.1.r.args) (o:Obj) {g cap:Nat}
  (i:w3.ownsRow N 167 5 (.slice (some (zD g 0)) (cs.length+1) cap) (cs.length+1) (Db cs++EO x)) (a:(w1.alloc o).grownBy w3 v.ownBlock) (c:v.ownBlock=some g∨g=(w1.alloc o).heap.size):
  Dh w3 N Y (.slice (some (zD g 0)) (cs.length+1) cap) (cs++[x]):=by
 have d:∀b,Y b->some b≠v.ownBlock:=λb hb=>h.ne (f b hb);refine⟨by rw[Kq]; simpa [Db] using i,λy hy=>?_⟩;rcases BJ.1 hy with hy|hy
 ·exact⟨Jz d a c ((h.row y hy).1.later hb),Jz d a c ((h.row y hy).2.later hb)⟩
 ·have e:y=x:=by simpa using hy
  subst e;exact⟨Jz d a c ht.1,Jz d a c ht.2⟩
theorem Dh.setCell {w:World} {N:Nat} {Y:Nat->Prop} {v:Value} {cs:List Ec} (h:Dh w N Y v cs) {b i:Nat} (hb:b<N) (a:¬Y b) (u:Value):Dh (w.setCell (zD b i) u) N Y v cs:=
 h.exq (Q:=λc=>c=b) ((Ak.refl (λc=>c=b) w).set (B:=b) rfl i u) (λc hc=>by omega) (λc hc=>by rw[hc]; exact a)
theorem Td {S q:Nat} {d c:Value} {h:List (ByteArray×Tm)} {Y:Nat->Prop} {w w3:World} (he:Cp S q d h false Y w) (hk:∀b,Y b->w3.heap[b]? = w.heap[b]?):Cp S q c h false Y (w3.setCell (zD S 0) c):=by
 have g:=(Du S q d h).keep _ _ _ _ he hk;obtain⟨⟨L,e1,e2,e3⟩,i,e5,j,k⟩:=g;have m:S≠q:=λe=>by
  obtain⟨es,ag,h1,_⟩:=e2;subst e;unfold Ab at e1;rw[h1]at e1; cases e1
 have f:∀b,b≠S->(w3.setCell (zD S 0) c).heap[b]? = w3.heap[b]? := λb hb=>Al _ _ _ _ (by simpa using hb);refine⟨⟨L,?_,e2.kept (f q (Ne.symm m)),e3.imp λa l n=>(n.kept λb hb=>f b hb.2.1)⟩,i,e5,λb hb=>by simpa [World.setCell] using j b hb,k⟩;have:=e1.set 0 c;simpa using this
def Dp (x:Ec):Pr×Nat:=(x.1.1,x.2)
theorem Sl.blk {w:World} {X:Nat->Prop} {b o:Nat} {l:List Tm} (h:Sl w X (some (zD b o)) l) (a:0<l.length):X b:=by
 rcases h.2 with h1|⟨b',o',e,h1⟩
 ·subst h1; simp at a
 ·simp at e;obtain⟨rfl,rfl⟩:=e;exact(KO _ _ _ h1 0 a).1
theorem Mu:∀ {a b:List Tm},a.length=b.length->(Az a b).length=a.length
 | [],[],_=>rfl
 | [],_::_,h=>by simp at h
 |_::_,[],h=>by simp at h
 |t::a,u::b,h=>by rw[Az,Cg,Mu (by simpa using h),Cg]
theorem Te:∀ {a b:List Tm} (k:Nat) (h1:k<a.length) (h2:k<b.length) (h3:k<(Az a b).length),(Az a b)[k]=⟨a[k],b[k]⟩
 | [],_,k,h1,_,_=>by simp at h1
 |_::_,[],k,_,h2,_=>by simp at h2
 |t::a,u::b,0,_,_,_=>rfl
 |t::a,u::b,k+1,h1,h2,h3=>by
  simp only[Az,Fg];exact Te k (by simpa using h1) (by simpa using h2) _
def Kr (S q N:Nat) (h:List (ByteArray×Tm)) (cs:List Ec) (w:World):Prop:=
 ∃(td:Value) (Y:Nat->Prop),Cp S q td h false Y w/\Dh w N (λb=>b<N/\b≠S/\b≠q) td cs/\(∀b,Y b->some b≠td.ownBlock)/\S<N/\q<N/\N<=w.heap.size
def N9 (S q N:Nat) (h:List (ByteArray×Tm)) (cs:List Ec) (Y:Nat->Prop) (td0:Value) (w:World) (lA lB:List Tm) (a1 a2:Option Addr) (i:Value) (wr:World):Prop:=
 ∃(k:Nat) (td:Value) (cs':List Ec),k<=lA.length/\i=zA ((k:Int)-1)/\Cp S q td h false Y wr/\Dh wr N (λb=>b<N/\b≠S/\b≠q) td cs'/\(∀b,Y b->some b≠td.ownBlock)/\cs'.map Dp=cs.map Dp++((Az lA lB).drop k).reverse.map (λp=>(p,h.length))/\
  Sl wr (λb=>(b<N/\b≠S/\b≠q)∨(N<=b/\some b≠td.ownBlock)) a1 lA/\Sl wr (λb=>(b<N/\b≠S/\b≠q)∨(N<=b/\some b≠td.ownBlock)) a2 lB/\Ak (λb=>b=S∨some b=td0.ownBlock) w wr/\N<=wr.heap.size/\∀k,td.ownBlock=some k->td0.ownBlock=some k∨w.heap.size<=k
theorem YQ {S q N:Nat} {h:List (ByteArray×Tm)} {cs f:List Ec} {Y:Nat->Prop} {w wr w3:World} {c d:List Tm} {t a2:Option Addr} {k:Nat} {a r:Value} (C:S<N) (av:q<N) (D:c.length=d.length) (hk:k<c.length) (u:Cp S q a h false Y wr) (v:Dh wr N (λb=>b<N/\b≠S/\b≠q) a f) (y:∀b,Y b->some b≠a.ownBlock) (E:f.map Dp=cs.map Dp++((Az c d).drop (k+1)).reverse.map (λp=>(p,h.length)))
  (F:Sl wr (λb=>(b<N/\b≠S/\b≠q)∨(N<=b/\some b≠a.ownBlock)) t c) (G:Sl wr (λb=>(b<N/\b≠S/\b≠q)∨(N<=b/\some b≠a.ownBlock)) a2 d) (hx:Ak (λb=>b=S∨some b=r.ownBlock) w wr) (hN:N<=wr.heap.size) (aw:N<=w.heap.size) (z:∀k,a.ownBlock=some k->r.ownBlock=some k∨w.heap.size<=k)
  {m n:Option Addr} {d1 d2:Nat} (H:Sl wr (λb=>(b<N/\b≠S/\b≠q)∨(N<=b/\some b≠a.ownBlock)) m (c[k]'hk).args) (I:Sl wr (λb=>(b<N/\b≠S/\b≠q)∨(N<=b/\some b≠a.ownBlock)) n (d[k]'(by omega)).args) {o:Obj} {g cap:Nat}
  (J:w3.ownsRow N 167 5 (.slice (some (zD g 0)) (f.length+1) cap) (f.length+1) (Db f++EO ((⟨c[k]'hk,d[k]'(by omega)⟩,(m,d1),(n,d2)),h.length))) (i:(wr.drew.alloc o).grownBy w3 a.ownBlock) (j:a.ownBlock=some g∨g=(wr.drew.alloc o).heap.size):
  N9 S q N h cs Y r w c d t a2 (zA ((k:Int)-1)) (w3.setCell (zD S 0) (.slice (some (zD g 0)) (f.length+1) cap)):=by
 have l:Below wr.heap.size wr wr.drew:=(Ac _ _).drew;have A:∀b,(b<N/\b≠S/\b≠q)->some b≠a.ownBlock:=λb hb=>v.ne hb.1;have s:=u.2.2.2.1;have ar:=i.size;simp at ar;refine⟨k,.slice (some (zD g 0)) (f.length+1) cap,f++[((⟨c[k]'hk,d[k]'(by omega)⟩,(m,d1),(n,d2)),h.length)],by omega,rfl,Td u (λb hb=>?_),?_,λb hb e=>?_,?_,?_,?_,?_,by simp[World.setCell]; omega,λL M=>?_⟩
 ·rw[i.block b (by have:=s b hb; simp; omega) (y b hb),BH _ _ _ (by have:=s b hb; simpa using this)];rfl
 ·exact(v.push2 (λb hb=>hb.1) l (x:=((⟨c[k]'hk,d[k]'(by omega)⟩,(m,d1),(n,d2)),h.length)) ⟨H.later l,I.later l⟩ o J i j).setCell C (λhb=>hb.2.1 rfl) _
 ·have e2:b=g:=by simpa [Value.ownBlock] using e
  subst e2;rcases j with h1|h1
  ·exact y b hb h1.symm
  ·have:=s b hb; simp at h1; omega
 ·have B:k<(Az c d).length:=by rw[Mu D]; exact hk
  rw[CY,E,List.drop_eq_getElem_cons B,List.reverse_cons,CY,Te k hk (by omega) B];simp[Dp]
 ·exact(Jz A i j (F.later l)).kept λb hb=>Al _ _ _ _ (by
   simp;rcases hb with hb|hb
   ·exact hb.2.1
   ·omega)
 ·exact(Jz A i j (G.later l)).kept λb hb=>Al _ _ _ _ (by
   simp;rcases hb with hb|hb
   ·exact hb.2.1
   ·omega)
 ·refine((((hx.drew).alloc o).grown i (λb hb=>?_)).set (Ad rfl) _ _);rcases z b hb with h1|h1
  ·exact Ae (Ae h1.symm)
  ·exact Ad h1
 ·have e:g=L:=by simpa [Value.ownBlock] using M
  subst e;rcases j with h1|h1
  ·exact z g h1
  ·right;have:=hx.size;simp at h1;omega
def Ks (S q b1 b2 o1 o2:Nat) (tA tB:Tm) (x1 x2:Option Addr) (d1 d2 n:Nat) (w':World):Prop:=
 w'.cell? (zD S 1)=some (.map (some q))/\w'.cell? (zD b1 o1)=some (.string tA.name)/\w'.cell? ⟨b1,o1+1,none⟩=some (.slice x1 tA.args.length d1)/\w'.cell? (zD b2 o2)=some (.string tB.name)/\w'.cell? ⟨b2,o2+1,none⟩=some (.slice x2 tB.args.length d2)/\Sem.run prog (Builtin.len_ #[159] 3 #[.map (some q)]) w'=.ok (zA n) w'
def YR (S q N:Nat) (h:List (ByteArray×Tm)) (cs:List Ec) (lA lB:List Tm) (td0:Value) (w:World) (e:Ending) (w':World):Prop:=
 e=.returned (.tuple #[])/\∃cs',Kr S q N h cs' w'/\cs'.map Dp=cs.map Dp++(Az lA lB).reverse.map (λp=>(p,h.length))/\Ak (λb=>b=S∨some b=td0.ownBlock) w w'
theorem YS (S q N:Nat) (h:List (ByteArray×Tm)) (cs:List Ec) (t y:List Tm) (hl:t.length=y.length) (bx:cs.length+t.length<=1000000000) (J:h.length<=1000000000) (a1 a2:Option Addr) (c1 c2:Nat) (w:World) (C:Value) (Y:Nat->Prop) (hE:Cp S q C h false Y w) (hR:Dh w N (λb=>b<N/\b≠S/\b≠q) C cs) (hY:∀b,Y b->some b≠C.ownBlock) (aE:S<N) (aF:q<N) (bb:N<=w.heap.size)
  (aG:Sl w (λb=>(b<N/\b≠S/\b≠q)∨(N<=b/\some b≠C.ownBlock)) a1 t) (aH:Sl w (λb=>(b<N/\b≠S/\b≠q)∨(N<=b/\some b≠C.ownBlock)) a2 y):
  Calls prog 137 #[zC S,.slice a1 t.length c1,.slice a2 y.length c2] w λe w'=>YR S q N h cs t y C w e w':=by
 obtain⟨i0,bc,bd,bf,bg⟩:=Dq Tryz.infoEq;have HE:=Aa hE;have HR:=Aa hR;have HY:=Aa hY;have bh:=Aa aG;have bj:=Aa aH;have bz:=aG.1;have b0:=aH.1;have R:=Aa hl;have hle:Hid (t.length<=1000000000):=Aa (by omega);clear hE hR hY aG aH;rw[<-hl];clear hl;go_enter func137,ntmps137;go_wp2_with fail;go_loopw [6] (λi wr=>N9 S q N h cs Y C w t y a1 a2 i wr) (λi wr=>((intOf i)+1).toNat);case atStart=>
  refine⟨t.length,C,cs,Ag _,?_,HE.o,HR.o,HY.o,?_,bh.o,bj.o,Ak.refl _ _,bb,λk hk=>Ad hk⟩
  ·have:=hle.o;go_num
  ·rw[List.drop_eq_nil_of_le (by rw[Mu R.o]; exact Ag _)];simp
 case round=>
  obtain⟨k,u,D,hk,rfl,aI,aJ,aK,aB,ai,aj,aL,bk,au⟩:=hrel;have aM:=Aa aI;have H:=Aa aJ;have aN:=Aa aK;have aO:=Aa aB;have aP:=Aa aL;have bp:=Aa au;clear au;have ak:=Aa ai;have al:=Aa aj;have aC:Hid (D.length<=1000000000):=by
   have h1:=Dl List.length aB;simp[Mu R.o]at h1;unfold Hid;omega
  cases k with
  |zero=>
   clear aI aJ aK aB aL ai aj;go_wp2_with fail;go_end0
   refine⟨rfl,D,⟨u,Y,aM.o,H.o,aN.o,aE,aF,bk⟩,?_,aP.o⟩;have:=aO.o;simpa using this
  |succ k=>
   have bq:((k+1:Nat):Int)-1=k:=(by omega);rw[bq];obtain⟨r,M,A,d1,rfl,p0,p1,br⟩:=ai.get (Ac _ _) (λ_ _ h=>h) k hk;obtain⟨s,O,B,d2,rfl,r0,r1,bs⟩:=aj.get (Ac _ _) (λ_ _ h=>h) k (by have:=R.o; omega);obtain⟨av,cv,T,aw⟩:=br;simp at T;obtain⟨rfl,rfl⟩:=T;obtain⟨av,cv,T,ax⟩:=bs;simp at T;obtain⟨rfl,rfl⟩:=T;obtain⟨⟨L,I,U,aQ⟩,b3,b4,bt,P⟩:=aI;have bl:=Aa aw;have bm:=Aa ax;have HB:=Aa I;have s0:wr.cell? (zD S 0)=some u:=I.cell 0;have b5:∀o,(wr.alloc o).cell? (zD S 0)=some u:=λo=>(I.alloc o).cell 0;have s1:wr.cell? (zD S 1)=some (.map (some q)):=I.cell 1;have hlen:Sem.run prog (Builtin.len_ #[159] 3 #[.map (some q)]) wr.drew=.ok (zA (h.length:Int)) wr.drew:=(by have h1:BC wr.drew q L:=U.below ((Ac wr.heap.size wr).drew) U.lt;rw[Ko underlying159 h1,aQ.1]);have b6:(k:Int)<(t.length:Int):=(by omega);have b7:k<y.length:=by have:=R.o; omega
   have ay:=Aa (H.o.below ((Ac wr.heap.size wr).drew)).own;have ao:Hid (some S≠u.ownBlock):=H.o.ne aE;have aR:Hid (BC wr q L/\L.length=h.length):=⟨U,aQ.1⟩;have bu:Hid (q≠S):=λe=>by
    obtain⟨es,b8,h1,_⟩:=U;subst e;unfold Ab at I;rw[h1]at I; cases I
   have bw:Hid (some q≠u.ownBlock):=H.o.ne aF;have aS:Hid (r≠S):=by
    rcases ak.o.blk (by omega) with h1|h1
    ·exact h1.2.1
    ·unfold Hid; omega
   have aT:Hid (s≠S):=by
    rcases al.o.blk (by omega) with h1|h1
    ·exact h1.2.1
    ·unfold Hid; omega
   have aU:Hid (some r≠u.ownBlock):=by
    rcases ak.o.blk (by omega) with h1|h1
    ·exact H.o.ne h1.1
    ·exact h1.2
   have aV:Hid (some s≠u.ownBlock):=by
    rcases al.o.blk (by omega) with h1|h1
    ·exact H.o.ne h1.1
    ·exact h1.2
   clear aJ aK aB aL ai aj aw ax I U aQ P bt;have aD:Hid (∀(g cap:Nat) (w3:World),w3.ownsRow N 167 5 (.slice (some (zD g 0)) (D.length+1) cap) (D.length+1) (Db D++EO ((⟨t[k],y[k]⟩,(A,d1),(B,d2)),h.length))->(wr.drew.alloc (.cells #[.string t[k].name,.slice A t[k].args.length d1,.string y[k].name,.slice B y[k].args.length d2,zA (h.length:Int)] 167)).grownBy w3 u.ownBlock->(u.ownBlock=some g∨g=(wr.drew.alloc (.cells #[.string t[k].name,.slice A t[k].args.length d1,.string y[k].name,.slice B y[k].args.length d2,zA (h.length:Int)] 167)).heap.size)->N9 S q N h cs Y C w t y (some (zD r M)) (some (zD s O)) (zA ((k:Int)-1)) (w3.setCell (zD S 0) (.slice (some (zD g 0)) (D.length+1) cap))):=λg cap w3 h1 h2 h3=>YQ aE aF R.o hk aM.o H.o aN.o aO.o ak.o al.o aP.o bk bb bp.o bl.o bm.o h1 h2 h3;unfold EO at aD;generalize t[k]=E at *;generalize y[k]=F at *;generalize Db D=fl at *;dsimp only at aD;clear bl bm aM H aN aO aP ak al HE HR HY bh bj;have bn:Ks S q r s (M+k*2) (O+k*2) E F A B d1 d2 h.length wr.drew:=⟨s1,p0,p1,r0,r1,hlen⟩;have aW:∀W:World,W.heap[q]? = wr.heap[q]? -> Sem.run prog (Builtin.len_ #[159] 3 #[.map (some q)]) W=.ok (zA (h.length:Int)) W:=λW hW=>by
    rw[Ko underlying159 (aR.o.1.kept hW),aR.o.2]
   have KP:Hid (∀W:World,W.heap[S]? = wr.heap[S]? -> W.heap[r]? = wr.heap[r]? -> W.heap[s]? = wr.heap[s]? -> W.heap[q]? = wr.heap[q]? -> Ks S q r s (M+k*2) (O+k*2) E F A B d1 d2 h.length W):=λW h1 h2 h3 h4=>⟨by rw[DC h1]; exact s1,by rw[DC h2]; exact p0,by rw[DC h2]; exact p1,by rw[DC h3]; exact r0,by rw[DC h3]; exact r1,aW W h4⟩;have bo:S<wr.heap.size:=HB.o.lt;have az:r<wr.heap.size:=Em p0;have a6:s<wr.heap.size:=Em r0;have a7:q<wr.heap.size:=aR.o.1.lt;have aX:Hid (∀o,Ks S q r s (M+k*2) (O+k*2) E F A B d1 d2 h.length (wr.drew.alloc o)):=λo=>KP.o (wr.drew.alloc o) (BH _ _ _ (by simpa using bo)) (BH _ _ _ (by simpa using az)) (BH _ _ _ (by simpa using a6)) (BH _ _ _ (by simpa using a7));have KG:Hid (∀(o:Obj) (w3:World),(wr.drew.alloc o).grownBy w3 u.ownBlock->w3.heap[S]? = wr.heap[S]? /\ w3.heap[r]? = wr.heap[r]? /\ w3.heap[s]? = wr.heap[s]? /\ w3.heap[q]? = wr.heap[q]?):=λo w3 P=>⟨(P.block S (by simp; omega) ao.o).trans (BH _ _ _ (by simpa using bo)),(P.block r (by simp; omega) aU.o).trans (BH _ _ _ (by simpa using az)),(P.block s (by simp; omega) aV.o).trans (BH _ _ _ (by simpa using a6)),(P.block q (by simp; omega) bw.o).trans (BH _ _ _ (by simpa using a7))⟩;have KS:Hid (∀(w3:World) (v:Value),(w3.heap[S]? = wr.heap[S]? /\ w3.heap[r]? = wr.heap[r]? /\ w3.heap[s]? = wr.heap[s]? /\ w3.heap[q]? = wr.heap[q]?)->Ks S q r s (M+k*2) (O+k*2) E F A B d1 d2 h.length (w3.setCell (zD S 0) v)):=λw3 v J=>by
    obtain⟨e1,e2,e3,e4,e5,e6⟩:=KP.o w3 J.1 J.2.1 J.2.2.1 J.2.2.2;have a8:r≠S:=λe=>by have h1:=aS.o; exact h1 e
    have aA:s≠S:=λe=>by have h1:=aT.o; exact h1 e
    refine⟨(AB _ _ _ _ (by simp)).trans e1,(AB _ _ _ _ (λe=>a8 (by injection e with e; exact e.symm))).trans e2,(AB _ _ _ _ (λe=>a8 (by injection e with e; exact e.symm))).trans e3,(AB _ _ _ _ (λe=>aA (by injection e with e; exact e.symm))).trans e4,(AB _ _ _ _ (λe=>aA (by injection e with e; exact e.symm))).trans e5,aW _ ?_⟩;rw[Al _ _ _ _ (by simpa using bu.o)];exact J.2.2.2
   clear p0 p1 r0 r1 s1 hlen aW;go_wp2_with fail;refine CC (S:=Ks S q r s (M+k*2) (O+k*2) E F A B d1 d2 h.length) (by kernel_rfl) bn λhH=>?_;clear bn;refine tkz 0 ?_ (hy:=by intro w' a;obtain⟨d,f,j,l,m,n⟩:=a;go_simp<;>with_reducible rfl);refine tkz 1 ?_ (hy:=by intro w' a;obtain⟨d,f,j,l,m,n⟩:=a;go_simp<;>with_reducible rfl);refine tkz 2 ?_ (hy:=by intro w' a;obtain⟨d,f,j,l,m,n⟩:=a;go_simp<;>with_reducible rfl);refine tkz 3 ?_ (hy:=by intro w' a;obtain⟨d,f,j,l,m,n⟩:=a;go_simp<;>with_reducible rfl);refine tkz 5 ?_ (hy:=by intro w' a;obtain⟨d,f,j,l,m,n⟩:=a;go_simp<;>with_reducible rfl);refine tkz 6 ?_ (hy:=by intro w' a;obtain⟨d,f,j,l,m,n⟩:=a;go_simp<;>with_reducible rfl);refine tkz 7 ?_ (hy:=by intro w' a;obtain⟨d,f,j,l,m,n⟩:=a;go_simp<;>with_reducible rfl);refine tkz 8 ?_ (hy:=by intro w' a;obtain⟨d,f,j,l,m,n⟩:=a;go_simp<;>with_reducible rfl);refine tkz 9 ?_ (hy:=by intro w' a;obtain⟨d,f,j,l,m,n⟩:=a;go_simp<;>with_reducible rfl);refine tkz 10 ?_ (hy:=by intro w' a;obtain⟨d,f,j,l,m,n⟩:=a;go_simp<;>with_reducible rfl);refine tkz 11 ?_ (hy:=by intro w' a;obtain⟨d,f,j,l,m,n⟩:=a;go_simp<;>with_reducible rfl);refine tkz 12 ?_ (hy:=by intro w' a;obtain⟨d,f,j,l,m,n⟩:=a;go_simp<;>with_reducible rfl);refine tkz 13 ?_ (hy:=by intro w' a;obtain⟨d,f,j,l,m,n⟩:=a;go_simp<;>with_reducible rfl);refine tkz 14 ?_ (hy:=by intro w' a;obtain⟨d,f,j,l,m,n⟩:=a;go_simp<;>with_reducible rfl);refine tkz 15 ?_ (hy:=by intro w' a;obtain⟨d,f,j,l,m,n⟩:=a;go_simp<;>with_reducible rfl);refine tkz 16 ?_ (hy:=by intro w' a;obtain⟨d,f,j,l,m,n⟩:=a;go_simp<;>with_reducible rfl);refine tkz 17 ?_ (hy:=by intro w' a;obtain⟨d,f,j,l,m,n⟩:=a;go_simp<;>with_reducible rfl);refine tkz 18 ?_ (hy:=by intro w' a;obtain⟨d,f,j,l,m,n⟩:=a;go_simp<;>with_reducible rfl);refine Ca (rs:=[4,19]) (by kernel_rfl) (by simp) ?_;refine AJ rfl (λK c=>?_) (AJ rfl (λK c=>?_) Cb)
   ·go_simp;refine c.o _ _ (by exact hH) λhH=>?_;clear c K;(try simp only[Act.put,sq]);refine rdq 19 rfl λK c=>?_;go_simp;refine c.o _ _ (by exact aX.o _) λhH=>?_;clear c K;(try simp only[Act.put,sq]);refine rdq 20 rfl λK c=>?_;refine step_append_lies _ rfl _ _ 160 rfl N 167 i0 _ 5 88 underlying160 bc bd bf bg rfl (by decide) u D.length fl rfl (by exact ay.o.alloc _) (zD wr.heap.size 0) 1 1 [.string E.name,.slice A E.args.length d1,.string F.name,.slice B F.args.length d2,zA (h.length:Int)] rfl rfl (by exact N8 _ _ _ _ _ _ _) (λx hx=>by simp at hx; rcases hx with rfl|rfl|rfl|rfl|rfl<;>rfl) (by decide) (by have:=aC.o; unfold maxLen; omega) (by have:=aC.o; omega) (by simp; omega) _ rfl ?_;intro g cap w3 V G Z aq;have ar:=Aa (((HB.o.drewN 1).alloc _).grown G ao.o);have aY:w3.cell? (zD S 0)=some u:=ar.o.cell 0;have aZ:=ar.o.frozen 0;have ba:=Aa (aD.o g cap w3 V G Z);have z:=Aa (KG.o _ _ G);refine c.o _ _ (by exact KP.o w3 z.o.1 z.o.2.1 z.o.2.2.1 z.o.2.2.2) λhH=>?_;clear V G Z ar aq;clear c K;(try simp only[Act.put,sq]);refine tkz 21 ?_ (hy:=by intro w' a;obtain⟨d,f,j,l,m,n⟩:=a;go_simp<;>with_reducible rfl);refine tkz 22 ?_ (hy:=by intro w' a;obtain⟨d,f,j,l,m,n⟩:=a;go_simp<;>with_reducible rfl);refine rdq 23 rfl λK c=>?_;go_simp;refine c.o _ _ (by exact KS.o w3 _ z.o) λhH=>?_;clear c K;(try simp only[Act.put,sq]);refine dnq ?_;clear hH aY aZ;go_wp2_with fail;go_roundw
    case rel=>exact ba.o
    case measure=>simp[intOf]
   ·go_simp;refine c.o _ _ (by exact aX.o _) λhH=>?_;clear c K;(try simp only[Act.put,sq]);refine rdq 4 rfl λK c=>?_;go_simp;refine c.o _ _ (by exact aX.o _) λhH=>?_;clear c K;(try simp only[Act.put,sq]);refine rdq 20 rfl λK c=>?_;refine step_append_lies _ rfl _ _ 160 rfl N 167 i0 _ 5 88 underlying160 bc bd bf bg rfl (by decide) u D.length fl rfl (by exact ay.o.alloc _) (zD wr.heap.size 0) 1 1 [.string E.name,.slice A E.args.length d1,.string F.name,.slice B F.args.length d2,zA (h.length:Int)] rfl rfl (by exact N8 _ _ _ _ _ _ _) (λx hx=>by simp at hx; rcases hx with rfl|rfl|rfl|rfl|rfl<;>rfl) (by decide) (by have:=aC.o; unfold maxLen; omega) (by have:=aC.o; omega) (by simp; omega) _ rfl ?_;intro g cap w3 V G Z aq;have ar:=Aa (((HB.o.drewN 1).alloc _).grown G ao.o);have aY:w3.cell? (zD S 0)=some u:=ar.o.cell 0;have aZ:=ar.o.frozen 0;have ba:=Aa (aD.o g cap w3 V G Z);have z:=Aa (KG.o _ _ G);refine c.o _ _ (by exact KP.o w3 z.o.1 z.o.2.1 z.o.2.2.1 z.o.2.2.2) λhH=>?_;clear V G Z ar aq;clear c K;(try simp only[Act.put,sq]);refine tkz 21 ?_ (hy:=by intro w' a;obtain⟨d,f,j,l,m,n⟩:=a;go_simp<;>with_reducible rfl);refine tkz 22 ?_ (hy:=by intro w' a;obtain⟨d,f,j,l,m,n⟩:=a;go_simp<;>with_reducible rfl);refine rdq 23 rfl λK c=>?_;go_simp;refine c.o _ _ (by exact KS.o w3 _ z.o) λhH=>?_;clear c K;(try simp only[Act.put,sq]);refine dnq ?_;clear hH aY aZ;go_wp2_with fail;go_roundw
    case rel=>exact ba.o
    case measure=>simp[intOf]
theorem Kt {x:ByteArray} {t:Tm} (hx:Av x=true):Cd x (AR [] (Aw [t]))=CG x [t]:=by
 rw[Bool.eq_iff_iff,IL];constructor
 ·intro h;unfold Cd at h;rw[ER]at h;obtain⟨y,hy,e⟩:=h;have e2:y=x:=FY (by simpa using e);subst e2;rcases LM _ _ _ hy with h1|⟨k,h1,h2,_⟩
  ·cases h1
  ·exact⟨k,h1,h2⟩
 ·intro h;apply El;intro a;exact Km hx a h
def Ti (S q N:Nat) (h:List (ByteArray×Tm)) (cs:List Ec) (ta tb:Tm) (code:Int) (w':World):Prop:=
 (code≠0/\∃(f':Bool) (Y':Nat->Prop) (td':Value),Cp S q td' h f' Y' w'/\(f'=true∨∀l,Bp false (Aj h) l ta tb=.stop code (Aj h)))∨
 (code=0/\Ah [ta]<=2000/\Ah [tb]<=2000/\∃(h':List (ByteArray×Tm)) (cs':List Ec) (new:List Pr),Kr S q N h' cs' w'/\cs'.map Dp=cs.map Dp++new.reverse.map (λp=>(p,h.length))/\(∀l,Bp false (Aj h) l ta tb=.go (Aj h') (new++l))/\
  ((new=[]/\h'=h)∨(new=[]/\∃x t,h'=h++[(x,t)]/\Av x=true/\((x=ta.name/\t=tb)∨(x=tb.name/\t=ta))/\¬Cd x (AR [] (Aw [t]))=true)∨(new=Az ta.args tb.args/\h'=h/\ta.args.length=tb.args.length)))
def Tj (S q N:Nat) (h:List (ByteArray×Tm)) (cs:List Ec) (ta tb:Tm) (td0:Value) (w:World) (e:Ending) (w':World):Prop:=
 ∃code:Int,e=.returned (zA code)/\Ak (λb=>b=S∨b=q∨some b=td0.ownBlock) w w'/\Ti S q N h cs ta tb code w'
theorem Tl {S q N:Nat} {h:List (ByteArray×Tm)} {cs:List Ec} {ta tb:Tm} {nm:ByteArray} {t:Tm} {a:Value} {w w3 c:World} {X d:Nat->Prop} {e:Ending} (j:S<N) (k:q<N) (y:N<=w.heap.size) (z:Dh w N (λb=>b<N/\b≠S/\b≠q) a cs) (o:∀b,d b->some b≠a.ownBlock) (A:∀b,X b->some b≠a.ownBlock) (B:Ak (Cq S q) w w3) (C:Ak (Cq S q) w3 c) (r:Ah [ta]<=2000) (s:Ah [tb]<=2000)
  (m:∀l,Bp false (Aj h) l ta tb=if nm=t.name then .go (Aj h) l else Co false (Aj h) l nm t) (i:Av nm=true) (ar:(nm=ta.name/\t=tb)∨(nm=tb.name/\t=ta))
  (hc:(t.name=nm/\e=.returned (zA 0)/\Cp S q a h false d c)∨(t.name≠nm/\CG nm [t]=true/\e=.returned (zA 6)/\Cp S q a h false d c)∨(t.name≠nm/\CG nm [t]=false/\e=.returned (zA 0)/\Cp S q a (h++[(nm,t)]) false (λb=>d b∨(X b/\b<w3.heap.size)) c)):
  ∃code:Int,e=.returned (zA code)/\Ak (λb=>b=S∨b=q∨some b=a.ownBlock) w c/\Ti S q N h cs ta tb code c:=by
 have hx:Ak (Cq S q) w c:=B.trans C;have n:Ak (λb=>b=S∨b=q∨some b=a.ownBlock) w c:=hx.mono λb hb _=>by
  rcases hb with h1|h1
  ·exact Ad h1
  ·exact Ae (Ad h1)
 have u:Dh c N (λb=>b<N/\b≠S/\b≠q) a cs:=z.exq hx (λb hb=>by rcases hb with rfl|rfl; exact j; exact k) (λb hb v=>by
  rcases hb with h1|h1
  ·exact v.2.1 h1
  ·exact v.2.2 h1)
 have x:N<=c.heap.size:=AN y hx.size;rcases hc with ⟨f,rfl,g⟩|⟨f,ho,rfl,g⟩|⟨f,ho,rfl,g⟩
 ·exact⟨0,rfl,n,Ae ⟨rfl,r,s,h,cs,[],⟨a,d,g,u,o,j,k,x⟩,by simp,λl=>by rw[m,Aq f.symm]; rfl,Ad ⟨rfl,rfl⟩⟩⟩
 ·refine⟨6,rfl,n,Ad ⟨by decide,false,d,a,g,Ae λl=>?_⟩⟩;rw[m,Am (λe=>f e.symm)];unfold Co;rw[Aq (by rw[Kt i]; exact ho)]
 ·refine⟨0,rfl,n,Ae ⟨rfl,r,s,h++[(nm,t)],cs,[],⟨a,_,g,u,λb hb=>?_,j,k,x⟩,by simp,λl=>?_,Ae (Ad ⟨rfl,nm,t,rfl,i,ar,by rw[Kt i,ho]; simp⟩)⟩⟩
  ·rcases hb with hb|hb
   ·exact o b hb
   ·exact A b hb.1
  ·rw[m,Am (λe=>f e.symm)];unfold Co;rw[Am (by rw[Kt i,ho]; simp),Am (by simp),Ff];rfl
theorem YT (S q N:Nat) (V:List ByteArray) (h:List (ByteArray×Tm)) (cs:List Ec) (p:Pr) (l:List Pr) (hU:UI V h (p::l)) (j:Nat) (hj:j<=h.length) (hid:j=h.length->(Af (Aj h) p.l=p.l/\Af (Aj h) p.r=p.r)) (bm:cs.length<=900000000) (hV:V.length<=400000) (B:Option Addr) (c1:Nat) (a2:Option Addr) (c2:Nat) (w:World) (i:Value) (Y:Nat->Prop) (hE:Cp S q i h false Y w) (hR:Dh w N (λb=>b<N/\b≠S/\b≠q) i cs) (hY:∀b,Y b->some b≠i.ownBlock) (L:S<N) (M:q<N) (W:N<=w.heap.size)
  (aJ:Sl w (λb=>(b<N/\b≠S/\b≠q)∨(N<=b/\some b≠i.ownBlock)) B p.l.args) (aK:Sl w (λb=>(b<N/\b≠S/\b≠q)∨(N<=b/\some b≠i.ownBlock)) a2 p.r.args):
  Calls prog 120 #[zC S,.agg #[.string p.l.name,.slice B p.l.args.length c1,.string p.r.name,.slice a2 p.r.args.length c2,zA j]] w λe w'=>Tj S q N h cs (Af (Aj h) p.l) (Af (Aj h) p.r) i w e w':=by
 have HE:=Aa hE;have C:=Aa hR;have HY:=Aa hY;have aX:=Aa aJ;have aY:=Aa aK;have n:=Aa hU;have aZ:=Aa hid;have bn:S<w.heap.size:=by omega
 clear hE hR hY aJ aK hU hid;obtain⟨ta,Z⟩:∃ta,Af (Aj h) p.l=ta:=⟨_,rfl⟩;obtain⟨tb,a7⟩:∃tb,Af (Aj h) p.r=tb:=⟨_,rfl⟩;have a8:=Aa Z;have aA:=Aa a7;rw[Z,a7];clear Z a7;have O:Hid (Below w.heap.size w (w.alloc (.cells #[.string p.l.name,.slice B p.l.args.length c1,.string p.r.name,.slice a2 p.r.args.length c2,zA j] 167))):=(Ac _ _).alloc (Ag _) _;have bo:(w.alloc (.cells #[.string p.l.name,.slice B p.l.args.length c1,.string p.r.name,.slice a2 p.r.args.length c2,zA j] 167)).heap.size=w.heap.size+1:=by simp
 go_enter func120,ntmps120;go_wp2_with fail;generalize (w.alloc (.cells #[.string p.l.name,.slice B p.l.args.length c1,.string p.r.name,.slice a2 p.r.args.length c2,zA j] 167))=w1 at *;have PT:=YN S q i h n.o.good n.o.names p n.o.head j hj aZ.o (n.o.size p (by simp)) B c1 a2 c2 w1 _ Y (λb hb hm=>by
  rcases hb with hb|hb
  ·rcases hm with e|e
   ·exact hb.2.1 e
   ·exact hb.2.2 e
  ·rcases hm with e|e<;>omega) (aX.o.later O.o) (aY.o.later O.o) ((Du S q i h).below HE.o O.o)
 rw[a8.o,aA.o]at PT;refine PT.mono ?_;clear PT;rintro e w2 ⟨s1,c,t,d,s2,f,u,g,ok,f',v,rfl,aL,ao,hx,hc⟩;have ba:Hid (Ak (Cq S q) w w2):=(Ak.ofBelow O.o).trans hx;have bb:=Aa aL;have aB:Hid (∀b,v b->some b≠i.ownBlock):=λb hb e=>by
  rcases ao b hb with h1|h1
  ·exact HY.o b h1 e
  ·have:=(C.o.own.lt b e.symm).2; omega
 have bp:w.heap.size+1<=w2.heap.size:=by have:=hx.size; omega
 have HC:=Aa hc;clear aL ao hx hc;have P:Below w2.heap.size w2 ((w2.alloc (.cells #[.string s1,.slice c t d] 61)).alloc (.cells #[.string s2,.slice f u g] 61)):=EC _ _;have aC:=Aa P;have D:Hid (Ab ((w2.alloc (.cells #[.string s1,.slice c t d] 61)).alloc (.cells #[.string s2,.slice f u g] 61)) w2.heap.size #[.string s1,.slice c t d] 61):=(Ab.new w2 _ _).alloc _;have E:Hid (Ab ((w2.alloc (.cells #[.string s1,.slice c t d] 61)).alloc (.cells #[.string s2,.slice f u g] 61)) (w2.heap.size+1) #[.string s2,.slice f u g] 61):=(by have h1:=Ab.new (w2.alloc (.cells #[.string s1,.slice c t d] 61)) #[.string s2,.slice f u g] 61;rw[BK]at h1;exact h1);have bc:((w2.alloc (.cells #[.string s1,.slice c t d] 61)).alloc (.cells #[.string s2,.slice f u g] 61)).heap.size=w2.heap.size+2:=by simp
 have x:=Aa ((Du S q i h).below bb.o P);have y:Hid (Ak (Cq S q) w ((w2.alloc (.cells #[.string s1,.slice c t d] 61)).alloc (.cells #[.string s2,.slice f u g] 61))):=ba.o.trans (Ak.ofBelow P);clear P;rcases HC.o with ⟨rfl,rfl,rfl,rfl,rfl,rfl,aM,aN,aO,aP⟩|⟨rfl,aq⟩
 ·have ah:∀(a:Option Addr) (l:List Tm),Sl w2 (λb=>(((b<N/\b≠S/\b≠q)∨(N<=b/\some b≠i.ownBlock))/\b<w1.heap.size)∨w1.heap.size<=b) a l->Sl w2 (λb=>(b<N/\b≠S/\b≠q)∨(N<=b/\some b≠i.ownBlock)) a l:=λa l bd=>bd.mono λb hb _=>by
   rcases hb with hb|hb
   ·exact hb.1
   ·refine Ae ⟨by omega,λe=>?_⟩;have:=(C.o.own.lt b e.symm).2; omega
  have aD:=Aa ((ah _ _ aO).later aC.o);have aE:=Aa ((ah _ _ aP).later aC.o);have aQ:Hid (∀b,((b<N/\b≠S/\b≠q)∨(N<=b/\some b≠i.ownBlock))->¬Cq S q b):=λb hb hm=>by
   rcases hb with hb|hb
   ·rcases hm with e|e
    ·exact hb.2.1 e
    ·exact hb.2.2 e
   ·rcases hm with e|e<;>omega
  have aR:Hid (∀b,((b<N/\b≠S/\b≠q)∨(N<=b/\some b≠i.ownBlock))->some b≠i.ownBlock):=λb hb=>by
   rcases hb with hb|hb
   ·exact C.o.ne hb.1
   ·exact hb.2
  have z:=Aa aM;have F:=Aa aN;have a0:((w2.alloc (.cells (zG ta c d) 61)).alloc (.cells (zG tb f g) 61)).cell? (zD w2.heap.size 0)=some (.string ta.name):=D.o.cell 0;have aS:((w2.alloc (.cells (zG ta c d) 61)).alloc (.cells (zG tb f g) 61)).cell? (zD w2.heap.size 1)=some (.slice c ta.args.length d):=D.o.cell 1;have b0:((w2.alloc (.cells (zG ta c d) 61)).alloc (.cells (zG tb f g) 61)).cell? (zD (w2.heap.size+1) 0)=some (.string tb.name):=E.o.cell 0;have aT:((w2.alloc (.cells (zG ta c d) 61)).alloc (.cells (zG tb f g) 61)).cell? (zD (w2.heap.size+1) 1)=some (.slice f tb.args.length g):=E.o.cell 1;clear ah aO aP aM aN HC;cases R:Av ta.name with
  |true=>have k:=Aa R;have aF:Hid (tb.name≠ta.name->CG ta.name [tb]=false->Gk (Aj h) ta.name tb):=λ_ ho=>(n.o.bindV k.o (Ad ⟨by rw[a8.o],by rw[aA.o]⟩) (by rw[Kt k.o,ho]; simp)).1;clear R;go_wp2_with (go_at_call 109; refine(DO _ _).mono ?_; rintro e w' ⟨rfl,rfl⟩; rw[k.o]);generalize ((w2.alloc (.cells (zG ta c d) 61)).alloc (.cells (zG tb f g) 61))=w3 at *;refine(Ta S q i h n.o.good ta.name tb aF.o f g w3 _ v aQ.o aE.o x.o).mono ?_;rintro e w4 ⟨s,ar⟩;have I:=Aa (Tl (ta:=ta) (tb:=tb) (cs:=cs) L M W C.o aB.o aR.o y.o s z.o F.o (λl=>by unfold Bp; rw[Am (by have:=z.o; have:=F.o; omega),Aq k.o]) k.o (Ad ⟨rfl,rfl⟩) ar);obtain⟨code,rfl,J⟩:=I.o;clear ar;have aU:=Aa s;have aj:=Aa J;clear s J I;go_wp2_with fail;go_ret;exact⟨code,rfl,aj.o⟩
  |false=>
   have k:=Aa R;clear R;cases T:Av tb.name with
   |true=>
    have m:=Aa T;have aF:Hid (ta.name≠tb.name->CG tb.name [ta]=false->Gk (Aj h) tb.name ta):=λ_ ho=>(n.o.bindV m.o (Ae ⟨by rw[aA.o],by rw[a8.o]⟩) (by rw[Kt m.o,ho]; simp)).1;have bf:Hid (tb.name≠ta.name):=λe=>by
     have h1:=k.o;have h2:=m.o;rw[e,h1]at h2; cases h2
    clear T;go_wp2_with (go_at_call 109; refine(DO _ _).mono ?_; rintro e w' ⟨rfl,rfl⟩; (first|rw[k.o]|rw[m.o]));generalize ((w2.alloc (.cells (zG ta c d) 61)).alloc (.cells (zG tb f g) 61))=w3 at *;refine(Ta S q i h n.o.good tb.name ta aF.o c d w3 _ v aQ.o aD.o x.o).mono ?_;rintro e w4 ⟨s,ar⟩;have I:=Aa (Tl (ta:=ta) (tb:=tb) (cs:=cs) L M W C.o aB.o aR.o y.o s z.o F.o (λl=>by unfold Bp; rw[Am (by have:=z.o; have:=F.o; omega),Am (by rw[k.o]; simp),Aq m.o,Am bf.o]) m.o (Ae ⟨rfl,rfl⟩) ar);obtain⟨code,rfl,J⟩:=I.o;clear ar;have aj:=Aa J;clear s J I;go_wp2_with fail;go_ret;exact⟨code,rfl,aj.o⟩
   |false=>
    have m:=Aa T;clear T;have U:Hid (Ak (λb=>b=S∨b=q∨some b=i.ownBlock) w ((w2.alloc (.cells (zG ta c d) 61)).alloc (.cells (zG tb f g) 61))):=y.o.mono λb hb _=>by
     rcases hb with h1|h1
     ·exact Ad h1
     ·exact Ae (Ad h1)
    have aG:Hid (∀l,Bp false (Aj h) l ta tb=if ta.name=tb.name/\ta.args.length=tb.args.length then .go (Aj h) (Az ta.args tb.args++l) else .stop 5 (Aj h)):=λl=>by
     unfold Bp;rw[Am (by have:=z.o; have:=F.o; omega),Am (by rw[k.o]; simp),Am (by rw[m.o]; simp)]
    by_cases A:ta.name=tb.name
    ·have bg:=Ip A;by_cases G:ta.args.length=tb.args.length
     ·have aV:=Aa G;have bh:=Aa A;have bq:ta.args.length<=2000:=(by have h1:=Hw ta.args;have h2:=Jw ta;have h3:=z.o;omega);have bj:h.length<=1000000000:=by have:=n.o.hlen; omega
      dsimp only[zG]at x y U aD aE;rw[G]at x y U aD aE;clear A D E aC a0 aS b0 aT bc;have D:Hid (Ab ((w2.alloc (.cells #[.string ta.name,.slice c tb.args.length d] 61)).alloc (.cells (zG tb f g) 61)) w2.heap.size #[.string ta.name,.slice c tb.args.length d] 61):=(Ab.new w2 _ _).alloc _;have E:Hid (Ab ((w2.alloc (.cells #[.string ta.name,.slice c tb.args.length d] 61)).alloc (.cells (zG tb f g) 61)) (w2.heap.size+1) (zG tb f g) 61):=by
       have h1:=Ab.new (w2.alloc (.cells #[.string ta.name,.slice c tb.args.length d] 61)) (zG tb f g) 61;rw[BK]at h1;exact h1
      have a0:((w2.alloc (.cells #[.string ta.name,.slice c tb.args.length d] 61)).alloc (.cells (zG tb f g) 61)).cell? (zD w2.heap.size 0)=some (.string ta.name):=D.o.cell 0;have aS:((w2.alloc (.cells #[.string ta.name,.slice c tb.args.length d] 61)).alloc (.cells (zG tb f g) 61)).cell? (zD w2.heap.size 1)=some (.slice c tb.args.length d):=D.o.cell 1;have b0:((w2.alloc (.cells #[.string ta.name,.slice c tb.args.length d] 61)).alloc (.cells (zG tb f g) 61)).cell? (zD (w2.heap.size+1) 0)=some (.string tb.name):=E.o.cell 0;have aT:((w2.alloc (.cells #[.string ta.name,.slice c tb.args.length d] 61)).alloc (.cells (zG tb f g) 61)).cell? (zD (w2.heap.size+1) 1)=some (.slice f tb.args.length g):=E.o.cell 1;go_wp2_with (go_at_call 109; refine(DO _ _).mono ?_; rintro e w' ⟨rfl,rfl⟩; (first|rw[k.o]|rw[m.o]));generalize ((w2.alloc (.cells #[.string ta.name,.slice c tb.args.length d] 61)).alloc (.cells (zG tb f g) 61))=w3 at *;have aW:Dh w3 N (λb=>b<N/\b≠S/\b≠q) i cs:=C.o.exq y.o (λb hb=>by rcases hb with rfl|rfl; exact L; exact M) (λb hb H=>by
       rcases hb with h1|h1
       ·exact H.2.1 h1
       ·exact H.2.2 h1)
      have AH:=YS S q N h cs ta.args tb.args G (by omega) bj c f d g w3 i v x.o aW aB.o L M (AN W y.o.size) aD.o aE.o;rw[G]at AH;refine AH.mono ?_;clear AH;rintro e w4 ⟨rfl,bk,hT,hC,s⟩;have HT:=Aa hT;have bl:=Aa hC;have aU:Hid (Ak (λb=>b=S∨b=q∨some b=i.ownBlock) w w4):=U.o.trans (s.mono λb hb _=>hb.imp id Ae);clear hT hC s aW;go_wp2_with fail;go_ret;exact⟨0,rfl,aU.o,Ae ⟨rfl,z.o,F.o,h,bk,Az ta.args tb.args,HT.o,bl.o,λl=>by rw[aG.o,Aq ⟨bh.o,aV.o⟩],Ae (Ae ⟨rfl,rfl,aV.o⟩)⟩⟩
     ·have br:((ta.args.length:Int)==(tb.args.length:Int))=false:=Dr.2 (by omega);have aH:Hid (¬(ta.name=tb.name/\ta.args.length=tb.args.length)):=λH=>G H.2;clear G A;go_wp2_with (go_at_call 109; refine(DO _ _).mono ?_; rintro e w' ⟨rfl,rfl⟩; (first|rw[k.o]|rw[m.o]));go_ret;exact⟨5,rfl,U.o,Ad ⟨by decide,false,v,i,x.o,Ae λl=>by rw[aG.o,Am aH.o]⟩⟩
    ·have bg:=JT A;have aH:Hid (¬(ta.name=tb.name/\ta.args.length=tb.args.length)):=λH=>A H.1;clear A;go_wp2_with (go_at_call 109; refine(DO _ _).mono ?_; rintro e w' ⟨rfl,rfl⟩; (first|rw[k.o]|rw[m.o]));go_ret;exact⟨5,rfl,U.o,Ad ⟨by decide,false,v,i,x.o,Ae λl=>by rw[aG.o,Am aH.o]⟩⟩
 ·have aI:=Aa aq;clear aq HC;go_wp2_with fail;go_ret;refine⟨8,rfl,y.o.mono λb hb _=>?_,Ad ⟨by decide,f',v,i,x.o,?_⟩⟩
  ·rcases hb with h1|h1
   ·exact Ad h1
   ·exact Ae (Ad h1)
  ·rcases aI.o with h1|h1
   ·exact Ad h1
   ·exact Ae λl=>by unfold Bp; rw[Aq h1]
open Go.RowKit Go.Shelf
attribute [local go_sem] Oper.semAt_some
theorem YU (F:Fence) (n:Nat) (b:F.fn 119) (d:F.round=none) (v:Value) (w:World) (f:∃a k c,v=.slice a k c):
  CallsIn F n prog 119 #[v] w λe w'=>e=.returned (.func (.func 134) #[] #[zC w.heap.size])/\w'=w.alloc (.cells #[v] 56):=by
 obtain⟨a,k,c,rfl⟩:=f;refine callsIn_of_wp func119 rfl b ?_ d;simp only[ntmps119,List.size_toArray,Cg,Ee,Nat.reduceAdd,Nat.reduceSub,Array.replicate_succ,Array.replicate_zero,List.push_toArray,List.append_toArray,GK,Di];gi_wp2
 go_ret;exact⟨rfl,rfl⟩
abbrev Yx:=Int×Pc
def Mv (x:Yx):Array Value:=#[zA x.1,.agg #[.string x.2.1.l.name,.slice x.2.2.1.1 x.2.1.l.args.length x.2.2.1.2,.string x.2.1.r.name,.slice x.2.2.2.1 x.2.1.r.args.length x.2.2.2.2]]
def EP {P:Yx->Prop} (xs:List Pc) (hP:∀k (h:k<xs.length),P ((k:Int),xs[k])):(k:Nat)->k<=xs.length->List { x:Yx // P x}
 |0,_=>[]
 |k+1,h=>⟨((k:Int),xs[k]),hP k h⟩::EP xs hP k (Nat.le_of_succ_le h)
theorem Tn {P:Yx->Prop} {xs:List Pc} {hP:∀k (h:k<xs.length),P ((k:Int),xs[k])}:∀k (h:k<=xs.length),(EP xs hP k h).length=k
 |0,_=>rfl
 |k+1,h=>by rw[EP,Cg,Tn k]
theorem To {P:Yx->Prop} {xs:List Pc} {hP:∀k (h:k<xs.length),P ((k:Int),xs[k])}:∀k (h:k<=xs.length),(EP xs hP k h).map (λx=>x.1.2.1)=((xs.take k).map (·.1)).reverse
 |0,_=>by simp[EP]
 |k+1,h=>by
  rw[EP,Cu,To k,CB (by omega),CY,List.reverse_append];rfl
def Oa (w:World) (b o:Nat) (xs:List Pc):Prop:=∀j u,(Da xs)[j]? = some u->w.cell? ⟨b,o+j,none⟩=some u
theorem YW (F:Fence) (n:Nat) (h6:F.fn 134) (G:F.round=none) (hn:1<=n) {P:Yx->Prop} {Kp:World->World->Prop} (H:∀A,Kp A A) (I:∀ {A B C:World},Kp A B->Kp B C->Kp A C) (l d b o c:Nat) (q:∀ {A B:World},Kp A B->B.heap[b]? = A.heap[b]? /\ B.heap[d]? = A.heap[d]?) (a:Option Addr) (xs:List Pc) (hP:∀k (h:k<xs.length),P ((k:Int),xs[k])) (L:xs=[]∨a=some (zD b o)) (ao:xs.length<=1000000) (J r:List { x:Yx // P x}->World->Prop)
  (M:∀pre x W,J pre W->pre.length<xs.length->YieldAt F (n-1) prog l (Mv x.1) W λe W'=>
   (e=.returned (.bool true)/\J (pre++[x]) W'/\Kp W W')∨(e=.returned (.bool false)/\r (pre++[x]) W'))
  (W:World) (s:W.cell? (zD d 0)=some (.slice a xs.length c)) (t:Oa W b o xs) (h0:J [] W):
  CallsIn F n prog 134 #[.func (.yield l) #[] #[],zC d] W λe W'=>(∃v,e=.returned v)/\
   ((∃y,y=EP xs hP xs.length (Ag _)/\J y W')∨(∃pre,pre <+: EP xs hP xs.length (Ag _)/\r pre W')):=by
 refine callsIn_of_wp func134 rfl h6 ?_ G;simp only[ntmps134,List.size_toArray,Cg,Ee,Nat.reduceAdd,Nat.reduceSub,Array.replicate_succ,Array.replicate_zero,List.push_toArray,List.append_toArray,GK,Di];gi_wp2
 gi_loopw [3] (λi wr=>∃(k:Nat) (hk:k<=xs.length),i=zA ((k:Int)-1)/\Kp W wr/\∃pre,EP xs hP xs.length (Ag _)=pre++EP xs hP k hk/\J pre wr) (λi wr=>(intOf i+1).toNat)
 case atStart=>exact⟨xs.length,Ag _,by go_num,H _,[],rfl,h0⟩
 case round=>
  obtain⟨k,hk,rfl,hb,pre,f,z⟩:=hrel;cases k with
  |zero=>
   gi_wp2
   go_end0
   exact⟨⟨_,rfl⟩,.inl ⟨pre,by rw[f]; simp[EP],z⟩⟩
  |succ k=>
   have N:((k+1:Nat):Int)-1=k:=(by omega);rw[N];obtain rfl:a=some (zD b o):=L.resolve_left (λe=>by rw[e] at hk; simp at hk);rw[EP]at f;have O:pre.length<xs.length:=(by have h1:=Dl List.length f;rw[Tn]at h1;simp at h1;omega);have g:∀j u,(D3 xs[k])[j]? = some u->j<4->wr.cell? ⟨b,o+k*4+j,none⟩=some u:=λj u hu R=>by
    rw[DC (q hb).1,Nat.add_assoc];exact t _ _ (by rw[Jd xs k (by omega) j R]; exact hu)
   have c0:=g 0 _ rfl (by decide);have c1:=g 1 _ rfl (by decide);have c2:=g 2 _ rfl (by decide);have c3:=g 3 _ rfl (by decide);simp only[Hs] at c0;have aq:wr.cell? (zD d 0)=some (.slice (some (zD b o)) xs.length c):=by rw[DC (q hb).2]; exact s
   have ar:(k:Int)<(xs.length:Int):=(by omega);have m:=hP k (by omega);obtain⟨fn,tmps,assign,body,hy,D⟩:=M pre ⟨((k:Int),xs[k]),m⟩ wr z O;have E:=Aa f;dsimp only[Mv] at hy D;obtain⟨x,hx⟩:∃x,xs[k]=x:=⟨_,rfl⟩;have au:=Aa hx;simp only[hx] at c0 c1 c2 c3 hy;clear g f t s hx;gi_wp2
   refine D.mono ?_;rintro e W3 (⟨rfl,T,U⟩|⟨rfl,V⟩)
   ·gi_wp2
    go_roundw
    case rel=>exact⟨k,by omega,by go_num,I hb U,pre++[⟨((k:Int),xs[k]),m⟩],by rw[E.o]; simp,T⟩
    case measure=>simp[intOf]
   ·gi_wp2
    refine Ao (results_none rfl _ _ _) rfl ?_;exact⟨⟨_,rfl⟩,.inr ⟨pre++[⟨((k:Int),xs[k]),m⟩],⟨EP xs hP k (by omega),by rw[E.o]; simp⟩,V⟩⟩
theorem YX (F:Fence) (n:Nat) (h6:F.fn 134) (f:F.round=none) (g:1<=n) {P:Yx->Prop} {Kp:World->World->Prop} (i:∀A,Kp A A) (m:∀ {A B C:World},Kp A B->Kp B C->Kp A C) (d b o c:Nat) (q:∀ {A B:World},Kp A B->B.heap[b]? = A.heap[b]? /\ B.heap[d]? = A.heap[d]?) (a:Option Addr) (xs:List Pc) (hP:∀k (h:k<xs.length),P ((k:Int),xs[k])) (r:xs=[]∨a=some (zD b o)) (s:xs.length<=1000000) (w:World) (t:b<w.heap.size) (v:d<w.heap.size) (y:w.cell? (zD d 0)=some (.slice a xs.length c)) (z:Oa w b o xs):
  SeqStopsK F n prog 134 #[zC d] (λx:{ x:Yx // P x}=>Mv x.1) Kp (λD=>D=EP xs hP xs.length (Ag _)) (λpre=>pre <+: EP xs hP xs.length (Ag _)) xs.length w:=λl J E W e _ _ G h0=>
 YW F n h6 f g i m l d b o c q a xs hP r s J E G W ((e.cell (p:=(zD d 0)) v).trans y) (λj u H=>(e.cell (p:=⟨b,o+j,none⟩) t).trans (z j u H)) h0
theorem Ob {w:World} {X:Nat->Prop}:∀(l:List Pr) (b o:Nat),(∀i (h:i<l.length),∃c c1 a2 c2,w.cell? ⟨b,o+i*4,none⟩=some (.string l[i].l.name)/\w.cell? ⟨b,o+i*4+1,none⟩=some (.slice c l[i].l.args.length c1)/\w.cell? ⟨b,o+i*4+2,none⟩=some (.string l[i].r.name)/\w.cell? ⟨b,o+i*4+3,none⟩=some (.slice a2 l[i].r.args.length c2)/\Sl w X c l[i].l.args/\Sl w X a2 l[i].r.args)->
  ∃cs:List Pc,cs.map (·.1)=l/\(∀j u,(Da cs)[j]? = some u->w.cell? ⟨b,o+j,none⟩=some u)/\∀x∈cs,Sl w X x.2.1.1 x.1.l.args/\Sl w X x.2.2.1 x.1.r.args
 | [],b,o,_=>⟨[],rfl,λj u h=>by simp[Da] at h,λx h=>by cases h⟩
 |p::r,b,o,h=>by
  obtain⟨c,c1,a2,c2,h1,h2,h3,e,h5,h6⟩:=h 0 (by simp);obtain⟨cs,e1,e2,e3⟩:=Ob r b (o+4) λi hi=>by
   have d:=h (i+1) (by simpa using hi);simp only[Fg] at d;rw[show o+(i+1)*4=o+4+i*4 by omega]at d;exact d
  simp only[Q6,Nat.zero_mul,Hs] at h1 h2 h3 e h5 h6;refine⟨(p,(c,c1),(a2,c2))::cs,by simp[e1],λj u a=>?_,λx hx=>?_⟩
  ·rw[Da]at a;match j,a with
   |0,a=>simp[D3] at a; subst a; exact h1
   |1,a=>simp[D3] at a; subst a; exact h2
   |2,a=>simp[D3] at a; subst a; exact h3
   |3,a=>simp[D3] at a; subst a; exact e
   |j+4,a=>rw[Oy (by simp[D3])]at a;have:=e2 j u (by simpa [D3] using a);rwa [show o+(j+4)=o+4+j by omega]
  ·rcases Cn.1 hx with rfl|hx
   ·exact⟨h5,h6⟩
   ·exact e3 x hx
theorem YY (x:Pc):∀u∈D3 x,u.oneCell'=true:=λy hy=>by
 simp[D3]at hy;rcases hy with rfl|rfl|rfl|rfl<;>rfl
theorem Tp:∀cs:List Pc,∀u∈Da cs,u.oneCell'=true
 | [],u,h=>by cases h
 |x::r,u,h=>by
  rw[Da]at h;rcases BJ.1 h with h|h
  ·exact YY x u h
  ·exact Tp r u h
theorem YZ {w:World} {N:Nat} {Y:Nat->Prop} {v:Value} {cs:List Pc} (h:Er w N Y v cs) (t:N<=w.heap.size) (x:∀b,Y b->b<N) {a:Option Addr} {n c:Nat} {l:List Pr} (hq:QV w Y (.slice a n c) l) (hn:cs.length+l.length<=1000000000):
  ∃v2 w3,(Builtin.append_ #[56,56] 56 #[v,.slice a n c]).run prog w=.ok v2 w3/\QV w3 (λb=>Y b∨N<=b) v2 (cs.map (·.1)++l)/\w.grownBy w3 v.ownBlock:=by
 obtain⟨i0,hi,z,i,A⟩:=Dq Tryz.infoPair;obtain⟨a',c',e,hl,hq⟩:=hq;simp at e;obtain⟨rfl,rfl,rfl⟩:=e;by_cases h0:l=[]
 ·subst h0;obtain⟨va,vc,B,C,_⟩:=h.qv;refine⟨v,w,?_,by simpa using h.qv,⟨rfl,rfl,rfl,Ag _,λ_ _ _=>rfl⟩⟩;subst B;have hle:=C.2;simp only[Gs] at hle;cases va<;>cases a<;>simp[Builtin.append_,Fj underlying56,sizeOf,typeInfo,hi,i,Builtin.lenOf,Builtin.firstCells,hle,Result.andThen,storeCells,loadCells,loadCellsFrom]
 ·obtain⟨b,o,rfl,ak,hc⟩:=hq.resolve_left h0;obtain⟨d,e1,e2,e3⟩:=Ob l b o hc;have hlen:l.length=d.length:=by rw[<-e1]; simp
  have hp:0<d.length:=by rw[<-hlen]; exact GI.2 h0
  have D:=h.own.lt;obtain⟨g,cap,w3,E,ho,f,m,al⟩:=run_append_lies (P:=prog) (w:=w) 56 56 N 89 i0 _ 4 80 underlying56 hi z i A rfl (by decide) v cs.length (Da cs) h.own
   (zD b o) d.length c (Da d) (QH d) (λj u F=>by have:=e2 j u F; by_cases q:j=0; subst q; simpa [Addr.add] using this; simpa [Addr.add,q] using this) (Tp d) hp (by unfold maxLen; omega) (by omega) t _ rfl
  have G:Er w3 N Y (.slice (some (zD g 0)) (cs.length+d.length) cap) (cs++d):=by
   have an:N<=g:=by
    rcases m with e|e
    ·exact(D g e).1
    ·omega
   have r:∀b,Y b->some b≠v.ownBlock:=λb hb=>h.ne (x b hb);refine⟨by rw[LX]; simpa using ho,λy hy=>?_⟩;rcases BJ.1 hy with hy|hy
   ·have s:∀(a:Option Addr) (k:List Tm),Sl w (λb=>Y b∨(N<=b/\some b≠v.ownBlock)) a k->Sl w3 (λb=>Y b∨(N<=b/\some b≠(Value.slice (some (zD g 0)) (cs.length+d.length) cap).ownBlock)) a k:=λa k h0=>by
     have h1:Sl w (λb=>(Y b∨(N<=b/\some b≠v.ownBlock))/\b<w.heap.size) a k:=h0.mono λb h1 h2=>⟨h1,h2⟩;refine(h1.kept λb hx=>f.block b hx.2 ?_).mono λb hx _=>?_
     ·rcases hx.1 with hy|hy
      ·exact r b hy
      ·exact hy.2
     ·rcases hx.1 with hy|hy
      ·exact Ad hy
      ·refine Ae ⟨hy.1,λe=>?_⟩;simp[Value.ownBlock]at e;rcases m with e'|e'
       ·exact hy.2 (by rw[e',e])
       ·omega
    exact⟨s _ _ (h.row y hy).1,s _ _ (h.row y hy).2⟩
   ·have new:∀(a:Option Addr) (k:List Tm),Sl w Y a k->Sl w3 (λb=>Y b∨(N<=b/\some b≠(Value.slice (some (zD g 0)) (cs.length+d.length) cap).ownBlock)) a k:=λa k h0=>by
     have h1:Sl w (λb=>Y b/\b<w.heap.size) a k:=h0.mono λb h1 h2=>⟨h1,h2⟩;exact(h1.kept λb hx=>f.block b hx.2 (r b hx.1)).mono λb hx _=>Ad hx.1
    exact⟨new _ _ (e3 y hy).1,new _ _ (e3 y hy).2⟩
  refine⟨_,w3,by rw[hlen]; exact E,?_,f⟩;have:=G.qv;rw[CY,e1]at this;exact this
theorem Y0 (b o n a:Nat) (hn:n+1<=a) (w':World):Sem.run prog (Instr.slice 56 (.slice (some (zD b o)) (n+1) a) (some (zA 1)) none none) w'=.ok (.slice (if a=1 then some (zD b o) else some ⟨b,o+4,none⟩) n (a-1)) w':=by
 have ab:(1:Int)<=(n:Int)+1:=by omega
 have e1:(1:Int)<=((n+1:Nat):Int):=by omega
 rw[run_slice_l (P:=prog) (ht:=underlying56) (h0:=by omega) (h1:=e1)];by_cases c:a=1
 ·subst c;simp[go_sem,sliced]
 ·simp[go_sem,sliced,c]
theorem QV.tail {w:World} {X:Nat->Prop} {b o n a:Nat} {p:Pr} {l:List Pr} (h:QV w X (.slice (some (zD b o)) n a) (p::l)):QV w X (.slice (if a=1 then some (zD b o) else some ⟨b,o+4,none⟩) l.length (a-1)) l:=by
 obtain⟨a',c',e,⟨d,f⟩,hq⟩:=h;simp at e;obtain⟨rfl,rfl,rfl⟩:=e;simp only[Cg] at d f;refine⟨_,_,rfl,⟨by omega,by omega⟩,?_⟩;by_cases h0:l=[]
 ·exact Ad h0
 ·have hp:0<l.length:=GI.2 h0;rcases hq with hq|⟨b',o',e,g,hq⟩
  ·cases hq
  ·simp at e;obtain⟨rfl,rfl⟩:=e;refine Ae ⟨b,o+4,by rw[Am (by omega)],g,λi hi=>?_⟩;have c:=hq (i+1) (by simpa using hi);simp only[Fg] at c;rw[show o+(i+1)*4=o+4+i*4 by omega]at c;exact c
def D8 (t s:List Bd):Prop:=∀d∈s,Af t ⟨d.nm,[]⟩=Af t d.t
def D9 (t:List Bd) (l:List Pr):Prop:=∀p∈l,Af t p.l=Af t p.r
theorem Y3 {t s:List Bd} (ht:∀d∈t,Av d.nm=true) (c:∀d∈s,Av d.nm=true) (f:D8 t s):∀l:List Tm,As l=0->An t (An s l)=An t l:=by
 intro l;induction l using Tm.indL with
 |h0=>intro _; simp[An]
 |h n l r g i=>
  intro he;obtain⟨g1,g2,g3⟩:=Gy he;rw[Br,Br,Br,i g3];congr 1
  cases a:Av n with
  |false=>rw[EM c a,EM ht a,EM ht a,g g2]
  |true=>
   have e:=g1 a;subst e;cases b:AC s n with
   |none=>rw[Fz s,b]; rfl
   |some x=>rw[Is b];obtain⟨d,hd,e1,e2⟩:=Fl b;rw[<-e2,<-f d hd,e1]
theorem Oc {t s:List Bd} (ht:∀d∈t,Av d.nm=true) (a:∀d∈s,Av d.nm=true) (b:D8 t s) {x:Tm} (he:As [x]=0):Af t (Af s x)=Af t x:=by
 have h:=Y3 ht a b [x] he;rw[Br,Br,Br]at h;simpa [An] using h
theorem Y6 {t s:List Bd} (ht:∀d∈t,Av d.nm=true) {x:ByteArray} {u:Tm} (hx:Av x=true) (b:∀d∈s,As [d.t]=0):D8 t (CD s x u)↔(D8 t s/\Af t ⟨x,[]⟩=Af t u):=by
 have one:∀ {v:Tm},Af t ⟨x,[]⟩=Af t u->As [v]=0->Af t (Af [⟨x,u⟩] v)=Af t v:=λa c=>Oc ht (by simpa using hx) (by simpa [D8] using a) c;have hm:∀d,d∈CD s x u↔d∈s.map (BD x u)++[⟨x,u⟩]:=λd=>(EL _).mem_iff;constructor
 ·intro h;have a:Af t ⟨x,[]⟩=Af t u:=h ⟨x,u⟩ ((hm _).2 (by simp));refine⟨λd hd=>?_,a⟩;have h1:=h (BD x u d) ((hm _).2 (List.mem_append_left _ (Cv.2 ⟨d,hd,rfl⟩)));simp only[BD] at h1;rw[h1,one a (b d hd)]
 ·rintro⟨h,a⟩ d hd;rcases BJ.1 ((hm d).1 hd) with hd|hd
  ·obtain⟨e,he,rfl⟩:=Cv.1 hd;simp only[BD];rw[one a (b e he)];exact h e he
  ·have e:d=⟨x,u⟩:=(by simpa using hd);subst e;exact a
theorem Od {t:List Bd} (ht:∀d∈t,Av d.nm=true) {x:ByteArray} (hx:Av x=true):∀l:List Tm,As l=0->Ax x l->Ah [Af t ⟨x,[]⟩]<=Ah (An t l):=by
 intro l;induction l using Tm.indL with
 |h0=>intro _ ho; obtain⟨k,hk,_⟩:=ho; simp[Aw] at hk
 |h n l r b c=>
  intro he ho;obtain⟨g1,g2,g3⟩:=Gy he;have f:=Fe (Af t ⟨n,l⟩) (An t r);rw[Br];rcases Dt.1 ho with rfl|ho|ho
  ·have e:=g1 hx;subst e;omega
  ·cases a:Av n with
   |false=>have:=b g2 ho;rw[EM ht a]at f ⊢;have e:Ah [(⟨n,An t l⟩:Tm)]=1+Ah (An t l):=(by simp[Ah]);omega
   |true=>have e:=g1 a;subst e;obtain⟨k,hk,_⟩:=ho;simp[Aw]at hk
  ·have:=c g3 ho;omega
theorem Y8 {t:List Bd} (ht:∀d∈t,Av d.nm=true) {x:ByteArray} (hx:Av x=true) {u:Tm} (he:As [u]=0) (c:x≠u.name) (ho:Ax x [u]):Af t ⟨x,[]⟩≠Af t u:=λf=>by
 obtain⟨n,k⟩:=u;obtain⟨g1,g2,_⟩:=Gy he;have a:Ax x k:=by
  rcases Dt.1 ho with h|h|h
  ·exact absurd h.symm c
  ·exact h
  ·obtain⟨y,hy,_⟩:=h; simp[Aw] at hy
 cases b:Av n with
 |true=>have e:=g1 b;subst e;obtain⟨y,hy,_⟩:=a;simp[Aw]at hy
 |false=>
  have h1:=Od ht hx k g2 a;rw[f,EM ht b]at h1;have e:Ah [(⟨n,An t k⟩:Tm)]=1+Ah (An t k):=by simp[Ah]
  omega
theorem Tq {t:List Bd}:∀ {a b:List Tm},a.length=b.length->(D9 t (Az a b)↔An t a=An t b)
 | [],[],_=>by simp[D9,Az]
 | [],_::_,h=>by simp at h
 |_::_,[],h=>by simp at h
 |x::a,y::b,h=>by
  have c:=Tq (t:=t) (a:=a) (b:=b) (by simpa using h);rw[Az,Br,Br,FT,<-c];simp[D9]
theorem JA {u:Tm} (he:As [u]=0) (a:Av u.name=true):u=⟨u.name,[]⟩:=by
 obtain⟨n,k⟩:=u;have:=(Gy he).1 a;subst this;rfl
theorem Oe {t:List Bd} (ht:∀d∈t,Av d.nm=true) {V:List ByteArray} {h:List (ByteArray×Tm)} {p:Pr} {l:List Pr} (u:UI V h (p::l)):
  (∀e s',Bp false (Aj h) l (Af (Aj h) p.l) (Af (Aj h) p.r)=.stop e s'->e=8∨¬(D8 t (Aj h)/\Af t p.l=Af t p.r))/\
  (∀s' l',Bp false (Aj h) l (Af (Aj h) p.l) (Af (Aj h) p.r)=.go s' l'->∃h',s'=Aj h'/\UI V h' l'/\((D8 t (Aj h')/\D9 t l')↔(D8 t (Aj h)/\D9 t (p::l)))):=by
 have ok:=u.good.all;obtain⟨e1,e2⟩:=u.head;have F:=EN ok e1;have v:=EN ok e2;have i:D8 t (Aj h)->(Af t p.l=Af t p.r↔Af t (Af (Aj h) p.l)=Af t (Af (Aj h) p.r)):=λG=>by
  rw[Oc ht ok.vars G e1,Oc ht ok.vars G e2]
 have A:D9 t (p::l)↔(Af t p.l=Af t p.r/\D9 t l):=by simp[D9]
 have L:=λx y=>u.bindV (x:=x) (t:=y);have M:=u.deep;have N:∀d∈Aj h,As [d.t]=0:=λd hd=>(ok.2.1 d hd).2;generalize Af (Aj h) p.l=a at *;generalize Af (Aj h) p.r=b at *;have H:∀(x:ByteArray) (y:Tm),Av x=true->x≠y.name->As [y]=0->((x=a.name/\y=b)∨(x=b.name/\y=a))->(D8 t (Aj h)->(Af t p.l=Af t p.r↔Af t ⟨x,[]⟩=Af t y))->
   (∀e s',Co false (Aj h) l x y=.stop e s'->e=8∨¬(D8 t (Aj h)/\Af t p.l=Af t p.r))/\(∀s' l',Co false (Aj h) l x y=.go s' l'->∃h',s'=Aj h'/\UI V h' l'/\((D8 t (Aj h')/\D9 t l')↔(D8 t (Aj h)/\D9 t (p::l)))):=λx y hx O ar P B=>by
  unfold Co;by_cases ho:Cd x (AR [] (Aw [y]))=true
  ·rw[Aq ho];have hoc:Ax x [y]:=by
    apply El;intro f;unfold Cd at ho;rw[ER]at ho;obtain⟨z,hz,e⟩:=ho;have e2:z=x:=FY (by simpa using e);subst e2;rcases LM _ _ _ hz with h1|⟨k,h1,h2,_⟩
    ·cases h1
    ·exact f ⟨k,h1,h2⟩
   refine⟨λe s' c=>Ae λj=>Y8 ht hx ar O hoc ((B j.1).1 j.2),λs' l' c=>by cases c⟩
  ·rw[Am ho,Am (by simp)];refine⟨λe s' c=>(by cases c),λs' l' c=>?_⟩;cases c;refine⟨h++[(x,y)],by rw[Ff]; rfl,(L x y hx P ho).2,?_⟩;rw[Ff,Y6 ht hx N,A];constructor
   ·rintro⟨⟨h1,h2⟩,h3⟩;exact⟨h1,(B h1).2 h2,h3⟩
   ·rintro⟨h1,h2,h3⟩;exact⟨⟨h1,(B h1).1 h2⟩,h3⟩
 unfold Bp;by_cases hz:2000<Ah [a]∨2000<Ah [b]
 ·rw[Aq hz];refine⟨λe s' c=>(by cases c; exact Ad rfl),λs' l' c=>by cases c⟩
 rw[Am hz];by_cases g:Av a.name=true
 ·rw[Aq g];have I:=JA F g;by_cases f:a.name=b.name
  ·rw[Aq f];refine⟨λe s' c=>(by cases c),λs' l' c=>?_⟩;cases c;have C:=JA v (by rw[<-f]; exact g);refine⟨h,rfl,u.drop,?_⟩;rw[A];constructor
   ·rintro⟨h1,h2⟩;exact⟨h1,(i h1).2 (by rw[I,C,f]),h2⟩
   ·rintro⟨h1,_,h2⟩;exact⟨h1,h2⟩
  ·rw[Am f];exact H a.name b g f v (Ad ⟨rfl,rfl⟩) (λj=>by rw[i j,<-I])
 rw[Am g];have R:Av a.name=false:=by simpa using g
 by_cases m:Av b.name=true
 ·rw[Aq m];have C:=JA v m;exact H b.name a m (λe=>g (by rw[<-e]; exact m)) F (Ae ⟨rfl,rfl⟩) (λj=>by rw[i j,<-C]; exact eq_comm)
 rw[Am m];have T:Av b.name=false:=by simpa using m
 have D:Af t a=⟨a.name,An t a.args⟩:=(by obtain⟨n,k⟩:=a;exact EM ht R k);have E:Af t b=⟨b.name,An t b.args⟩:=(by obtain⟨n,k⟩:=b;exact EM ht T k);by_cases o:a.name=b.name/\a.args.length=b.args.length
 ·rw[Aq o];refine⟨λe s' c=>(by cases c),λs' l' c=>?_⟩;cases c;refine⟨h,rfl,(M (by omega) (by omega) o.2).1,?_⟩;have U:D9 t (Az a.args b.args++l)↔(D9 t (Az a.args b.args)/\D9 t l):=by
   constructor
   ·intro c;exact⟨λq hq=>c q (List.mem_append_left _ hq),λq hq=>c q (List.mem_append_right _ hq)⟩
   ·rintro⟨h1,h2⟩ q hq;rcases BJ.1 hq with hq|hq
    ·exact h1 q hq
    ·exact h2 q hq
  rw[U,A,Tq o.2];constructor
  ·rintro⟨h1,h2,h3⟩;exact⟨h1,(i h1).2 (by rw[D,E,h2,o.1]),h3⟩
  ·rintro⟨h1,h2,h3⟩;have s:=(i h1).1 h2;rw[D,E]at s;exact⟨h1,by injection s,h3⟩
 ·rw[Am o];refine⟨λe s' c=>Ae ?_,λs' l' c=>by cases c⟩;rintro⟨h1,h2⟩;have s:=(i h1).1 h2;rw[D,E]at s;injection s with h5 h6
  have J:=Dl List.length h6;rw[I4,I4]at J;exact o ⟨h5,J⟩
theorem Tr {V:List ByteArray}:∀(n:Nat) (h:List (ByteArray×Tm)) (l:List Pr) (R:Int×List Bd),UI V h l->AZ false n (Aj h) l=some R->
  ∃h',R.2=Aj h'/\Ci h'/\Gn h'/\(R.1=0->∀t,(∀d∈t,Av d.nm=true)->(D8 t R.2↔(D8 t (Aj h)/\D9 t l)))/\(R.1≠0->R.1≠8->∀t,(∀d∈t,Av d.nm=true)->¬(D8 t (Aj h)/\D9 t l))
 |0,h,l,R,u,a=>by cases a
 |n+1,h,[],R,u,a=>by
  simp[AZ,Eg]at a;subst a;exact⟨h,rfl,u.good,u.names,λ_ t _=>by simp[D9],λh0=>absurd rfl h0⟩
 |n+1,h,p::l,R,u,a=>by
  rw[AZ,ED]at a;cases hp:Bp false (Aj h) l (Af (Aj h) p.l) (Af (Aj h) p.r) with
  |stop e s'=>
   rw[hp]at a;have e2:s'=Aj h:=Nn (lim:=false) (l:=p::l) (e:=e) (by rw[ED]; exact hp);simp at a;subst a;refine⟨h,e2,u.good,u.names,λh0=>?_,λ_ h8 t ht=>?_⟩
   ·exfalso;have h0:e=0:=h0;subst h0;unfold Bp Co at hp;repeat' split at hp
    all_goals first|(cases hp; done)|(injection hp with h1 h2; exact absurd h1 (by decide))
   ·rcases(Oe ht u).1 e s' hp with h1|h1
    ·exact absurd h1 h8
    ·rintro⟨h2,h3⟩;exact h1 ⟨h2,h3 p (by simp)⟩
  |go s' l'=>
   rw[hp]at a;obtain⟨h',rfl,u',_⟩:=(Oe (t:=[]) (by simp) u).2 s' l' hp;obtain⟨h2,b,c,f,g,i⟩:=Tr n h' l' R u' a;have key:∀t,(∀d∈t,Av d.nm=true)->((D8 t (Aj h')/\D9 t l')↔(D8 t (Aj h)/\D9 t (p::l))):=λt ht=>by
    obtain⟨h3,e3,_,j⟩:=(Oe ht u).2 (Aj h') l' hp;rw[e3];exact j
   exact⟨h2,b,c,f,λh0 t ht=>(g h0 t ht).trans (key t ht),λh0 h8 t ht k=>i h0 h8 t ht ((key t ht).2 k)⟩
theorem Za {t:List Bd} {l:List Tm} {x:Tm} (h:x∈l):Ah [Af t x]<=Ah (An t l):=by
 induction l with
 |nil=>cases h
 |cons a r b=>
  have hc:=Fe (Af t a) (An t r);rw[Br];rcases Cn.1 h with rfl|h
  ·omega
  ·have:=b h; omega
