/- Several texts in one. -/
import Derived.Test.YtgbcafaibocebaaGreatDoorZFCriticalMadeOwn
import Derived.Deep.RegionHeld
import Derived.RangeFuncNested
import Derived.RangeFuncBound
import Derived.RangeFuncCalls
import Derived.RangeFuncLeaves
import Derived.RangeFuncWrites
import Derived.Shelf.Abstract
import Derived.Shelf.RegionOpen
import Derived.OwnWalkIn
import Derived.TacticsInMore
import Derived.LoopNIn
import Derived.LoopIn
namespace Go.Proofs.YtgbcafaibocebaaGreatDoor
set_option linter.all false
set_option maxRecDepth 20000
set_option maxHeartbeats 8000000
open Go.RowKit Go.Proofs.Tryz
def Nr:Prop:=∀(q:Nat) (L:List (ByteArray×Value)) (w:World),Bm w q L->(L.map (·.1)).Pairwise (·≠·)->(∀p∈L,p.1.size<=8)->L.length<=1000000->
 (Calls prog 131 #[.map (some q)] w λe w'=>e=.returned (.func (.func 145) #[] #[zC w.heap.size])/\w'=w.alloc (.cells #[.map (some q)] 145))/\
 (Calls prog 130 #[.func (.func 145) #[] #[zC w.heap.size]] (w.alloc (.cells #[.map (some q)] 145)) λe w'=>∃(v:Value) (nl:List ByteArray),e=.returned v/\nl.Perm (L.map (·.1))/\(nl.Pairwise λa b=>Cw b a=false)/\LV Value.string w' (λb=>w.heap.size+1<=b) v nl/\Below (w.heap.size+1) (w.alloc (.cells #[.map (some q)] 145)) w')
theorem Zj (a b c:Value) (w:World):Sem.run prog (Instr.field 188 (.agg #[a,b,c]) 0) w=.ok (.agg #[a,b]) w:=by
 rfl
theorem Zk {w w1:World} {N:Nat} {Y:Nat->Prop} {v:Value} {cs:List Bc} (h:Bj w N Y v cs) (c:N<=w.heap.size) (d:∀b,Y b->b<N) (hb:Below w.heap.size w w1) (x:Bc) (ht:Sl w1 (λb=>Y b∨w.heap.size<=b) x.2.1 x.1.t.args) (hn:cs.length<=1000000) (A:Nat) (f:w1.heap.size=A):
  ∃v2 w3,(Builtin.append_ #[71,71] 71 #[v,.slice (some (zD A 0)) 1 1]).run prog (w1.alloc (.cells #[.string x.1.nm,.string x.1.t.name,.slice x.2.1 x.1.t.args.length x.2.2] 90))=.ok v2 w3/\Bj w3 N Y v2 (cs++[x])/\
   (w1.alloc (.cells #[.string x.1.nm,.string x.1.t.name,.slice x.2.1 x.1.t.args.length x.2.2] 90)).grownBy w3 v.ownBlock/\∀k,v2.ownBlock=some k->v.ownBlock=some k∨w1.heap.size<=k:=by
 subst f;obtain⟨i0,hi,ab,i,j⟩:=CE Tryz.infoBind;have hs:=hb.size;obtain⟨g,cap,w3,l,ho,a,aa,hlt⟩:=run_append_lies (P:=prog) (w:=w1.alloc (.cells #[.string x.1.nm,.string x.1.t.name,.slice x.2.1 x.1.t.args.length x.2.2] 90)) 71 71 N 90 i0 _ 3 56 underlying71 hi ab i j rfl (by decide) v cs.length (Dg cs) ((h.below hb).own.alloc _)
  (zD w1.heap.size 0) 1 1 (Dt x) rfl (IY _ _ _ _ _) (λy hy=>by simp[Dt] at hy; rcases hy with rfl|rfl|rfl<;>rfl) (by decide) (by unfold maxLen; omega) (by omega) (by simp; omega) _ rfl
 refine⟨_,w3,l,h.push c d hb ht _ rfl ho a aa,a,λk hk=>?_⟩;have e:g=k:=by simpa [Value.ownBlock] using hk
 rcases aa with h1|h1
 ·exact Ad (by rw[h1,e])
 ·right; simp at h1; omega
def GX (s:List Bd) (n:ByteArray):Bd:=⟨n,(As s n).getD ⟨n,[]⟩⟩
def Zl (S q:Nat) (td:Value) (h:List (ByteArray×Tm)) (nl:List ByteArray) (Y:Nat->Prop) (w2:World) (u i:Value) (wr:World):Prop:=
 ∃(k:Nat) (f':Bool) (Y':Nat->Prop) (cs:List Bc),k<=nl.length/\i=zA k/\Bj wr w2.heap.size (λ_=>False) u cs/\cs.map (·.1)=(nl.take k).map (GX (Ak h))/\(∀x∈cs,Ab [x.1.t]<=2000)/\Cg S q td h f' Y' wr/\(∀b,Y' b->Y b∨w2.heap.size<=b)/\(∀b,Y' b->some b≠u.ownBlock)/\Am (Ci S q) w2 wr
def Zm (h:List (ByteArray×Tm)) (S q:Nat) (w:World) (e:Ending) (w':World):Prop:=
 Am (Ci S q) w w'/\((AF (Ak h)=true/\e=.returned (.tuple #[zB,.bool false]))∨(AF (Ak h)=false/\∃v,e=.returned (.tuple #[v,.bool true])/\BV w' (λb=>w.heap.size<=b) v (Ak h)))
theorem Zn:∀ {h:List (ByteArray×Tm)},Ca h->Fg (Ak h):=fun {h} g=>by
 rcases List.eq_nil_or_concat h with rfl|⟨k,p,rfl⟩
 ·simp[Ak,Fg]
 ·rw[List.concat_eq_append]at g ⊢;rw[FE];have hk:k.length<(k++[p]).length:=by simp
  have m:=g k.length hk;rw[G6 (Ai _),E5]at m;have gk:=g.ok k.length (by simp);rw[G6 (Ai _),E5]at gk;have m2:∀d∈Ak k,d.nm≠p.1:=λd hd=>by
   have:=m.2.1 d hd;simpa using this
  exact Kz _ (J0 gk.1 m2)
theorem Zo {h:List (ByteArray×Tm)} (g:Ca h) {nl:List ByteArray} (hp:nl.Perm (h.map (·.1))) (ho:nl.Pairwise λa b=>Cw b a=false):nl.map (GX (Ak h))=Ak h:=by
 have ok:=g.all;have c:(h.map (·.1)).Nodup:=(by rw[Og,Gc,Kr];intro i j hi hj ag e;have:=g.once hi hj e;omega);have ah:nl.Nodup:=hp.symm.nodup c;have aa:(nl.map (GX (Ak h))).Perm (Ak h):=by
  have h1:((h.map (·.1)).map (GX (Ak h))).Perm (Ak h):=by
   refine(List.perm_ext_iff_of_nodup ?_ ?_).2 λd=>?_
   ·rw[Og,Gc];refine(Og.1 c).imp fun {a b} ab e=>ab ?_;have:=Bx Bd.nm e;exact this
   ·exact(List.Pairwise.imp (fun {a b} ab e=>ab (by rw[e])) ok.1:(Ak h).Pairwise (·≠·))
   ·constructor
    ·intro hd;obtain⟨n,hn,rfl⟩:=Ce.1 hd;obtain⟨p,f,rfl⟩:=Ce.1 hn;obtain⟨i,hi,rfl⟩:=Hz f;obtain⟨d,k,l,m⟩:=FU (Je g hi);have:GX (Ak h) h[i].1=d:=by
      unfold GX;rw[Je g hi,Option.getD_some,<-m,<-l]
     rw[this]; exact k
    ·intro hd;have h2:=(g.bound h.length (Ai _) d.nm).1 ⟨d,by rw[E5]; exact hd,rfl⟩;obtain⟨i,hi,_,e⟩:=h2;refine Ce.2 ⟨d.nm,Ce.2 ⟨h[i],AN hi,e⟩,?_⟩;unfold GX;rw[Lj ok.1 hd,Option.getD_some]
  exact(hp.map _).trans h1
 refine Mq aa (Mr (ok.1.perm aa) ?_) (Zn g);rw[Gc];exact ho
theorem RC (bc:Hid Nr) (S q:Nat) (a:Value) (h:List (ByteArray×Tm)) (g:Ca h) (z:Gp h) (hh:h.length<=1000000) (w:World) (Y:Nat->Prop) (f:Bool) (hE:Cg S q a h f Y w):
  Calls prog 110 #[zC S] w λe w'=>Zm h S q w e w':=by
 have HE:=Aa hE;obtain⟨⟨L,H,I,A⟩,bA,bB,hY,hg⟩:=hE;have bC:=H.lt;have bD:=I.lt;have bd:=A.1;have HY:=Aa hY;have aC:Hid (L.map (·.1)=h.map (·.1)):=(by refine List.ext_getElem (by simp[bd]) λi h1 h2=>?_;simp only[Jz];exact(A.2 i (by simpa using h2) (by simpa using h1)).1);have B:=bc.o q L w I (by
   rw[aC.o,Gc,Kr];intro i j hi hj bE e;have:=g.once hi hj e;omega) (λp hp=>by
   obtain⟨i,hi,rfl⟩:=Hz hp;rw[(A.2 i (by omega) hi).1];have h1:=z i (by omega);simp[AW]at h1;omega) (by omega)
 rw[aC.o]at B;have s1:w.cell? (zD S 1)=some (.map (some q)):=H.cell 1;clear H I A hg hY;go_enter func110,ntmps110;go_wp2_with (first
  | (go_at_call 131; refine B.1.mono ?_; rintro e w1 ⟨rfl,rfl⟩)
  | (go_at_call 130; refine B.2.mono ?_; rintro e w2 ⟨v2,nl,rfl,J,aD,aE,hb2⟩; have bf:=Aa aE; obtain⟨na,nc,rfl,bg,bh⟩:=aE; clear bh))
 have HP:=Aa J;have HO:=Aa aD;have M:Hid (Below w.heap.size w w2):=((Af _ _).alloc (Ai _) _).trans (hb2.mono (by omega));have bF:w.heap.size+1<=w2.heap.size:=by have:=hb2.size; simp at this; omega
 have bj:=Aa ((Do S q a h).below HE.o M.o);have aF:nl.length<=1000000:=by have:=J.length_eq; simp at this; omega
 obtain⟨bk,bl⟩:=bg;clear J aD hb2 B s1;go_wp2_with fail;go_loopw [4,16] (λu i wr=>Zl S q a h nl Y w2 u i wr) (λu i wr=>nl.length-(intOf i).toNat);case atStart=>exact⟨0,f,Y,[],AG _,rfl,Bj.start _ _ _,by simp,by simp,bj.o,λb hb=>Ad hb,λb _ e=>by simp[Value.ownBlock] at e,Am.refl _ _⟩
 case round=>
  obtain⟨k,f',Y',cs,hk,rfl,hR,hC,hZ,N,ad,ae,hx⟩:=hrel;have C:=Aa hR;have m:=Aa hC;have HZ:=Aa hZ;have bm:=Aa N;have au:=Aa ad;have av:=Aa ae;have O:=Aa hx;have bG:=hx.size;clear hR hC hZ ad ae hx;by_cases n:k<nl.length
  ·have bo:(k:Int)<(nl.length:Int):=(by omega);have bp:LV Value.string wr (λb=>w.heap.size+1<=b/\b<w2.heap.size) (.slice na nl.length nc) nl:=(bf.o.mono (Y:=λb=>w.heap.size+1<=b/\b<w2.heap.size) λb h1 h2=>⟨h1,h2⟩).kept λb hb=>O.o.block b hb.2 (λhm=>by rcases hm with e|e<;>omega);obtain⟨bH,bI,e0,_,aa⟩:=bp;obtain⟨bn,on,rfl,bJ,aa⟩:=aa.resolve_left (λe=>by rw[e] at n; simp at n);simp at e0;obtain⟨rfl,rfl⟩:=e0;have nk:=aa k n;obtain⟨i,hi,D⟩:∃i,∃hi:i<h.length,h[i].1=nl[k]:=(by have h1:=HP.o.subset (AN n);obtain⟨p,hp,e⟩:=Ce.1 h1;obtain⟨i,hi,rfl⟩:=Hz hp;exact⟨i,hi,e⟩);have r:nl.take (k+1)=nl.take k++[nl[k]]:=Bo n;have bq:=Aa r;obtain⟨⟨L',aG,aH,ag⟩,aw,ax,aI,br⟩:=N;obtain⟨v,R,aJ⟩:=ag.get g hi;obtain⟨T,j,ta,E,hT,hj,rfl,aK⟩:=Ru aJ;have bs:=Aa aK;have U:=Aa hT;have bK:=Aa aI;have hz:∀w',(zeroValue 188).run prog w'=.ok (.agg #[.string ⟨#[]⟩,zB,zA 0]) w':=λw'=>zeroValue188 w';have bL:=Aa D;rw[D]at R;have bt:Hid (GX (Ak h) nl[k]=⟨nl[k],stood h i h.length hi⟩):=Aa (by unfold GX;rw[<-D,Je g hi,Option.getD_some]);generalize nl[k]=nm at *;have bu:(Instr.lookup 145 (.map (some q)) (.string nm) false).run prog wr=.ok (.agg #[.string T.name,.slice ta T.args.length E,zA j]) wr:=(by rw[V4 (P:=prog) underlying145 underlying9 (hz _) aH nm,R]; rfl);have bM:Sem.run prog (Instr.field 188 (.agg #[.string T.name,.slice ta T.args.length E,zA j]) 0) wr=.ok (.agg (zF T ta E)) wr:=Zj _ _ _ _;have s1:wr.cell? (zD S 1)=some (.map (some q)):=aG.cell 1;have bw:Hid (Ag (Ak h) T=stood h i h.length hi):=Aa (by rw[U.o];exact Rg g hi (Nat.max_le.2 ⟨hj,hi⟩) (z i hi));have bx:Hid (Ah [T]=0):=Aa (by rw[U.o];exact Rp g z hi (Nat.max_le.2 ⟨hj,hi⟩));have V:=Nn S q a h g z T bx.o ta E wr (λb=>Y' b/\b≠S/\b≠q) Y' f' (λb hb hm=>by rcases hm with e|e; exact hb.2.1 e; exact hb.2.2 e) bs.o bm.o;rw[bw.o]at V;have bz:Hid (cs.length<=1000000):=Aa (by have h1:=Bx List.length m.o;simp at h1;omega);clear aG aH ag aw ax aI br R aJ aK hT r aa D U;go_wp2_with fail;refine V.mono ?_;clear V;rintro e c ⟨y,s,t,ok,f2,l,rfl,aL,ab,az,F,ah,aM,aN⟩;have a1:=Aa aL;have aO:Hid (Am (Ci S q) w2 c):=O.o.trans F;have a6:=Aa F;have a7:=Aa ah;have aP:=Aa ab;have W:=Aa aM;have Z:=Aa aN;have bN:=F.size;clear aL ab az F ah aM aN bu s1 nk;cases ok with
   |false=>
    have b0:Hid (AF (Ak h)=true):=by
     rcases Z.o rfl with h1|h1
     ·exact a1.o.2.2.2.2 h1
     ·exact Rq g hi h1
    clear W Z;go_wp2_with fail;refine An (v:=.tuple #[zB,.bool false]) (by simp[results,results110,go_sem]) rfl ?_;exact⟨((Am.ofBelow M.o).trans aO.o).alloc _,Ad ⟨b0.o,rfl⟩⟩
   |true=>
    obtain⟨rfl,aQ,aR⟩:=W.o rfl;have b1:=Aa aQ;have b2:=Aa aR;clear aQ aR W Z;obtain⟨wm,aS,bO,aT⟩:=a6.o.mid;have aU:=C.o.exq aT (λb hb=>by rcases hb with rfl|rfl<;>omega) (λ_ _ h=>h);have b3:(c.alloc (.cells (zF y s t) 33)).heap.size=c.heap.size+1:=(by simp);have aV:Below wm.heap.size wm (c.alloc (.cells (zF y s t) 33)):=aS.alloc (by omega) _;obtain⟨v6,w6,ai,aW,G,aX⟩:=Zk aU (by omega) (λ_ h=>h.elim) aV (⟨nm,y⟩,s,t) ((a7.o.later ((Af _ _).alloc (Ai _) _)).mono λb hb _=>Ae (by omega)) bz.o (c.heap.size+1) b3;have aB:=Aa ai;have b4:=Aa aW;have aY:=G.size;simp at aY;have b5:Hid (Am (Ci S q) w2 w6):=((aO.o.alloc _).alloc _).grown G (λb hb=>Ad (C.o.own.lt b hb).1);have b6:Hid (∀b,l b->Y b∨w2.heap.size<=b):=λb hb=>by
     rcases aP.o b hb with h1|h1
     ·exact au.o b h1
     ·right; omega
    have aZ:Hid (∀b,l b->some b≠u4.ownBlock):=λb hb e=>by
     rcases aP.o b hb with h1|h1
     ·exact av.o b h1 e
     ·have:=(C.o.own.lt b e.symm).2; omega
    have ba:Hid (∀b,l b->b<c.heap.size):=a1.o.2.2.2.1;have b7:Hid (Cg S q a h false l w6):=(Do S q a h).keep _ _ _ _ a1.o λb hb=>by
     have h1:=ba.o b hb;rw[G.block b (by simp; omega) (aZ.o b hb),AL _ _ _ (by simp; omega),AL _ _ _ h1]
    have b8:Hid (∀b,l b->some b≠v6.ownBlock):=λb hb e=>by
     rcases aX b e.symm with h1|h1
     ·exact aZ.o b hb h1.symm
     ·have:=ba.o b hb; omega
    clear aS aT aU aV ai aW G aX aY;go_wp2_with (at_builtin; refine DD rfl _ _ _ _ rfl rfl rfl aB.o ?_);go_roundw
    case rel=>
     refine⟨k+1,false,l,cs++[(⟨nm,y⟩,s,t)],by omega,by go_num,b4.o,?_,λx hx=>?_,b7.o,b6.o,b8.o,b5.o⟩
     ·rw[bq.o,Cr,Cr,m.o];simp only[Cb,Hy];rw[bt.o,b1.o]
     ·rcases Bg.1 hx with hx|hx
      ·exact HZ.o x hx
      ·have e:x=(⟨nm,y⟩,s,t):=(by simpa using hx);rw[e]; exact b2.o
    case measure=>simp[intOf]; omega
  ·have r:nl.take k=nl:=AX (by omega);rw[r]at m;have bb:=Aa (Zo g HP.o HO.o);have b9:Hid (AF (Ak h)=false):=Aa (by rw[<-bb.o,<-m.o];unfold AF;rw[List.any_eq_false];intro d hd;obtain⟨x,hx,rfl⟩:=Ce.1 hd;have:=HZ.o x hx;simp;omega);clear N r;go_wp2_with fail;refine An (v:=.tuple #[u4,.bool true]) (by simp[results,results110,go_sem]) rfl ?_;refine⟨(Am.ofBelow M.o).trans O.o,Ae ⟨b9.o,u4,rfl,?_⟩⟩;have h1:=C.o.bv;rw[m.o,bb.o]at h1;exact h1.mono λb hb _=>by rcases hb with hb|hb; exact hb.elim; omega
theorem RD {p:ByteArray} {l:List Tm} {k:Nat} (h:k<l.length):Bt p (l.take (k+1))=(Bt p (l.take k)||Bt p [l[k]]):=by
 unfold Bt;rw[JJ l k h,HH]
theorem Zq {p:ByteArray} {l:List Tm} {k:Nat} (h:k<l.length) (h0:Bt p [l[k]]=true):Bt p l=true:=by
 have e:l=l.take (k+1)++l.drop (k+1):=(EJ _ _).symm;have h1:=RD (p:=p) h;rw[h0,Bool.or_true]at h1;unfold Bt at h1 ⊢;rw[e,IL,HH,h1];rfl
theorem Zr (s:ByteArray) (l:List Tm) (p:ByteArray):Bt p [⟨s,l⟩]=((s.toList==p.toList)||Bt p l):=by
 unfold Bt;simp[Ao]
def Zs (p:ByteArray) (l:List Tm) (w:World) (v:Value) (wr:World):Prop:=∃k:Nat,k<=l.length/\v=zA k/\Bt p (l.take k)=false/\Below w.heap.size w wr
theorem Zt (P:Nat) (p:ByteArray) (l:List Tm) (a:Option Addr) (c:Nat) (w:World) (X:Nat->Prop) (hs:Sl w X a l)
  (aa:∀x∈l,∀d c' w',Below w.heap.size w w'->Sl w' X d x.args->Calls prog 88 #[.agg (zF x d c'),zC P] w' λe u=>e=.returned (.bool (Bt p [x]))/\Below w'.heap.size w' u):
  Calls prog 104 #[.slice a l.length c,.func (.func 88) #[] #[zC P]] w λe w'=>(∃i:Int,e=.returned (zA i)/\decide (0<=i)=Bt p l)/\Below w.heap.size w w':=by
 have z:=Aa hs;have A:=Aa aa;have hl:=hs.1;clear hs aa;go_enter func104,ntmps104;go_wp2_with fail;go_loopw [8] (λv wr=>Zs p l w v wr) (λv wr=>l.length-(intOf v).toNat);case atStart=>exact⟨0,AG _,rfl,by simp[Bt,Ao],Af _ _⟩
 case round=>
  obtain⟨k,hk,rfl,m,hb⟩:=hrel;have n:=Aa m;have g:=Aa hb;clear m;by_cases f:k<l.length
  ·have ai:(k:Int)<(l.length:Int):=(by omega);obtain⟨b,o,d,c',rfl,d0,d1,hx⟩:=z.o.get hb (λ_ _ h=>h) k f;obtain⟨av,cv,q,ab⟩:=hx;simp at q;obtain⟨rfl,rfl⟩:=q;have B:=Aa (A.o l[k] (AN f) d c' wr hb ab);have r:=Aa (RD (p:=p) f);have C:=Aa (Zq (p:=p) f);clear ab hb;generalize l[k]=y at *;go_wp2_with fail;refine B.o.mono ?_;rintro e w1 ⟨rfl,s⟩;have t:=Aa (g.o.trans (s.mono g.o.size));clear s;cases hm:Bt p [y] with
   |true=>have j:=Aa (C.o hm);go_wp2_with fail;go_ret;exact⟨⟨_,rfl,by rw[j.o]; simp⟩,t.o⟩
   |false=>
    rw[hm]at r;go_wp2_with fail;go_roundw
    case rel=>exact⟨k+1,by omega,by go_num,by rw[r.o,n.o]; rfl,t.o⟩
    case measure=>simp[intOf]; omega
  ·have j:Hid (false=Bt p l):=Aa (by rw[<-n.o,AX (by omega)]);go_wp2_with fail;go_ret;exact⟨⟨-1,rfl,by rw[<-j.o]; decide⟩,g.o⟩
theorem Zu (P:Nat) (p:ByteArray) (l:List Tm) (a:Option Addr) (c:Nat) (w:World) (X:Nat->Prop) (hs:Sl w X a l)
  (aa:∀x∈l,∀b c' w',Below w.heap.size w w'->Sl w' X b x.args->Calls prog 88 #[.agg (zF x b c'),zC P] w' λe d=>e=.returned (.bool (Bt p [x]))/\Below w'.heap.size w' d):
  Calls prog 87 #[.slice a l.length c,.func (.func 88) #[] #[zC P]] w λe w'=>e=.returned (.bool (Bt p l))/\Below w.heap.size w w':=by
 have f:=Aa (Zt P p l a c w X hs aa);clear hs aa;go_enter func87,ntmps87;go_wp2_with fail;refine f.o.mono ?_;rintro e w1 ⟨⟨i,rfl,hi⟩,ab⟩;have g:=Aa hi;have h:=Aa ab;clear hi ab;go_wp2_with fail;go_ret;exact⟨BJ (by rw[<-g.o]),h.o⟩
theorem RE (n:ByteArray) (t:Tm):∀(b:Value) (w:World) (X:Nat->Prop),TV w X b t->
  Calls prog 63 #[b,.string n] w λe w'=>e=.returned (.bool (Bt n [t]))/\Below w.heap.size w w':=by
 induction t using Tm.ind with
 |h s l f=>
  intro b w X ht;obtain⟨a,c,rfl,hs⟩:=ht;have r:=Aa f;have u:=Aa hs;have ab:=Aa (Zr s l n);clear f hs;(try dsimp only[zF]);(try dsimp only[zG]);(try dsimp only[zE]);(try dsimp only);have aa:Hid (Below w.heap.size w ((w.alloc (.cells #[.string s,.slice a l.length c] 33)).alloc (.cells #[.string n] 9))):=CX _ _;have PA:=Aa ((Ac.new w #[.string s,.slice a l.length c] 33).alloc (.cells #[.string n] 9));have g:Hid (Ac ((w.alloc (.cells #[.string s,.slice a l.length c] 33)).alloc (.cells #[.string n] 9)) (w.heap.size+1) #[.string n] 9):=by
   have h:=Ac.new (w.alloc (.cells #[.string s,.slice a l.length c] 33)) #[.string n] 9;unfold Hid;simpa using h
  have al:=@hmq prog;cases hm:(s.toList==n.toList) with
  |true=>have d:Hid (true=Bt n [⟨s,l⟩]):=Aa (by rw[ab.o,hm];rfl);go_enter func63,ntmps63;go_wp2_with fail;go_ret;exact⟨BJ d.o,aa.o⟩
  |false=>
   have d:Hid (Bt n l=Bt n [⟨s,l⟩]):=Aa (by rw[ab.o,hm];rfl);go_enter func63,ntmps63;go_wp2_with fail;generalize (w.alloc (.cells #[.string s,.slice a l.length c] 33)).alloc (.cells #[.string n] 9)=w3 at *;have v:=Aa (Zu (w.heap.size+1) n l a c w3 X (u.o.later aa.o) (λx hx i c' w' j k=>by
    have y:=Aa (g.o.below j g.o.lt);have b0:∀o,(w'.alloc o).cell? (zD (w.heap.size+1) 0)=some (.string n):=λo=>(y.o.alloc o).cell 0;have z:=Aa (r.o x hx (.agg (zF x i c')) (w'.alloc (.cells (zF x i c') 33)) X ⟨_,_,rfl,k.later ((Af _ _).alloc (Ai _) _)⟩);clear k j;go_enter func88,ntmps88;go_wp2_with fail;refine z.o.mono ?_;rintro e w1 ⟨rfl,m⟩;have A:=Aa (((Af w'.heap.size w').alloc (Ai _) _).trans (m.mono (by simp)));clear m;go_wp2_with fail;go_ret;exact⟨rfl,A.o⟩))
   refine v.o.mono ?_;rintro e w4 ⟨rfl,q⟩;have B:=Aa (aa.o.trans (q.mono aa.o.size));clear q;go_wp2_with fail;go_ret;exact⟨BJ d.o,B.o⟩
def RG (ta tb:Tm) (s1:ByteArray) (a1:Option Addr) (n1:Nat) (s2:ByteArray) (a2:Option Addr) (n2:Nat) (ok f':Bool) (Z:Nat->Prop) (w':World):Prop:=
 (ok=true/\f'=false/\s1=ta.name/\n1=ta.args.length/\s2=tb.name/\n2=tb.args.length/\Ab [ta]<=2000/\Ab [tb]<=2000/\Sl w' Z a1 ta.args/\Sl w' Z a2 tb.args)∨(ok=false/\(f'=true∨2000<Ab [ta]∨2000<Ab [tb]))
def Zv (S q:Nat) (td:Value) (h:List (ByteArray×Tm)) (ta tb:Tm) (X Y:Nat->Prop) (w:World) (e:Ending) (w':World):Prop:=
 ∃(s1:ByteArray) (a1:Option Addr) (n1 c1:Nat) (s2:ByteArray) (a2:Option Addr) (n2 c2:Nat) (ok f':Bool) (Y':Nat->Prop),e=.returned (.tuple #[.agg #[.string s1,.slice a1 n1 c1],.agg #[.string s2,.slice a2 n2 c2],.bool ok])/\Cg S q td h f' Y' w'/\(∀b,Y' b->Y b∨w.heap.size<=b)/\Am (Ci S q) w w'/\RG ta tb s1 a1 n1 s2 a2 n2 ok f' (λb=>(X b/\b<w.heap.size)∨w.heap.size<=b) w'
theorem Zw (w:World):w.drew.heap=w.heap:=rfl
theorem Lv {w:World} {c1 c2 c3 c4 c5 a c d e f g h:Nat} {v1 v2 v3 v4 v5 v6:Value} {b:Nat} (h1:b≠c1) (h2:b≠c2) (h3:b≠c3) (i:b≠c4) (j:b≠c5) (h6:b≠a):
  ((((((w.setCell (zD c1 c) v1).setCell (zD c2 d) v2).setCell (zD c3 e) v3).setCell (zD c4 f) v4).setCell (zD c5 g) v5).setCell (zD a h) v6).drew.heap[b]? = w.heap[b]? := by
 rw[Zw];rw[Aq _ _ _ _ (by simpa using h6),Aq _ _ _ _ (by simpa using j),Aq _ _ _ _ (by simpa using i),Aq _ _ _ _ (by simpa using h3),Aq _ _ _ _ (by simpa using h2),Aq _ _ _ _ (by simpa using h1)]
theorem RI {Q:Nat->Prop} {a w:World} {c1 c2 c3 c4 c5 b c d e f g i:Nat} {v1 v2 v3 v4 v5 v6:Value} (h:Am Q a w) (h1:a.heap.size<=c1) (h2:a.heap.size<=c2) (h3:a.heap.size<=c3) (j:a.heap.size<=c4) (k:a.heap.size<=c5) (h6:a.heap.size<=b):
  Am Q a ((((((w.setCell (zD c1 c) v1).setCell (zD c2 d) v2).setCell (zD c3 e) v3).setCell (zD c4 f) v4).setCell (zD c5 g) v5).setCell (zD b i) v6).drew:=
 ((((((h.setNew h1 _ _).setNew h2 _ _).setNew h3 _ _).setNew j _ _).setNew k _ _).setNew h6 _ _).drew
theorem Zx (S q:Nat) (i:Value) (h:List (ByteArray×Tm)) (g:Ca h) (hN:Gp h) (p:Pr) (he:Ah [p.l]=0/\Ah [p.r]=0) (j:Nat) (hj:j<=h.length) (hid:j=h.length->(Ag (Ak h) p.l=p.l/\Ag (Ak h) p.r=p.r)) (aJ:Ab [p.l]<=2000/\Ab [p.r]<=2000) (a1:Option Addr) (c1:Nat) (a2:Option Addr) (c2:Nat) (w:World) (X Y:Nat->Prop) (aK:∀b,X b->¬Ci S q b) (aL:Sl w X a1 p.l.args) (aM:Sl w X a2 p.r.args) (aN:Cg S q i h false Y w):
  Calls prog 127 #[zC S,.agg #[.string p.l.name,.slice a1 p.l.args.length c1,.string p.r.name,.slice a2 p.r.args.length c2,zA j]] w λe w'=>Zv S q i h (Ag (Ak h) p.l) (Ag (Ak h) p.r) X Y w e w':=by
 have aO:=Aa aL;have aP:=Aa aM;have HE:=Aa aN;have Z:=Aa aK;have aQ:=Aa hid;have aR:=Aa aJ;obtain⟨⟨L,M,hM,aS⟩,bn,bo,hY,hg⟩:=aN;have bd:=M.lt;have aT:=hM.lt;have HY:=Aa hY;have bf:Hid (L.length=h.length):=aS.1;have bg:=Aa hM;have HB:=Aa M;clear aL aM aK hid aJ aS hg hY hM;have s1:∀o o' k,(((w.alloc o).alloc o').alloc k).cell? (zD S 1)=some (.map (some q)):=λo o' k=>(((M.alloc o).alloc o').alloc k).cell 1;have hlen:∀o o' k,Sem.run prog (Builtin.len_ #[145] 3 #[.map (some q)]) (((w.alloc o).alloc o').alloc k).drew=.ok (zA (h.length:Int)) (((w.alloc o).alloc o').alloc k).drew:=λo o' k=>by
  have h1:Bm (((w.alloc o).alloc o').alloc k).drew q L:=bg.o.below (((((Af w.heap.size w).alloc (Ai _) o).alloc (by simp) o').alloc (by simp; omega) k).drew) aT;rw[J5 underlying145 h1,bf.o]
 clear M;by_cases t:j=h.length
 ·have bh:((j:Int)==(h.length:Int))=true:=by rw[t]; simp
  have n:=Aa (aQ.o t);have HJ:=Aa t;clear t;go_enter func127,ntmps127;go_wp2_with fail;go_region
  go_wp2_with fail;go_region
  all_goals go_wp2_with fail
  all_goals
   refine An (v:=.tuple #[.agg (zF p.l a1 c1),.agg (zF p.r a2 c2),.bool true]) (by simp[results,results127,go_sem]) rfl ?_;have N:Below w.heap.size w (((w.alloc (.cells #[.string p.l.name,.slice a1 p.l.args.length c1,.string p.r.name,.slice a2 p.r.args.length c2,zA j] 153)).alloc (.cells (zF p.l a1 c1) 33)).alloc (.cells (zF p.r a2 c2) 33)).drew.drew:=(((((Af w.heap.size w).alloc (Ai _) _).alloc (by simp) _).alloc (by simp; omega) _).drew).drew;exact⟨p.l.name,a1,p.l.args.length,c1,p.r.name,a2,p.r.args.length,c2,true,false,Y,rfl,(Do S q i h).below HE.o N,λb hb=>Ad hb,Am.ofBelow N,Ad ⟨rfl,rfl,by rw[n.o.1],by rw[n.o.1],by rw[n.o.2],by rw[n.o.2],by rw[n.o.1]; exact aR.o.1,by rw[n.o.2]; exact aR.o.2,by rw[n.o.1]; exact(aO.o.mono (Y:=λb=>X b/\b<w.heap.size) λb h1 h2=>⟨h1,h2⟩).later N |>.mono λb hb _=>Ad hb,by rw[n.o.2]; exact(aP.o.mono (Y:=λb=>X b/\b<w.heap.size) λb h1 h2=>⟨h1,h2⟩).later N |>.mono λb hb _=>Ad hb⟩⟩
 ·have bh:((j:Int)==(h.length:Int))=false:=DU.2 (by omega);clear t aQ;have ay:=Aa (aO.o.mono (Y:=λb=>X b/\b<w.heap.size) λb h1 h2=>⟨h1,h2⟩);have az:=Aa (aP.o.mono (Y:=λb=>X b/\b<w.heap.size) λb h1 h2=>⟨h1,h2⟩);have a6:Hid (Below w.heap.size w (((w.alloc (.cells #[.string p.l.name,.slice a1 p.l.args.length c1,.string p.r.name,.slice a2 p.r.args.length c2,zA j] 153)).alloc (.cells #[.string ⟨#[]⟩,zB] 33)).alloc (.cells #[.string ⟨#[]⟩,zB] 33)).drew):=((((Af w.heap.size w).alloc (Ai _) _).alloc (by simp) _).alloc (by simp; omega) _).drew;have Q3:Hid (Ac (((w.alloc (.cells #[.string p.l.name,.slice a1 p.l.args.length c1,.string p.r.name,.slice a2 p.r.args.length c2,zA j] 153)).alloc (.cells #[.string ⟨#[]⟩,zB] 33)).alloc (.cells #[.string ⟨#[]⟩,zB] 33)).drew w.heap.size #[.string p.l.name,.slice a1 p.l.args.length c1,.string p.r.name,.slice a2 p.r.args.length c2,zA j] 153):=((Ac.new w _ _).alloc _).alloc _;have A3:Hid (Ac (((w.alloc (.cells #[.string p.l.name,.slice a1 p.l.args.length c1,.string p.r.name,.slice a2 p.r.args.length c2,zA j] 153)).alloc (.cells #[.string ⟨#[]⟩,zB] 33)).alloc (.cells #[.string ⟨#[]⟩,zB] 33)).drew (w.heap.size+1) #[.string ⟨#[]⟩,zB] 33):=(by have h1:=(Ac.new (w.alloc (.cells #[.string p.l.name,.slice a1 p.l.args.length c1,.string p.r.name,.slice a2 p.r.args.length c2,zA j] 153)) #[.string ⟨#[]⟩,zB] 33).alloc (.cells #[.string ⟨#[]⟩,zB] 33);rw[CW]at h1;exact h1);have B3:Hid (Ac (((w.alloc (.cells #[.string p.l.name,.slice a1 p.l.args.length c1,.string p.r.name,.slice a2 p.r.args.length c2,zA j] 153)).alloc (.cells #[.string ⟨#[]⟩,zB] 33)).alloc (.cells #[.string ⟨#[]⟩,zB] 33)).drew (w.heap.size+1+1) #[.string ⟨#[]⟩,zB] 33):=(by have h1:=Ac.new ((w.alloc (.cells #[.string p.l.name,.slice a1 p.l.args.length c1,.string p.r.name,.slice a2 p.r.args.length c2,zA j] 153)).alloc (.cells #[.string ⟨#[]⟩,zB] 33)) #[.string ⟨#[]⟩,zB] 33;rw[CW,CW]at h1;exact h1);have z3:(((w.alloc (.cells #[.string p.l.name,.slice a1 p.l.args.length c1,.string p.r.name,.slice a2 p.r.args.length c2,zA j] 153)).alloc (.cells #[.string ⟨#[]⟩,zB] 33)).alloc (.cells #[.string ⟨#[]⟩,zB] 33)).drew.heap.size=w.heap.size+3:=by simp
  go_enter func127,ntmps127;go_wp2_with fail;go_region
  go_wp2_with fail;generalize (((w.alloc (.cells #[.string p.l.name,.slice a1 p.l.args.length c1,.string p.r.name,.slice a2 p.r.args.length c2,zA j] 153)).alloc (.cells #[.string ⟨#[]⟩,zB] 33)).alloc (.cells #[.string ⟨#[]⟩,zB] 33)).drew=w3 at *;refine(Nn S q i h g hN p.l he.1 a1 c1 w3 _ Y false (λb hb=>Z.o b hb.1) (ay.o.later a6.o) ((Do S q i h).below HE.o a6.o)).mono ?_;rintro e f ⟨y,a,c,ok,u,Y',rfl,aU,ab,a7,hx,x,z,A⟩;have B:∀b,Ci S q b->b<w.heap.size:=λb hb=>by rcases hb with rfl|rfl; exact bd; exact aT
  have aV:Hid (Am (Ci S q) w f):=(Am.ofBelow a6.o).trans hx;have Q4:=Aa (Q3.o.exq hx (λh=>by have:=B _ h; omega));have C:=Aa (A3.o.exq hx (λh=>by have:=B _ h; omega));have D:=Aa (B3.o.exq hx (λh=>by have:=B _ h; omega));have aW:Hid (w.heap.size+3<=f.heap.size):=Aa (by have:=hx.size;omega);have O:Hid (∀b,Y' b->Y b∨w.heap.size+3<=b):=λb hb=>(ab b hb).imp id λh=>by omega
  have aX:=Aa aU;have a8:Hid (Sl f (λb=>w.heap.size+3<=b/\b<f.heap.size) a y.args):=x.mono λb hb h2=>⟨by omega,h2⟩;have aA:=Aa z;have aB:=Aa A;have aC:=Aa B;clear ab hx x z A aU a7 B;have q2:=Q4.o.c2;have q3:=Q4.o.c3;have x0:=C.o.c0;have x1:=C.o.c1;have xf:=C.o.frozen;have y0:=D.o.c0;have y1:=D.o.c1;cases ok with
  |true=>
   obtain⟨rfl,aY,aZ⟩:=aA.o rfl;have P:=Aa aY;have bj:=Aa aZ;clear aY aZ aA aB;have aD:∀b,b≠w.heap.size+1->((f.setCell (zD (w.heap.size+1) 0) (.string y.name)).setCell (zD (w.heap.size+1) 1) (.slice a y.args.length c)).heap[b]? = f.heap[b]? := λb hb=>by
    rw[Aq _ _ _ _ (by simpa using hb),Aq _ _ _ _ (by simpa using hb)]
   have A5:Hid (Ac ((f.setCell (zD (w.heap.size+1) 0) (.string y.name)).setCell (zD (w.heap.size+1) 1) (.slice a y.args.length c)) (w.heap.size+1) (zF y a c) 33):=Aa (by have:=(C.o.set 0 (.string y.name)).set 1 (.slice a y.args.length c);simpa using this);have B5:=Aa ((D.o.setOther (b':=w.heap.size+1) 0 (.string y.name) (by omega)).setOther (b':=w.heap.size+1) 1 (.slice a y.args.length c) (by omega));have bk:=Aa ((Do S q i h).keep _ _ _ _ aX.o λb hb=>aD b (λe=>by rcases O.o b hb with h1|h1; have:=HY.o b h1; omega; omega));have ba:=Aa ((aV.o.setNew (b:=w.heap.size+1) (by omega) 0 (.string y.name)).setNew (b:=w.heap.size+1) (by omega) 1 (.slice a y.args.length c));have aE:=Aa (a8.o.kept λb hb=>aD b (by omega));have aF:Hid (Sl ((f.setCell (zD (w.heap.size+1) 0) (.string y.name)).setCell (zD (w.heap.size+1) 1) (.slice a y.args.length c)) (λb=>X b/\b<w.heap.size) a2 p.r.args):=az.o.exq ba.o (λb hb=>Z.o b hb.1);have bp:((f.setCell (zD (w.heap.size+1) 0) (.string y.name)).setCell (zD (w.heap.size+1) 1) (.slice a y.args.length c)).heap.size=f.heap.size:=(by simp[World.setCell]);go_wp2_with fail;clear x0 x1 y0 y1 q2 q3 aD xf;generalize ((f.setCell (zD (w.heap.size+1) 0) (.string y.name)).setCell (zD (w.heap.size+1) 1) (.slice a y.args.length c))=w5 at *;refine(Nn S q i h g hN p.r he.2 a2 c2 w5 _ Y' false (λb hb=>Z.o b hb.1) aF.o bk.o).mono ?_;rintro e R ⟨d,m,s,ok,u,Y2,rfl,bb,ab,a7,hx,x,z,A⟩;have bl:Hid (Am (Ci S q) w R):=ba.o.trans hx;have T:=Aa (A5.o.exq hx (λh=>by have:=aC.o _ h; omega));have U:=Aa (B5.o.exq hx (λh=>by have:=aC.o _ h; omega));have bq:Hid (f.heap.size<=R.heap.size):=Aa (by have:=hx.size;omega);have ag:Hid (∀b,Y2 b->Y b∨w.heap.size+3<=b):=λb hb=>by
    rcases ab b hb with h1|h1
    ·exact O.o b h1
    ·have:=aW.o; right; omega
   have bm:=Aa bb;have aG:Hid (Sl R (λb=>w.heap.size+3<=b) a y.args):=(aE.o.exq hx (λb hb h=>by have:=aC.o _ h; omega)).mono λb hb _=>hb.1;have aH:Hid (Sl R (λb=>w.heap.size+3<=b) m d.args):=x.mono λb hb h2=>by have:=aW.o; omega
   have aI:Hid (∀W:World,Sl W (λb=>w.heap.size+3<=b) a y.args->Sl W (λb=>w.heap.size+3<=b) m d.args->RG (Ag (Ak h) p.l) (Ag (Ak h) p.r) y.name a y.args.length d.name m d.args.length ok u (λb=>(X b/\b<w.heap.size)∨w.heap.size<=b) W):=λW g1 g2=>by
    cases ok with
    |true=>obtain⟨e1,V,e3⟩:=z rfl;exact Ad ⟨rfl,e1,by rw[P.o],by rw[P.o],by rw[V],by rw[V],by rw[<-P.o]; exact bj.o,by rw[<-V]; exact e3,by rw[<-P.o]; exact g1.mono λb hb _=>Ae (by omega),by rw[<-V]; exact g2.mono λb hb _=>Ae (by omega)⟩
    |false=>
     rcases A rfl with h1|h1
     ·exact Ae ⟨rfl,Ad h1⟩
     ·exact Ae ⟨rfl,Ae (Ae h1)⟩
   clear ab hx x z A bb a7;have x0:=T.o.c0;have x1:=T.o.c1;have xf:=T.o.frozen;have y0:=U.o.c0;have y1:=U.o.c1;have yf:=U.o.frozen;have bc:∀b,(Y2 b∨w.heap.size+3<=b)->b≠w.heap.size+1/\b≠w.heap.size+1+1:=λb hb=>by
    have h1:Y b∨w.heap.size+3<=b:=hb.elim (ag.o b) Ae;rcases h1 with h1|h1
    ·have:=HY.o b h1; omega
    ·omega
   have aa:=Aa bc;clear bc;have E:=Aa ((((((T.o.setOther (b':=w.heap.size+1+1) 0 (.string d.name) (by omega)).setOther (b':=w.heap.size+1+1) 1 (.slice m d.args.length s) (by omega)).set 0 (.string y.name)).set 1 (.slice a y.args.length c)).setOther (b':=w.heap.size+1+1) 0 (.string d.name) (by omega)).setOther (b':=w.heap.size+1+1) 1 (.slice m d.args.length s) (by omega));have F:=Aa ((((((U.o.set 0 (.string d.name)).set 1 (.slice m d.args.length s)).setOther (b':=w.heap.size+1) 0 (.string y.name) (by omega)).setOther (b':=w.heap.size+1) 1 (.slice a y.args.length c) (by omega)).set 0 (.string d.name)).set 1 (.slice m d.args.length s));have G:=E.o.cell 0;have H:=E.o.cell 1;have I:=F.o.cell 0;have J:=F.o.cell 1;simp only[List.setIfInBounds_toArray,List.set_cons_zero,List.set_cons_succ,IE,Kn,L4] at G H I J;go_wp2_with fail;go_region
   all_goals go_wp2_with fail
   all_goals
    refine An (v:=.tuple #[.agg (zF y a c),.agg (zF d m s),.bool ok]) (by simp[results,results127,go_sem,G,H,I,J]) rfl ?_;refine⟨y.name,a,y.args.length,c,d.name,m,d.args.length,s,ok,u,Y2,rfl,(Do S q i h).keep _ _ _ _ bm.o (λb hb=>Lv (aa.o b (Ad hb)).2 (aa.o b (Ad hb)).2 (aa.o b (Ad hb)).1 (aa.o b (Ad hb)).1 (aa.o b (Ad hb)).2 (aa.o b (Ad hb)).2),λb hb=>(ag.o b hb).imp id λh=>by omega,RI bl.o (by omega) (by omega) (by omega) (by omega) (by omega) (by omega),aI.o _ (aG.o.kept λb hb=>Lv (by omega) (by omega) (by omega) (by omega) (by omega) (by omega)) (aH.o.kept λb hb=>Lv (by omega) (by omega) (by omega) (by omega) (by omega) (by omega))⟩
  |false=>
   have yf:=D.o.frozen;have aa:Hid (∀b,Y' b->b≠w.heap.size+1/\b≠w.heap.size+1+1):=λb hb=>by
    rcases O.o b hb with h1|h1
    ·have:=HY.o b h1; omega
    ·omega
   have aI:Hid (u=true∨2000<Ab [Ag (Ak h) p.l]):=aB.o rfl;clear aA aB;have E:=Aa ((((((C.o.set 0 (.string y.name)).set 1 (.slice a y.args.length c)).set 0 (.string y.name)).set 1 (.slice a y.args.length c)).setOther (b':=w.heap.size+1+1) 0 (.string ⟨#[]⟩) (by omega)).setOther (b':=w.heap.size+1+1) 1 zB (by omega));have F:=Aa ((((((D.o.setOther (b':=w.heap.size+1) 0 (.string y.name) (by omega)).setOther (b':=w.heap.size+1) 1 (.slice a y.args.length c) (by omega)).setOther (b':=w.heap.size+1) 0 (.string y.name) (by omega)).setOther (b':=w.heap.size+1) 1 (.slice a y.args.length c) (by omega)).set 0 (.string ⟨#[]⟩)).set 1 zB);have G:=E.o.cell 0;have H:=E.o.cell 1;have I:=F.o.cell 0;have J:=F.o.cell 1;simp only[List.setIfInBounds_toArray,List.set_cons_zero,List.set_cons_succ,IE,Kn,L4] at G H I J;go_wp2_with fail;go_region
   all_goals go_wp2_with fail
   all_goals
    refine An (v:=.tuple #[.agg (zF y a c),.agg #[.string ⟨#[]⟩,zB],.bool false]) (by simp only[results,results127]; simp[go_sem,G,H,I,J]) rfl ?_;refine⟨y.name,a,y.args.length,c,⟨#[]⟩,none,0,0,false,u,Y',rfl,(Do S q i h).keep _ _ _ _ aX.o (λb hb=>Lv (aa.o b hb).1 (aa.o b hb).1 (aa.o b hb).1 (aa.o b hb).1 (aa.o b hb).2 (aa.o b hb).2),λb hb=>(O.o b hb).imp id λh=>by omega,RI aV.o (by omega) (by omega) (by omega) (by omega) (by omega) (by omega),Ae ⟨rfl,?_⟩⟩;rcases aI.o with h1|h1
    ·exact Ad h1
    ·exact Ae (Ad h1)
theorem RK {h:List (ByteArray×Tm)} {p:ByteArray×Tm} {i j:Nat} (hi:i<h.length) (aa:i<(h++[p]).length) (hj:j<=h.length):stood (h++[p]) i j aa=stood h i j hi:=by
 unfold stood;rw[G6 hj,Kq hi]
theorem Zy {h:List (ByteArray×Tm)} {x:ByteArray} {t:Tm} (g:Ca h) (m:FZ (Ak h) x t) (hi:h.length<(h++[(x,t)]).length):stood (h++[(x,t)]) h.length (h.length+1) hi=t:=by
 have g2:=g.snoc m;have h1:=Je g2 hi;have a:(h++[(x,t)])[h.length].1=x:=by simp
 rw[a]at h1;have h2:(h++[(x,t)]).length=h.length+1:=by simp
 unfold stood;rw[a,show(h++[(x,t)]).take (h.length+1)=h++[(x,t)] from AX (by omega),FE,Lr g.all.1 m.2.1 x];have h3:As (Ak h) x=none:=by
  cases b:As (Ak h) x with
  |none=>rfl
  |some u=>obtain⟨d,hd,e,_⟩:=FU b;exact absurd e (m.2.1 d hd)
 rw[FV (Ak h),h3];show Ag [⟨x,t⟩] ⟨x,[]⟩=t;exact IM (by simp[As])
theorem Eo.snoc {w:World} {Z:Nat->Prop} {h:List (ByteArray×Tm)} (g:Ca h) {L:List (ByteArray×Value)} (e:Eo w Z h L) {x:ByteArray} {t:Tm} (m:FZ (Ak h) x t) {a:Option Addr} {c:Nat} (hs:Sl w Z a t.args):Eo w Z (h++[(x,t)]) (L++[(x,.agg #[.string t.name,.slice a t.args.length c,zA (h.length:Int)])]):=by
 have k:=e.1;refine⟨by simp[k],λi hi af=>?_⟩;by_cases b:i<h.length
 ·have aa:i<L.length:=by omega
  rw[Kq b,Kq aa];obtain⟨d,j,a1,c1,f,n,o⟩:=e.2 i b aa;have ab:max j (i+1)<=h.length:=Nat.max_le.2 ⟨f,b⟩;refine⟨d,j,a1,c1,by simp; omega,?_,?_⟩
  ·rw[RK b hi ab]; exact n
  ·rw[RK b hi ab]; exact o
 ·have q:i=h.length:=by simp at hi; omega
  subst q;have d:(h++[(x,t)])[h.length]=(x,t):=by simp
  have f:(L++[(x,Value.agg #[.string t.name,.slice a t.args.length c,zA (h.length:Int)])])[h.length]=(x,.agg #[.string t.name,.slice a t.args.length c,zA (h.length:Int)]):=by simp[<-k]
  rw[d,f];have l:=Zy g m hi;refine⟨rfl,h.length,a,c,by simp,?_,?_⟩
  ·rw[Nat.max_eq_right (by omega),l]
  ·rw[Nat.max_eq_right (by omega),l]; exact hs
def Zz (S q:Nat) (td:Value) (h:List (ByteArray×Tm)) (nm:ByteArray) (t:Tm) (X Y:Nat->Prop) (w:World) (e:Ending) (w':World):Prop:=
 Am (Ci S q) w w'/\((t.name=nm/\e=.returned (zA 0)/\Cg S q td h false Y w')∨(t.name≠nm/\Bt nm [t]=true/\e=.returned (zA 6)/\Cg S q td h false Y w')∨
  (t.name≠nm/\Bt nm [t]=false/\e=.returned (zA 0)/\Cg S q td (h++[(nm,t)]) false (λb=>Y b∨(X b/\b<w.heap.size)) w'))
theorem RL (S q:Nat) (j:Value) (h:List (ByteArray×Tm)) (g:Ca h) (nm:ByteArray) (t:Tm) (A:t.name≠nm->Bt nm [t]=false->FZ (Ak h) nm t) (a:Option Addr) (c:Nat) (w:World) (X Y:Nat->Prop) (B:∀b,X b->¬Ci S q b) (hs:Sl w X a t.args) (C:Cg S q j h false Y w):
  Calls prog 128 #[zC S,.string nm,.agg (zF t a c)] w λe w'=>Zz S q j h nm t X Y w e w':=by
 have D:=Aa C;have E:=Aa hs;have F:=Aa B;have ah:=Aa A;obtain⟨⟨L,G,n,r⟩,a1,a6,H,hg⟩:=C;have a7:=G.lt;have a8:=n.lt;have I:=Aa H;have aA:Hid (L.length=h.length):=r.1;have J:=Aa r;have M:=Aa n;have N:=Aa G;clear hs B r hg H n A;by_cases hn:t.name=nm
 ·have aB:=Ia hn;have k:=Aa hn;clear hn;go_enter func128,ntmps128;go_wp2_with fail;go_ret;exact⟨(Am.refl _ _).alloc _,Ad ⟨k.o,rfl,(Do S q j h).below D.o ((Af _ _).alloc (Ai _) _)⟩⟩
 ·have aB:=JG hn;have k:=Aa hn;clear hn;have O:Below w.heap.size w (w.alloc (.cells (zF t a c) 33)):=(Af _ _).alloc (Ai _) _;have s:=Aa O;have T1:=Aa (Ac.new w (zF t a c) 33);have aI:(w.alloc (.cells (zF t a c) 33)).heap.size=w.heap.size+1:=by simp
  clear O;go_enter func128,ntmps128;go_wp2_with fail;generalize (w.alloc (.cells (zF t a c) 33))=w1 at *;refine(RE nm t _ w1 X ⟨a,c,rfl,E.o.later s.o⟩).mono ?_;rintro e w2 ⟨rfl,hb2⟩;have f:=Aa (s.o.trans (hb2.mono s.o.size));have R:=Aa (T1.o.below hb2 (by omega));have aC:Hid (w.heap.size+1<=w2.heap.size):=Aa (by have:=hb2.size;omega);clear hb2;cases ho:Bt nm [t] with
  |true=>go_wp2_with fail;go_ret;exact⟨Am.ofBelow f.o,Ae (Ad ⟨k.o,ho,rfl,(Do S q j h).below D.o f.o⟩)⟩
  |false=>
   have HO:=Aa ho;have aa:=ah.o k.o ho;have aD:=Aa aa;have T:=Aa (N.o.below f.o a7);have s1:w2.cell? (zD S 1)=some (.map (some q)):=T.o.cell 1;have t0:=R.o.c0;have t1:=R.o.c1;have u:Bm w2.drew q L:=M.o.below (f.o.drew) a8;have hlen:Sem.run prog (Builtin.len_ #[145] 3 #[.map (some q)]) w2.drew=.ok (zA (h.length:Int)) w2.drew:=(by rw[J5 underlying145 u,aA.o]);have ab:Be L nm=none:=J.o.none λi hi e=>by
    obtain⟨d,hd,e1⟩:=(g.bound h.length (Ai _) h[i].1).2 ⟨i,hi,hi,rfl⟩;rw[E5]at hd;exact aa.2.1 d hd (e1.trans e)
   obtain⟨v,aE,U,x,V,W,az,m⟩:=JN (P:=prog) underlying145 underlying9 u nm (.agg #[.string t.name,.slice a t.args.length c,zA (h.length:Int)]) ab;have aF:Hid (Am (Ci S q) w v):=by
    have h1:Am (Ci S q) w w2.drew:=Am.ofBelow f.o.drew;exact⟨V.trans h1.os,W.trans h1.tape,az.trans h1.output,by rw[x]; exact h1.size,λb hb hn=>(m b (λe=>hn (Ae e))).trans (h1.block b hb hn)⟩
   have aG:Hid (Cg S q j (h++[(nm,t)]) false (λb=>Y b∨(X b/\b<w.heap.size)) v):=by
    have aH:S≠q:=λe=>by
     obtain⟨es,aJ,h1,_⟩:=M.o;have h2:=N.o;subst e;unfold Ac at h2;rw[h1]at h2; cases h2
    have keep:∀(Z:Nat->Prop) a l,(∀b,Z b->((Y b∨(X b/\b<w.heap.size))/\b≠S/\b≠q)/\b<w.heap.size)->Sl w Z a l->Sl v (λb=>(Y b∨(X b/\b<w.heap.size))/\b≠S/\b≠q) a l:=λZ a l y z=>(z.kept λb hb=>(m b (y b hb).1.2.2).trans (f.o.drew.block b (y b hb).2)).mono λb hb _=>(y b hb).1;refine⟨⟨_,?_,U,?_⟩,Ad a1,Ad a6,λb hb=>?_,λhf=>by cases hf⟩
    ·have h1:=T.o;unfold Ac at *;rw[m S aH];exact h1
    ·exact Eo.snoc g (J.o.imp λa l z=>keep _ a l (λb hb=>⟨⟨Ad hb.1,hb.2⟩,I.o b hb.1⟩) z) aD.o (keep (λb=>X b/\b<w.heap.size) a t.args (λb hb=>⟨⟨Ae hb,λe=>F.o b hb.1 (Ad e),λe=>F.o b hb.1 (Ae e)⟩,hb.2⟩) (E.o.mono λb h1 h2=>⟨h1,h2⟩))
    ·rw[x];show b<w2.heap.size;have hb2:b<w.heap.size:=by
      rcases hb with hb|hb
      ·exact I.o b hb
      ·exact hb.2
     have:=aC.o;omega
   clear U x V W az m u ab aa ho;go_wp2_with fail;go_region
   all_goals go_wp2_with fail
   all_goals go_ret
   all_goals exact⟨aF.o,Ae (Ae ⟨k.o,HO.o,rfl,aG.o⟩)⟩
abbrev Pc:=Pr×(Option Addr×Nat)×(Option Addr×Nat)
instance:Inhabited Pc:=⟨(⟨⟨⟨#[]⟩,[]⟩,⟨⟨#[]⟩,[]⟩⟩,(none,0),(none,0))⟩
def DZ (x:Pc):List Value:=[.string x.1.l.name,.slice x.2.1.1 x.1.l.args.length x.2.1.2,.string x.1.r.name,.slice x.2.2.1 x.1.r.args.length x.2.2.2]
def CT:List Pc->List Value
 | []=>[]
 |x::r=>DZ x++CT r
theorem Lw (b:List Pc):∀a,CT (a++b)=CT a++CT b
 | []=>rfl
 |x::r=>by rw[Cj,CT,CT,Lw b r,Gz]
theorem Ns:∀a:List Pc,(CT a).length=a.length*4
 | []=>rfl
 |x::r=>by rw[CT,Dx,Ns r]; simp[DZ]; omega
theorem Jh:∀(a:List Pc) (i:Nat) (h:i<a.length) (j:Nat),j<4->(CT a)[i*4+j]? = (DZ a[i])[j]?
 | [],i,h,j,hj=>by simp at h
 |x::r,0,h,j,hj=>by
  rw[CT,List.getElem?_append_left (by simp[DZ]; omega)]; simp
 |x::r,i+1,h,j,hj=>by
  rw[CT,Of (by simp[DZ]; omega)];have e:(i+1)*4+j-(DZ x).length=i*4+j:=by simp[DZ]; omega
  rw[e,Jh r i (by simpa using h) j hj];simp
structure Cm (w:World) (N:Nat) (Y:Nat->Prop) (v:Value) (cs:List Pc):Prop where
 own:w.ownsRow N 38 4 v cs.length (CT cs)
 row:∀x∈cs,Sl w (λb=>Y b∨(N<=b/\some b≠v.ownBlock)) x.2.1.1 x.1.l.args/\Sl w (λb=>Y b∨(N<=b/\some b≠v.ownBlock)) x.2.2.1 x.1.r.args
theorem Cm.start (w:World) (N:Nat) (Y:Nat->Prop):Cm w N Y zB []:=⟨Gy w N _ 4,by simp⟩
theorem Cm.below {w w':World} {N:Nat} {Y:Nat->Prop} {v:Value} {cs:List Pc} (h:Cm w N Y v cs) (hb:Below w.heap.size w w'):Cm w' N Y v cs:=
 ⟨h.own.kept (w' := w') (row := none) ⟨hb.os, hb.tape, hb.output, hb.size, λj hj _ => hb.block j hj⟩ (by rcases Gx (Value.ownBlock v) with h | ⟨x, h⟩; exact Ad h; exact Ae (by rw [h]; simp)),
  λx hx=>⟨(h.row x hx).1.later hb,(h.row x hx).2.later hb⟩⟩
theorem Cm.ne {w:World} {N:Nat} {Y:Nat->Prop} {v:Value} {cs:List Pc} (h:Cm w N Y v cs) {b:Nat} (hb:b<N):some b≠v.ownBlock:=λe=>by
 have:=(h.own.lt b e.symm).1; omega
theorem Cm.push {w w1 w2 w3:World} {N:Nat} {Y:Nat->Prop} {v:Value} {cs:List Pc} (h:Cm w N Y v cs) (hN:N<=w.heap.size) (f:∀b,Y b->b<N) (hb:Below w.heap.size w w1) {x:Pc}
  (ht:Sl w1 (λb=>Y b∨w.heap.size<=b) x.2.1.1 x.1.l.args/\Sl w1 (λb=>Y b∨w.heap.size<=b) x.2.2.1 x.1.r.args) (o:Obj) (k:w2=w1.alloc o) {g cap:Nat}
  (aa:w3.ownsRow N 38 4 (.slice (some (zD g 0)) (cs.length+1) cap) (cs.length+1) (CT cs++DZ x)) (i:w2.grownBy w3 v.ownBlock) (ab:v.ownBlock=some g∨g=w2.heap.size):
  Cm w3 N Y (.slice (some (zD g 0)) (cs.length+1) cap) (cs++[x]):=by
 subst k;have c:=h.own.lt;have af:w1.heap.size<=(w1.alloc o).heap.size:=by simp
 have ag:=hb.size;have ah:N<=g:=by
  rcases ab with e|e
  ·exact(c g e).1
  ·simp at e; omega
 have j:∀(a:Option Addr) (l:List Tm),Sl w (λb=>Y b∨(N<=b/\some b≠v.ownBlock)) a l->Sl w3 (λb=>Y b∨(N<=b/\some b≠(Value.slice (some (zD g 0)) (cs.length+1) cap).ownBlock)) a l:=λa l h0=>by
  have h1:Sl w (λb=>(Y b∨(N<=b/\some b≠v.ownBlock))/\b<w.heap.size) a l:=h0.mono λb h1 h2=>⟨h1,h2⟩;have h2:Sl w3 (λb=>(Y b∨(N<=b/\some b≠v.ownBlock))/\b<w.heap.size) a l:=h1.kept λb hx=>by
   have d:some b≠v.ownBlock:=by
    rcases hx.1 with hy|hy
    ·exact h.ne (f b hy)
    ·exact hy.2
   rw[i.block b (by simp; omega) d,AL _ _ _ (by omega),hb.block b hx.2]
  refine h2.mono λb hx _=>?_;rcases hx.1 with hy|hy
  ·exact Ad hy
  ·refine Ae ⟨hy.1,λe=>?_⟩;simp[Value.ownBlock]at e;rcases ab with e'|e'
   ·exact hy.2 (by rw[e',e])
   ·simp at e'; omega
 have new:∀(a:Option Addr) (l:List Tm),Sl w1 (λb=>Y b∨w.heap.size<=b) a l->Sl w3 (λb=>Y b∨(N<=b/\some b≠(Value.slice (some (zD g 0)) (cs.length+1) cap).ownBlock)) a l:=λa l h0=>by
  have h1:Sl w1 (λb=>(Y b∨w.heap.size<=b)/\b<w1.heap.size) a l:=h0.mono λb h1 h2=>⟨h1,h2⟩;have h2:Sl w3 (λb=>(Y b∨w.heap.size<=b)/\b<w1.heap.size) a l:=h1.kept λb hx=>by
   have d:some b≠v.ownBlock:=by
    rcases hx.1 with hy|hy
    ·exact h.ne (f b hy)
    ·intro e; have:=(c b e.symm).2; omega
   rw[i.block b (by simp; omega) d,AL _ _ _ hx.2]
  refine h2.mono λb hx _=>?_;rcases hx.1 with hy|hy
  ·exact Ad hy
  ·refine Ae ⟨by omega,λe=>?_⟩;simp[Value.ownBlock]at e;rcases ab with e'|e'
   ·have:=(c g e').2; omega
   ·simp at e'; omega
 refine⟨by rw[Lw]; simpa [CT] using aa,λy hy=>?_⟩;rcases Bg.1 hy with hy|hy
 ·exact⟨j _ _ (h.row y hy).1,j _ _ (h.row y hy).2⟩
 ·have e:y=x:=by simpa using hy
  subst e;exact⟨new _ _ ht.1,new _ _ ht.2⟩
theorem Cm.qv {w:World} {N:Nat} {Y:Nat->Prop} {v:Value} {cs:List Pc} (h:Cm w N Y v cs):QV w (λb=>Y b∨N<=b) v (cs.map (·.1)):=by
 have a:cs.length<=9223372036854775807:=by
  rcases h.own.2 with ⟨_,h0⟩|⟨g,cap,cur,_,_,_,h1,h2,_⟩
  ·omega
  ·unfold maxLen at h2; omega
 by_cases h0:0<cs.length
 ·obtain⟨g,cap,rfl,c,hlt,hc⟩:=EN h.own h0;have ab:cs.length<=cap:=by
   rcases h.own.2 with ⟨e,_⟩|⟨g',ae,cur,e,_,_,h1,_⟩
   ·cases e
   ·simp at e; omega
  refine⟨_,cap,by simp,⟨by simpa using a,by simpa using ab⟩,Ae ⟨g,0,rfl,Ae c,λi hi=>?_⟩⟩;have aa:i<cs.length:=by simpa using hi
  have g0:=hc (i*4+0) (.string cs[i].1.l.name) (by rw[Jh cs i aa 0 (by decide)]; rfl);have g1:=hc (i*4+1) (.slice cs[i].2.1.1 cs[i].1.l.args.length cs[i].2.1.2) (by rw[Jh cs i aa 1 (by decide)]; rfl);have g2:=hc (i*4+2) (.string cs[i].1.r.name) (by rw[Jh cs i aa 2 (by decide)]; rfl);have g3:=hc (i*4+3) (.slice cs[i].2.2.1 cs[i].1.r.args.length cs[i].2.2.2) (by rw[Jh cs i aa 3 (by decide)]; rfl);simp only[Jz,EL];obtain⟨d,f⟩:=h.row cs[i] (AN aa);exact⟨_,_,_,_,g0,g1,g2,g3,d.mono λb hb _=>hb.imp id (λh=>h.1),f.mono λb hb _=>hb.imp id (λh=>h.1)⟩
 ·have e:cs=[]:=EK.1 (by omega);subst e;rcases h.own.2 with ⟨hv,_⟩|⟨g,cap,cur,hv,_⟩
  ·exact⟨none,0,hv,by simp,Ad rfl⟩
  ·exact⟨_,_,hv,by simp,Ad rfl⟩
theorem Tryz.infoPair:(prog.info? 38).map (λi=>(i.zero,i.size,i.bytes))=some (some (.agg #[.string ByteArray.empty,zB,.string ByteArray.empty,zB]),4,80):=by kernel_rfl
theorem RM (w:World) (c0 c1 c2 c3:Value) (T:Nat):∀j u,[c0,c1,c2,c3][j]? = some u->(w.alloc (.cells #[c0,c1,c2,c3] T)).cell? (((zD w.heap.size 0):Addr).add j)=some u:=
 World.news_of_block (cs:=#[c0,c1,c2,c3]) (Et w _)
theorem J7 {w w1:World} {N:Nat} {Y:Nat->Prop} {v:Value} {cs:List Pc} (h:Cm w N Y v cs) (c:N<=w.heap.size) (d:∀b,Y b->b<N) (hb:Below w.heap.size w w1) (x:Pc) (ht:Sl w1 (λb=>Y b∨w.heap.size<=b) x.2.1.1 x.1.l.args/\Sl w1 (λb=>Y b∨w.heap.size<=b) x.2.2.1 x.1.r.args) (hn:cs.length<=1000000) (A:Nat) (f:w1.heap.size=A):
  ∃v2 w3,(Builtin.append_ #[23,23] 23 #[v,.slice (some (zD A 0)) 1 1]).run prog (w1.alloc (.cells #[.string x.1.l.name,.slice x.2.1.1 x.1.l.args.length x.2.1.2,.string x.1.r.name,.slice x.2.2.1 x.1.r.args.length x.2.2.2] 38))=.ok v2 w3/\Cm w3 N Y v2 (cs++[x])/\
   (w1.alloc (.cells #[.string x.1.l.name,.slice x.2.1.1 x.1.l.args.length x.2.1.2,.string x.1.r.name,.slice x.2.2.1 x.1.r.args.length x.2.2.2] 38)).grownBy w3 v.ownBlock/\∀k,v2.ownBlock=some k->v.ownBlock=some k∨w1.heap.size<=k:=by
 subst f;obtain⟨i0,hi,ab,i,j⟩:=CE Tryz.infoPair;have af:=hb.size;obtain⟨g,cap,w3,m,ho,a,aa,hlt⟩:=run_append_lies (P:=prog) (w:=w1.alloc (.cells #[.string x.1.l.name,.slice x.2.1.1 x.1.l.args.length x.2.1.2,.string x.1.r.name,.slice x.2.2.1 x.1.r.args.length x.2.2.2] 38)) 23 23 N 38 i0 _ 4 80 underlying23 hi ab i j rfl (by decide) v cs.length (CT cs) ((h.below hb).own.alloc _)
  (zD w1.heap.size 0) 1 1 (DZ x) rfl (RM _ _ _ _ _ _) (λy hy=>by simp[DZ] at hy; rcases hy with rfl|rfl|rfl|rfl<;>rfl) (by decide) (by unfold maxLen; omega) (by omega) (by simp; omega) _ rfl
 refine⟨_,w3,m,h.push c d hb ht _ rfl ho a aa,a,λk hk=>?_⟩;have e:g=k:=by simpa [Value.ownBlock] using hk
 rcases aa with h1|h1
 ·exact Ad (by rw[h1,e])
 ·right; simp at h1; omega
abbrev Ec:=Pc×Nat
def EU (x:Ec):List Value:=[.string x.1.1.l.name,.slice x.1.2.1.1 x.1.1.l.args.length x.1.2.1.2,.string x.1.1.r.name,.slice x.1.2.2.1 x.1.1.r.args.length x.1.2.2.2,zA (x.2:Int)]
def CZ:List Ec->List Value
 | []=>[]
 |x::r=>EU x++CZ r
theorem J8 (b:List Ec):∀a,CZ (a++b)=CZ a++CZ b
 | []=>rfl
 |x::r=>by rw[Cj,CZ,CZ,J8 b r,Gz]
theorem Lx:∀a:List Ec,(CZ a).length=a.length*5
 | []=>rfl
 |x::r=>by rw[CZ,Dx,Lx r]; simp[EU]; omega
theorem RN:∀(a:List Ec) (i:Nat) (h:i<a.length) (j:Nat),j<5->(CZ a)[i*5+j]? = (EU a[i])[j]?
 | [],i,h,j,hj=>by simp at h
 |x::r,0,h,j,hj=>by
  rw[CZ,List.getElem?_append_left (by simp[EU]; omega)]; simp
 |x::r,i+1,h,j,hj=>by
  rw[CZ,Of (by simp[EU]; omega)];have e:(i+1)*5+j-(EU x).length=i*5+j:=by simp[EU]; omega
  rw[e,RN r i (by simpa using h) j hj];simp
structure C5 (w:World) (N:Nat) (Y:Nat->Prop) (v:Value) (cs:List Ec):Prop where
 own:w.ownsRow N 153 5 v cs.length (CZ cs)
 row:∀x∈cs,Sl w (λb=>Y b∨(N<=b/\some b≠v.ownBlock)) x.1.2.1.1 x.1.1.l.args/\Sl w (λb=>Y b∨(N<=b/\some b≠v.ownBlock)) x.1.2.2.1 x.1.1.r.args
theorem C5.start (w:World) (N:Nat) (Y:Nat->Prop):C5 w N Y zB []:=⟨Gy w N _ 5,by simp⟩
theorem C5.below {w w':World} {N:Nat} {Y:Nat->Prop} {v:Value} {cs:List Ec} (h:C5 w N Y v cs) (hb:Below w.heap.size w w'):C5 w' N Y v cs:=
 ⟨h.own.kept (w' := w') (row := none) ⟨hb.os, hb.tape, hb.output, hb.size, λj hj _ => hb.block j hj⟩ (by rcases Gx (Value.ownBlock v) with h | ⟨x, h⟩; exact Ad h; exact Ae (by rw [h]; simp)),
  λx hx=>⟨(h.row x hx).1.later hb,(h.row x hx).2.later hb⟩⟩
theorem C5.ne {w:World} {N:Nat} {Y:Nat->Prop} {v:Value} {cs:List Ec} (h:C5 w N Y v cs) {b:Nat} (hb:b<N):some b≠v.ownBlock:=λe=>by
 have:=(h.own.lt b e.symm).1; omega
theorem C5.push {w w1 w2 w3:World} {N:Nat} {Y:Nat->Prop} {v:Value} {cs:List Ec} (h:C5 w N Y v cs) (hN:N<=w.heap.size) (f:∀b,Y b->b<N) (hb:Below w.heap.size w w1) {x:Ec}
  (ht:Sl w1 (λb=>Y b∨w.heap.size<=b) x.1.2.1.1 x.1.1.l.args/\Sl w1 (λb=>Y b∨w.heap.size<=b) x.1.2.2.1 x.1.1.r.args) (o:Obj) (k:w2=w1.alloc o) {g cap:Nat}
  (aa:w3.ownsRow N 153 5 (.slice (some (zD g 0)) (cs.length+1) cap) (cs.length+1) (CZ cs++EU x)) (i:w2.grownBy w3 v.ownBlock) (ab:v.ownBlock=some g∨g=w2.heap.size):
  C5 w3 N Y (.slice (some (zD g 0)) (cs.length+1) cap) (cs++[x]):=by
 subst k;have c:=h.own.lt;have af:w1.heap.size<=(w1.alloc o).heap.size:=by simp
 have ag:=hb.size;have ah:N<=g:=by
  rcases ab with e|e
  ·exact(c g e).1
  ·simp at e; omega
 have j:∀(a:Option Addr) (l:List Tm),Sl w (λb=>Y b∨(N<=b/\some b≠v.ownBlock)) a l->Sl w3 (λb=>Y b∨(N<=b/\some b≠(Value.slice (some (zD g 0)) (cs.length+1) cap).ownBlock)) a l:=λa l h0=>by
  have h1:Sl w (λb=>(Y b∨(N<=b/\some b≠v.ownBlock))/\b<w.heap.size) a l:=h0.mono λb h1 h2=>⟨h1,h2⟩;have h2:Sl w3 (λb=>(Y b∨(N<=b/\some b≠v.ownBlock))/\b<w.heap.size) a l:=h1.kept λb hx=>by
   have d:some b≠v.ownBlock:=by
    rcases hx.1 with hy|hy
    ·exact h.ne (f b hy)
    ·exact hy.2
   rw[i.block b (by simp; omega) d,AL _ _ _ (by omega),hb.block b hx.2]
  refine h2.mono λb hx _=>?_;rcases hx.1 with hy|hy
  ·exact Ad hy
  ·refine Ae ⟨hy.1,λe=>?_⟩;simp[Value.ownBlock]at e;rcases ab with e'|e'
   ·exact hy.2 (by rw[e',e])
   ·simp at e'; omega
 have new:∀(a:Option Addr) (l:List Tm),Sl w1 (λb=>Y b∨w.heap.size<=b) a l->Sl w3 (λb=>Y b∨(N<=b/\some b≠(Value.slice (some (zD g 0)) (cs.length+1) cap).ownBlock)) a l:=λa l h0=>by
  have h1:Sl w1 (λb=>(Y b∨w.heap.size<=b)/\b<w1.heap.size) a l:=h0.mono λb h1 h2=>⟨h1,h2⟩;have h2:Sl w3 (λb=>(Y b∨w.heap.size<=b)/\b<w1.heap.size) a l:=h1.kept λb hx=>by
   have d:some b≠v.ownBlock:=by
    rcases hx.1 with hy|hy
    ·exact h.ne (f b hy)
    ·intro e; have:=(c b e.symm).2; omega
   rw[i.block b (by simp; omega) d,AL _ _ _ hx.2]
  refine h2.mono λb hx _=>?_;rcases hx.1 with hy|hy
  ·exact Ad hy
  ·refine Ae ⟨by omega,λe=>?_⟩;simp[Value.ownBlock]at e;rcases ab with e'|e'
   ·have:=(c g e').2; omega
   ·simp at e'; omega
 refine⟨by rw[J8]; simpa [CZ] using aa,λy hy=>?_⟩;rcases Bg.1 hy with hy|hy
 ·exact⟨j _ _ (h.row y hy).1,j _ _ (h.row y hy).2⟩
 ·have e:y=x:=by simpa using hy
  subst e;exact⟨new _ _ ht.1,new _ _ ht.2⟩
theorem Tryz.infoEq:(prog.info? 153).map (λi=>(i.zero,i.size,i.bytes))=some (some (.agg #[.string ByteArray.empty,zB,.string ByteArray.empty,zB,zA 0]),5,88):=by kernel_rfl
theorem Nt (w:World) (c0 c1 c2 c3 c4:Value) (T:Nat):∀j u,[c0,c1,c2,c3,c4][j]? = some u->(w.alloc (.cells #[c0,c1,c2,c3,c4] T)).cell? (((zD w.heap.size 0):Addr).add j)=some u:=
 World.news_of_block (cs:=#[c0,c1,c2,c3,c4]) (Et w _)
theorem C5.exq {w w':World} {Q:Nat->Prop} {N:Nat} {Y:Nat->Prop} {v:Value} {cs:List Ec} (h:C5 w N Y v cs) (he:Am Q w w') (a:∀b,Q b->b<N) (c:∀b,Q b->¬Y b):C5 w' N Y v cs:=
 ⟨DP h.own λg d => he.block g (h.own.lt g d).2 (λhq => by have := a g hq; have := (h.own.lt g d).1; omega),
  λx hx=>⟨(h.row x hx).1.exq he λb hb hq=>by
   rcases hb with h1|h1
   ·exact c b hq h1
   ·have:=a b hq; omega,
   (h.row x hx).2.exq he λb hb hq=>by
   rcases hb with h1|h1
   ·exact c b hq h1
   ·have:=a b hq; omega⟩⟩
theorem Ji {w1 w3:World} {N n cap:Nat} {Y:Nat->Prop} {v:Value} {o:Obj} {g:Nat} (hv:∀b,Y b->some b≠v.ownBlock) (c:(w1.alloc o).grownBy w3 v.ownBlock) (aa:v.ownBlock=some g∨g=(w1.alloc o).heap.size) {a:Option Addr} {l:List Tm} (h0:Sl w1 (λb=>Y b∨(N<=b/\some b≠v.ownBlock)) a l):
  Sl w3 (λb=>Y b∨(N<=b/\some b≠(Value.slice (some (zD g 0)) n cap).ownBlock)) a l:=by
 have h1:Sl w1 (λb=>(Y b∨(N<=b/\some b≠v.ownBlock))/\b<w1.heap.size) a l:=h0.mono λb h1 h2=>⟨h1,h2⟩;refine(h1.kept λb hx=>?_).mono λb hx _=>?_
 ·have d:some b≠v.ownBlock:=by
   rcases hx.1 with hy|hy
   ·exact hv b hy
   ·exact hy.2
  rw[c.block b (by simp; omega) d,AL _ _ _ hx.2]
 ·rcases hx.1 with hy|hy
  ·exact Ad hy
  ·refine Ae ⟨hy.1,λe=>?_⟩;simp[Value.ownBlock]at e;rcases aa with e'|e'
   ·exact hy.2 (by rw[e',e])
   ·simp at e'; omega
theorem C5.push2 {w w1 w3:World} {N:Nat} {Y:Nat->Prop} {v:Value} {cs:List Ec} (h:C5 w N Y v cs) (c:∀b,Y b->b<N) (hb:Below w.heap.size w w1) {x:Ec}
  (ht:Sl w1 (λb=>Y b∨(N<=b/\some b≠v.ownBlock)) x.1.2.1.1 x.1.1.l.args/\Sl w1 (λb=>Y b∨(N<=b/\some b≠v.ownBlock)) x.1.2.2.1 x.1.1.r.args) (o:Obj) {g cap:Nat}
  (ab:w3.ownsRow N 153 5 (.slice (some (zD g 0)) (cs.length+1) cap) (cs.length+1) (CZ cs++EU x)) (a:(w1.alloc o).grownBy w3 v.ownBlock) (aa:v.ownBlock=some g∨g=(w1.alloc o).heap.size):
  C5 w3 N Y (.slice (some (zD g 0)) (cs.length+1) cap) (cs++[x]):=by
 have hv:∀b,Y b->some b≠v.ownBlock:=λb hb=>h.ne (c b hb);refine⟨by rw[J8]; simpa [CZ] using ab,λy hy=>?_⟩;rcases Bg.1 hy with hy|hy
 ·exact⟨Ji hv a aa ((h.row y hy).1.later hb),Ji hv a aa ((h.row y hy).2.later hb)⟩
 ·have e:y=x:=by simpa using hy
  subst e;exact⟨Ji hv a aa ht.1,Ji hv a aa ht.2⟩
theorem C5.setCell {w:World} {N:Nat} {Y:Nat->Prop} {v:Value} {cs:List Ec} (h:C5 w N Y v cs) {b i:Nat} (hb:b<N) (a:¬Y b) (u:Value):C5 (w.setCell (zD b i) u) N Y v cs:=
 h.exq (Q:=λc=>c=b) ((Am.refl (λc=>c=b) w).set (B:=b) rfl i u) (λc hc=>by omega) (λc hc=>by rw[hc]; exact a)
theorem RO {S q:Nat} {d aa:Value} {h:List (ByteArray×Tm)} {Y:Nat->Prop} {w w3:World} (he:Cg S q d h false Y w) (hk:∀b,Y b->w3.heap[b]? = w.heap[b]?):Cg S q aa h false Y (w3.setCell (zD S 0) aa):=by
 have g:=(Do S q d h).keep _ _ _ _ he hk;obtain⟨⟨L,c,f,i⟩,j,k,m,n⟩:=g;have o:S≠q:=λe=>by
  obtain⟨es,ag,h1,_⟩:=f;subst e;unfold Ac at c;rw[h1]at c; cases c
 have ab:∀b,b≠S->(w3.setCell (zD S 0) aa).heap[b]? = w3.heap[b]? := λb hb=>Aq _ _ _ _ (by simpa using hb);refine⟨⟨L,?_,f.kept (ab q (Eh o)),i.imp λa l r=>(r.kept λb hb=>ab b hb.2.1)⟩,j,k,λb hb=>by simpa [World.setCell] using m b hb,n⟩;have:=c.set 0 aa;simpa using this
def Dk (x:Ec):Pr×Nat:=(x.1.1,x.2)
theorem Sl.blk {w:World} {X:Nat->Prop} {b o:Nat} {l:List Tm} (h:Sl w X (some (zD b o)) l) (a:0<l.length):X b:=by
 rcases h.2 with h1|⟨b',o',e,h1⟩
 ·subst h1; simp at a
 ·simp at e;obtain⟨rfl,rfl⟩:=e;exact(Ge _ _ _ h1 0 a).1
theorem Ly:∀ {a b:List Tm},a.length=b.length->(Az a b).length=a.length
 | [],[],_=>rfl
 | [],_::_,h=>by simp at h
 |_::_,[],h=>by simp at h
 |t::a,u::b,h=>by rw[Az,Bu,Ly (by simpa using h),Bu]
theorem RQ:∀ {a b:List Tm} (k:Nat) (h1:k<a.length) (h2:k<b.length) (h3:k<(Az a b).length),(Az a b)[k]=⟨a[k],b[k]⟩
 | [],_,k,h1,_,_=>by simp at h1
 |_::_,[],k,_,h2,_=>by simp at h2
 |t::a,u::b,0,_,_,_=>rfl
 |t::a,u::b,k+1,h1,h2,h3=>by
  simp only[Az,Gw];exact RQ k (by simpa using h1) (by simpa using h2) _
def J9 (S q N:Nat) (h:List (ByteArray×Tm)) (cs:List Ec) (w:World):Prop:=
 ∃(td:Value) (Y:Nat->Prop),Cg S q td h false Y w/\C5 w N (λb=>b<N/\b≠S/\b≠q) td cs/\(∀b,Y b->some b≠td.ownBlock)/\S<N/\q<N/\N<=w.heap.size
def Nu (S q N:Nat) (h:List (ByteArray×Tm)) (cs:List Ec) (Y:Nat->Prop) (td0:Value) (w:World) (lA lB:List Tm) (a1 a2:Option Addr) (i:Value) (wr:World):Prop:=
 ∃(k:Nat) (td:Value) (cs':List Ec),k<=lA.length/\i=zA ((k:Int)-1)/\Cg S q td h false Y wr/\C5 wr N (λb=>b<N/\b≠S/\b≠q) td cs'/\(∀b,Y b->some b≠td.ownBlock)/\cs'.map Dk=cs.map Dk++((Az lA lB).drop k).reverse.map (λp=>(p,h.length))/\
  Sl wr (λb=>(b<N/\b≠S/\b≠q)∨(N<=b/\some b≠td.ownBlock)) a1 lA/\Sl wr (λb=>(b<N/\b≠S/\b≠q)∨(N<=b/\some b≠td.ownBlock)) a2 lB/\Am (λb=>b=S∨some b=td0.ownBlock) w wr/\N<=wr.heap.size/\∀k,td.ownBlock=some k->td0.ownBlock=some k∨w.heap.size<=k
theorem ZA {S q N:Nat} {h:List (ByteArray×Tm)} {cs aa:List Ec} {Y:Nat->Prop} {w wr w3:World} {c d:List Tm} {a1 a2:Option Addr} {k:Nat} {a m:Value} (z:S<N) (av:q<N) (A:c.length=d.length) (hk:k<c.length) (r:Cg S q a h false Y wr) (s:C5 wr N (λb=>b<N/\b≠S/\b≠q) a aa) (t:∀b,Y b->some b≠a.ownBlock) (B:aa.map Dk=cs.map Dk++((Az c d).drop (k+1)).reverse.map (λp=>(p,h.length)))
  (C:Sl wr (λb=>(b<N/\b≠S/\b≠q)∨(N<=b/\some b≠a.ownBlock)) a1 c) (D:Sl wr (λb=>(b<N/\b≠S/\b≠q)∨(N<=b/\some b≠a.ownBlock)) a2 d) (hx:Am (λb=>b=S∨some b=m.ownBlock) w wr) (hN:N<=wr.heap.size) (aw:N<=w.heap.size) (u:∀k,a.ownBlock=some k->m.ownBlock=some k∨w.heap.size<=k)
  {j l:Option Addr} {d1 d2:Nat} (E:Sl wr (λb=>(b<N/\b≠S/\b≠q)∨(N<=b/\some b≠a.ownBlock)) j (c[k]'hk).args) (F:Sl wr (λb=>(b<N/\b≠S/\b≠q)∨(N<=b/\some b≠a.ownBlock)) l (d[k]'(by omega)).args) {o:Obj} {g cap:Nat}
  (G:w3.ownsRow N 153 5 (.slice (some (zD g 0)) (aa.length+1) cap) (aa.length+1) (CZ aa++EU ((⟨c[k]'hk,d[k]'(by omega)⟩,(j,d1),(l,d2)),h.length))) (f:(wr.drew.alloc o).grownBy w3 a.ownBlock) (ab:a.ownBlock=some g∨g=(wr.drew.alloc o).heap.size):
  Nu S q N h cs Y m w c d a1 a2 (zA ((k:Int)-1)) (w3.setCell (zD S 0) (.slice (some (zD g 0)) (aa.length+1) cap)):=by
 have i:Below wr.heap.size wr wr.drew:=(Af _ _).drew;have v:∀b,(b<N/\b≠S/\b≠q)->some b≠a.ownBlock:=λb hb=>s.ne hb.1;have n:=r.2.2.2.1;have H:=f.size;simp at H;refine⟨k,.slice (some (zD g 0)) (aa.length+1) cap,aa++[((⟨c[k]'hk,d[k]'(by omega)⟩,(j,d1),(l,d2)),h.length)],by omega,rfl,RO r (λb hb=>?_),?_,λb hb e=>?_,?_,?_,?_,?_,by simp[World.setCell]; omega,λI J=>?_⟩
 ·rw[f.block b (by have:=n b hb; simp; omega) (t b hb),AL _ _ _ (by have:=n b hb; simpa using this)];rfl
 ·exact(s.push2 (λb hb=>hb.1) i (x:=((⟨c[k]'hk,d[k]'(by omega)⟩,(j,d1),(l,d2)),h.length)) ⟨E.later i,F.later i⟩ o G f ab).setCell z (λhb=>hb.2.1 rfl) _
 ·have L:b=g:=by simpa [Value.ownBlock] using e
  subst L;rcases ab with h1|h1
  ·exact t b hb h1.symm
  ·have:=n b hb; simp at h1; omega
 ·have y:k<(Az c d).length:=by rw[Ly A]; exact hk
  rw[Cr,B,Ks y,List.reverse_cons,Cr,RQ k hk (by omega) y];simp[Dk]
 ·exact(Ji v f ab (C.later i)).kept λb hb=>Aq _ _ _ _ (by
   simp;rcases hb with hb|hb
   ·exact hb.2.1
   ·omega)
 ·exact(Ji v f ab (D.later i)).kept λb hb=>Aq _ _ _ _ (by
   simp;rcases hb with hb|hb
   ·exact hb.2.1
   ·omega)
 ·refine((((hx.drew).alloc o).grown f (λb hb=>?_)).set (Ad rfl) _ _);rcases u b hb with h1|h1
  ·exact Ae (Ae h1.symm)
  ·exact Ad h1
 ·have e:g=I:=by simpa [Value.ownBlock] using J
  subst e;rcases ab with h1|h1
  ·exact u g h1
  ·right;have:=hx.size;simp at h1;omega
def Ka (S q b1 b2 o1 o2:Nat) (tA tB:Tm) (x1 x2:Option Addr) (d1 d2 n:Nat) (w':World):Prop:=
 w'.cell? (zD S 1)=some (.map (some q))/\w'.cell? (zD b1 o1)=some (.string tA.name)/\w'.cell? ⟨b1,o1+1,none⟩=some (.slice x1 tA.args.length d1)/\w'.cell? (zD b2 o2)=some (.string tB.name)/\w'.cell? ⟨b2,o2+1,none⟩=some (.slice x2 tB.args.length d2)/\Sem.run prog (Builtin.len_ #[145] 3 #[.map (some q)]) w'=.ok (zA n) w'
def ZB (S q N:Nat) (h:List (ByteArray×Tm)) (cs:List Ec) (lA lB:List Tm) (td0:Value) (w:World) (e:Ending) (w':World):Prop:=
 e=.returned (.tuple #[])/\∃cs',J9 S q N h cs' w'/\cs'.map Dk=cs.map Dk++(Az lA lB).reverse.map (λp=>(p,h.length))/\Am (λb=>b=S∨some b=td0.ownBlock) w w'
theorem ZC (S q N:Nat) (h:List (ByteArray×Tm)) (cs:List Ec) (r t:List Tm) (hl:r.length=t.length) (bx:cs.length+r.length<=1000000000) (H:h.length<=1000000000) (a1 a2:Option Addr) (c1 c2:Nat) (w:World) (A:Value) (Y:Nat->Prop) (hE:Cg S q A h false Y w) (hR:C5 w N (λb=>b<N/\b≠S/\b≠q) A cs) (hY:∀b,Y b->some b≠A.ownBlock) (aE:S<N) (aF:q<N) (bb:N<=w.heap.size)
  (aG:Sl w (λb=>(b<N/\b≠S/\b≠q)∨(N<=b/\some b≠A.ownBlock)) a1 r) (aH:Sl w (λb=>(b<N/\b≠S/\b≠q)∨(N<=b/\some b≠A.ownBlock)) a2 t):
  Calls prog 129 #[zC S,.slice a1 r.length c1,.slice a2 t.length c2] w λe w'=>ZB S q N h cs r t A w e w':=by
 obtain⟨i0,bc,bd,bf,bg⟩:=CE Tryz.infoEq;have HE:=Aa hE;have HR:=Aa hR;have HY:=Aa hY;have bh:=Aa aG;have bj:=Aa aH;have bz:=aG.1;have b0:=aH.1;have O:=Aa hl;have hle:Hid (r.length<=1000000000):=Aa (by omega);clear hE hR hY aG aH;rw[<-hl];clear hl;go_enter func129,ntmps129;go_wp2_with fail;go_loopw [6] (λi wr=>Nu S q N h cs Y A w r t a1 a2 i wr) (λi wr=>((intOf i)+1).toNat);case atStart=>
  refine⟨r.length,A,cs,Ai _,?_,HE.o,HR.o,HY.o,?_,bh.o,bj.o,Am.refl _ _,bb,λk hk=>Ad hk⟩
  ·have:=hle.o;go_num
  ·rw[Kt (by rw[Ly O.o]; exact Ai _)];simp
 case round=>
  obtain⟨k,s,B,hk,rfl,aI,aJ,aK,V,Z,aj,aL,bk,au⟩:=hrel;have aM:=Aa aI;have E:=Aa aJ;have aN:=Aa aK;have aO:=Aa V;have aP:=Aa aL;have bp:=Aa au;clear au;have ak:=Aa Z;have al:=Aa aj;have aC:Hid (B.length<=1000000000):=by
   have h1:=Bx List.length V;simp[Ly O.o]at h1;unfold Hid;omega
  cases k with
  |zero=>
   clear aI aJ aK V aL Z aj;go_wp2_with fail;go_end0
   refine⟨rfl,B,⟨s,Y,aM.o,E.o,aN.o,aE,aF,bk⟩,?_,aP.o⟩;have:=aO.o;simpa using this
  |succ k=>
   have bq:((k+1:Nat):Int)-1=k:=(by omega);rw[bq];obtain⟨m,I,y,d1,rfl,p0,p1,br⟩:=Z.get (Af _ _) (λ_ _ h=>h) k hk;obtain⟨n,J,z,d2,rfl,r0,r1,bs⟩:=aj.get (Af _ _) (λ_ _ h=>h) k (by have:=O.o; omega);obtain⟨av,cv,P,aw⟩:=br;simp at P;obtain⟨rfl,rfl⟩:=P;obtain⟨av,cv,P,ax⟩:=bs;simp at P;obtain⟨rfl,rfl⟩:=P;obtain⟨⟨L,F,R,aQ⟩,b3,b4,bt,M⟩:=aI;have bl:=Aa aw;have bm:=Aa ax;have HB:=Aa F;have s0:wr.cell? (zD S 0)=some s:=F.cell 0;have b5:∀o,(wr.alloc o).cell? (zD S 0)=some s:=λo=>(F.alloc o).cell 0;have s1:wr.cell? (zD S 1)=some (.map (some q)):=F.cell 1;have hlen:Sem.run prog (Builtin.len_ #[145] 3 #[.map (some q)]) wr.drew=.ok (zA (h.length:Int)) wr.drew:=(by have h1:Bm wr.drew q L:=R.below ((Af wr.heap.size wr).drew) R.lt;rw[J5 underlying145 h1,aQ.1]);have b6:(k:Int)<(r.length:Int):=(by omega);have b7:k<t.length:=by have:=O.o; omega
   have ay:=Aa (E.o.below ((Af wr.heap.size wr).drew)).own;have ao:Hid (some S≠s.ownBlock):=E.o.ne aE;have aR:Hid (Bm wr q L/\L.length=h.length):=⟨R,aQ.1⟩;have bu:Hid (q≠S):=λe=>by
    obtain⟨es,b8,h1,_⟩:=R;subst e;unfold Ac at F;rw[h1]at F; cases F
   have bw:Hid (some q≠s.ownBlock):=E.o.ne aF;have aS:Hid (m≠S):=by
    rcases ak.o.blk (by omega) with h1|h1
    ·exact h1.2.1
    ·unfold Hid; omega
   have aT:Hid (n≠S):=by
    rcases al.o.blk (by omega) with h1|h1
    ·exact h1.2.1
    ·unfold Hid; omega
   have aU:Hid (some m≠s.ownBlock):=by
    rcases ak.o.blk (by omega) with h1|h1
    ·exact E.o.ne h1.1
    ·exact h1.2
   have aV:Hid (some n≠s.ownBlock):=by
    rcases al.o.blk (by omega) with h1|h1
    ·exact E.o.ne h1.1
    ·exact h1.2
   clear aJ aK V aL Z aj aw ax F R aQ M bt;have aD:Hid (∀(g cap:Nat) (w3:World),w3.ownsRow N 153 5 (.slice (some (zD g 0)) (B.length+1) cap) (B.length+1) (CZ B++EU ((⟨r[k],t[k]⟩,(y,d1),(z,d2)),h.length))->(wr.drew.alloc (.cells #[.string r[k].name,.slice y r[k].args.length d1,.string t[k].name,.slice z t[k].args.length d2,zA (h.length:Int)] 153)).grownBy w3 s.ownBlock->(s.ownBlock=some g∨g=(wr.drew.alloc (.cells #[.string r[k].name,.slice y r[k].args.length d1,.string t[k].name,.slice z t[k].args.length d2,zA (h.length:Int)] 153)).heap.size)->Nu S q N h cs Y A w r t (some (zD m I)) (some (zD n J)) (zA ((k:Int)-1)) (w3.setCell (zD S 0) (.slice (some (zD g 0)) (B.length+1) cap))):=λg cap w3 h1 h2 h3=>ZA aE aF O.o hk aM.o E.o aN.o aO.o ak.o al.o aP.o bk bb bp.o bl.o bm.o h1 h2 h3;unfold EU at aD;generalize r[k]=C at *;generalize t[k]=D at *;generalize CZ B=fl at *;dsimp only at aD;clear bl bm aM E aN aO aP ak al HE HR HY bh bj;have bn:Ka S q m n (I+k*2) (J+k*2) C D y z d1 d2 h.length wr.drew:=⟨s1,p0,p1,r0,r1,hlen⟩;have aW:∀W:World,W.heap[q]? = wr.heap[q]? -> Sem.run prog (Builtin.len_ #[145] 3 #[.map (some q)]) W=.ok (zA (h.length:Int)) W:=λW hW=>by
    rw[J5 underlying145 (aR.o.1.kept hW),aR.o.2]
   have KP:Hid (∀W:World,W.heap[S]? = wr.heap[S]? -> W.heap[m]? = wr.heap[m]? -> W.heap[n]? = wr.heap[n]? -> W.heap[q]? = wr.heap[q]? -> Ka S q m n (I+k*2) (J+k*2) C D y z d1 d2 h.length W):=λW h1 h2 h3 h4=>⟨by rw[CV h1]; exact s1,by rw[CV h2]; exact p0,by rw[CV h2]; exact p1,by rw[CV h3]; exact r0,by rw[CV h3]; exact r1,aW W h4⟩;have bo:S<wr.heap.size:=HB.o.lt;have az:m<wr.heap.size:=Ej p0;have a6:n<wr.heap.size:=Ej r0;have a7:q<wr.heap.size:=aR.o.1.lt;have aX:Hid (∀o,Ka S q m n (I+k*2) (J+k*2) C D y z d1 d2 h.length (wr.drew.alloc o)):=λo=>KP.o (wr.drew.alloc o) (AL _ _ _ (by simpa using bo)) (AL _ _ _ (by simpa using az)) (AL _ _ _ (by simpa using a6)) (AL _ _ _ (by simpa using a7));have KG:Hid (∀(o:Obj) (w3:World),(wr.drew.alloc o).grownBy w3 s.ownBlock->w3.heap[S]? = wr.heap[S]? /\ w3.heap[m]? = wr.heap[m]? /\ w3.heap[n]? = wr.heap[n]? /\ w3.heap[q]? = wr.heap[q]?):=λo w3 M=>⟨(M.block S (by simp; omega) ao.o).trans (AL _ _ _ (by simpa using bo)),(M.block m (by simp; omega) aU.o).trans (AL _ _ _ (by simpa using az)),(M.block n (by simp; omega) aV.o).trans (AL _ _ _ (by simpa using a6)),(M.block q (by simp; omega) bw.o).trans (AL _ _ _ (by simpa using a7))⟩;have KS:Hid (∀(w3:World) (v:Value),(w3.heap[S]? = wr.heap[S]? /\ w3.heap[m]? = wr.heap[m]? /\ w3.heap[n]? = wr.heap[n]? /\ w3.heap[q]? = wr.heap[q]?)->Ka S q m n (I+k*2) (J+k*2) C D y z d1 d2 h.length (w3.setCell (zD S 0) v)):=λw3 v H=>by
    obtain⟨e1,e2,e3,e4,e5,e6⟩:=KP.o w3 H.1 H.2.1 H.2.2.1 H.2.2.2;have a8:m≠S:=λe=>by have h1:=aS.o; exact h1 e
    have aA:n≠S:=λe=>by have h1:=aT.o; exact h1 e
    refine⟨(Aw _ _ _ _ (by simp)).trans e1,(Aw _ _ _ _ (λe=>a8 (by injection e with e; exact e.symm))).trans e2,(Aw _ _ _ _ (λe=>a8 (by injection e with e; exact e.symm))).trans e3,(Aw _ _ _ _ (λe=>aA (by injection e with e; exact e.symm))).trans e4,(Aw _ _ _ _ (λe=>aA (by injection e with e; exact e.symm))).trans e5,aW _ ?_⟩;rw[Aq _ _ _ _ (by simpa using bu.o)];exact H.2.2.2
   clear p0 p1 r0 r1 s1 hlen aW;go_wp2_with fail;refine CR (S:=Ka S q m n (I+k*2) (J+k*2) C D y z d1 d2 h.length) (by kernel_rfl) bn λhH=>?_;clear bn;refine tkz 0 ?_ (hy:=by intro w' aa;obtain⟨k1,c,d,f,j,l⟩:=aa;go_simp<;>with_reducible rfl);refine tkz 1 ?_ (hy:=by intro w' aa;obtain⟨k1,c,d,f,j,l⟩:=aa;go_simp<;>with_reducible rfl);refine tkz 2 ?_ (hy:=by intro w' aa;obtain⟨k1,c,d,f,j,l⟩:=aa;go_simp<;>with_reducible rfl);refine tkz 3 ?_ (hy:=by intro w' aa;obtain⟨k1,c,d,f,j,l⟩:=aa;go_simp<;>with_reducible rfl);refine tkz 5 ?_ (hy:=by intro w' aa;obtain⟨k1,c,d,f,j,l⟩:=aa;go_simp<;>with_reducible rfl);refine tkz 6 ?_ (hy:=by intro w' aa;obtain⟨k1,c,d,f,j,l⟩:=aa;go_simp<;>with_reducible rfl);refine tkz 7 ?_ (hy:=by intro w' aa;obtain⟨k1,c,d,f,j,l⟩:=aa;go_simp<;>with_reducible rfl);refine tkz 8 ?_ (hy:=by intro w' aa;obtain⟨k1,c,d,f,j,l⟩:=aa;go_simp<;>with_reducible rfl);refine tkz 9 ?_ (hy:=by intro w' aa;obtain⟨k1,c,d,f,j,l⟩:=aa;go_simp<;>with_reducible rfl);refine tkz 10 ?_ (hy:=by intro w' aa;obtain⟨k1,c,d,f,j,l⟩:=aa;go_simp<;>with_reducible rfl);refine tkz 11 ?_ (hy:=by intro w' aa;obtain⟨k1,c,d,f,j,l⟩:=aa;go_simp<;>with_reducible rfl);refine tkz 12 ?_ (hy:=by intro w' aa;obtain⟨k1,c,d,f,j,l⟩:=aa;go_simp<;>with_reducible rfl);refine tkz 13 ?_ (hy:=by intro w' aa;obtain⟨k1,c,d,f,j,l⟩:=aa;go_simp<;>with_reducible rfl);refine tkz 14 ?_ (hy:=by intro w' aa;obtain⟨k1,c,d,f,j,l⟩:=aa;go_simp<;>with_reducible rfl);refine tkz 15 ?_ (hy:=by intro w' aa;obtain⟨k1,c,d,f,j,l⟩:=aa;go_simp<;>with_reducible rfl);refine tkz 16 ?_ (hy:=by intro w' aa;obtain⟨k1,c,d,f,j,l⟩:=aa;go_simp<;>with_reducible rfl);refine tkz 17 ?_ (hy:=by intro w' aa;obtain⟨k1,c,d,f,j,l⟩:=aa;go_simp<;>with_reducible rfl);refine tkz 18 ?_ (hy:=by intro w' aa;obtain⟨k1,c,d,f,j,l⟩:=aa;go_simp<;>with_reducible rfl);refine Db (rs:=[4,19]) (by kernel_rfl) (by simp) ?_;refine Bf rfl (λK a=>?_) (Bf rfl (λK a=>?_) Dc)
   ·go_simp;refine a.o _ _ (by exact hH) λhH=>?_;clear a K;(try simp only[Act.put,sq]);refine rdq 19 rfl λK a=>?_;go_simp;refine a.o _ _ (by exact aX.o _) λhH=>?_;clear a K;(try simp only[Act.put,sq]);refine rdq 20 rfl λK a=>?_;refine step_append_lies _ rfl _ _ 146 rfl N 153 i0 _ 5 88 underlying146 bc bd bf bg rfl (by decide) s B.length fl rfl (by exact ay.o.alloc _) (zD wr.heap.size 0) 1 1 [.string C.name,.slice y C.args.length d1,.string D.name,.slice z D.args.length d2,zA (h.length:Int)] rfl rfl (by exact Nt _ _ _ _ _ _ _) (λx hx=>by simp at hx; rcases hx with rfl|rfl|rfl|rfl|rfl<;>rfl) (by decide) (by have:=aC.o; unfold maxLen; omega) (by have:=aC.o; omega) (by simp; omega) _ rfl ?_;intro g cap w3 T ab U aq;have G:=Aa (((HB.o.drewN 1).alloc _).grown ab ao.o);have aY:w3.cell? (zD S 0)=some s:=G.o.cell 0;have aZ:=G.o.frozen 0;have ba:=Aa (aD.o g cap w3 T ab U);have u:=Aa (KG.o _ _ ab);refine a.o _ _ (by exact KP.o w3 u.o.1 u.o.2.1 u.o.2.2.1 u.o.2.2.2) λhH=>?_;clear T ab U G aq;clear a K;(try simp only[Act.put,sq]);refine tkz 21 ?_ (hy:=by intro w' aa;obtain⟨k1,c,d,f,j,l⟩:=aa;go_simp<;>with_reducible rfl);refine tkz 22 ?_ (hy:=by intro w' aa;obtain⟨k1,c,d,f,j,l⟩:=aa;go_simp<;>with_reducible rfl);refine rdq 23 rfl λK a=>?_;go_simp;refine a.o _ _ (by exact KS.o w3 _ u.o) λhH=>?_;clear a K;(try simp only[Act.put,sq]);refine dnq ?_;clear hH aY aZ;go_wp2_with fail;go_roundw
    case rel=>exact ba.o
    case measure=>simp[intOf]
   ·go_simp;refine a.o _ _ (by exact aX.o _) λhH=>?_;clear a K;(try simp only[Act.put,sq]);refine rdq 4 rfl λK a=>?_;go_simp;refine a.o _ _ (by exact aX.o _) λhH=>?_;clear a K;(try simp only[Act.put,sq]);refine rdq 20 rfl λK a=>?_;refine step_append_lies _ rfl _ _ 146 rfl N 153 i0 _ 5 88 underlying146 bc bd bf bg rfl (by decide) s B.length fl rfl (by exact ay.o.alloc _) (zD wr.heap.size 0) 1 1 [.string C.name,.slice y C.args.length d1,.string D.name,.slice z D.args.length d2,zA (h.length:Int)] rfl rfl (by exact Nt _ _ _ _ _ _ _) (λx hx=>by simp at hx; rcases hx with rfl|rfl|rfl|rfl|rfl<;>rfl) (by decide) (by have:=aC.o; unfold maxLen; omega) (by have:=aC.o; omega) (by simp; omega) _ rfl ?_;intro g cap w3 T ab U aq;have G:=Aa (((HB.o.drewN 1).alloc _).grown ab ao.o);have aY:w3.cell? (zD S 0)=some s:=G.o.cell 0;have aZ:=G.o.frozen 0;have ba:=Aa (aD.o g cap w3 T ab U);have u:=Aa (KG.o _ _ ab);refine a.o _ _ (by exact KP.o w3 u.o.1 u.o.2.1 u.o.2.2.1 u.o.2.2.2) λhH=>?_;clear T ab U G aq;clear a K;(try simp only[Act.put,sq]);refine tkz 21 ?_ (hy:=by intro w' aa;obtain⟨k1,c,d,f,j,l⟩:=aa;go_simp<;>with_reducible rfl);refine tkz 22 ?_ (hy:=by intro w' aa;obtain⟨k1,c,d,f,j,l⟩:=aa;go_simp<;>with_reducible rfl);refine rdq 23 rfl λK a=>?_;go_simp;refine a.o _ _ (by exact KS.o w3 _ u.o) λhH=>?_;clear a K;(try simp only[Act.put,sq]);refine dnq ?_;clear hH aY aZ;go_wp2_with fail;go_roundw
    case rel=>exact ba.o
    case measure=>simp[intOf]
theorem Kb {x:ByteArray} {t:Tm} (hx:Al x=true):AJ x (At [] (Ao [t]))=Bt x [t]:=by
 rw[FL,Ir];constructor
 ·intro h;unfold AJ at h;rw[Ei]at h;obtain⟨y,hy,e⟩:=h;have a:y=x:=Eu (by simpa using e);subst a;rcases Lk _ _ _ hy with h1|⟨k,h1,h2,_⟩
  ·cases h1
  ·exact⟨k,h1,h2⟩
 ·intro h;apply Hw;intro hn;exact Jc hx hn h
def RR (S q N:Nat) (h:List (ByteArray×Tm)) (cs:List Ec) (ta tb:Tm) (code:Int) (w':World):Prop:=
 (code≠0/\∃(f':Bool) (Y':Nat->Prop) (td':Value),Cg S q td' h f' Y' w'/\(f'=true∨∀l,Bh false (Ak h) l ta tb=.stop code (Ak h)))∨
 (code=0/\Ab [ta]<=2000/\Ab [tb]<=2000/\∃(h':List (ByteArray×Tm)) (cs':List Ec) (new:List Pr),J9 S q N h' cs' w'/\cs'.map Dk=cs.map Dk++new.reverse.map (λp=>(p,h.length))/\(∀l,Bh false (Ak h) l ta tb=.go (Ak h') (new++l))/\
  ((new=[]/\h'=h)∨(new=[]/\∃x t,h'=h++[(x,t)]/\Al x=true/\((x=ta.name/\t=tb)∨(x=tb.name/\t=ta))/\¬AJ x (At [] (Ao [t]))=true)∨(new=Az ta.args tb.args/\h'=h/\ta.args.length=tb.args.length)))
def RT (S q N:Nat) (h:List (ByteArray×Tm)) (cs:List Ec) (ta tb:Tm) (td0:Value) (w:World) (e:Ending) (w':World):Prop:=
 ∃code:Int,e=.returned (zA code)/\Am (λb=>b=S∨b=q∨some b=td0.ownBlock) w w'/\RR S q N h cs ta tb code w'
theorem RU {S q N:Nat} {h:List (ByteArray×Tm)} {cs:List Ec} {ta tb:Tm} {nm:ByteArray} {t:Tm} {a:Value} {w w3 c:World} {X Y':Nat->Prop} {e:Ending} (ab:S<N) (f:q<N) (s:N<=w.heap.size) (u:C5 w N (λb=>b<N/\b≠S/\b≠q) a cs) (j:∀b,Y' b->some b≠a.ownBlock) (v:∀b,X b->some b≠a.ownBlock) (x:Am (Ci S q) w w3) (y:Am (Ci S q) w3 c) (k:Ab [ta]<=2000) (m:Ab [tb]<=2000)
  (g:∀l,Bh false (Ak h) l ta tb=if nm=t.name then .go (Ak h) l else CI false (Ak h) l nm t) (aa:Al nm=true) (z:(nm=ta.name/\t=tb)∨(nm=tb.name/\t=ta))
  (hc:(t.name=nm/\e=.returned (zA 0)/\Cg S q a h false Y' c)∨(t.name≠nm/\Bt nm [t]=true/\e=.returned (zA 6)/\Cg S q a h false Y' c)∨(t.name≠nm/\Bt nm [t]=false/\e=.returned (zA 0)/\Cg S q a (h++[(nm,t)]) false (λb=>Y' b∨(X b/\b<w3.heap.size)) c)):
  ∃code:Int,e=.returned (zA code)/\Am (λb=>b=S∨b=q∨some b=a.ownBlock) w c/\RR S q N h cs ta tb code c:=by
 have hx:Am (Ci S q) w c:=x.trans y;have i:Am (λb=>b=S∨b=q∨some b=a.ownBlock) w c:=hx.mono λb hb _=>by
  rcases hb with h1|h1
  ·exact Ad h1
  ·exact Ae (Ad h1)
 have n:C5 c N (λb=>b<N/\b≠S/\b≠q) a cs:=u.exq hx (λb hb=>by rcases hb with rfl|rfl; exact ab; exact f) (λb hb o=>by
  rcases hb with h1|h1
  ·exact o.2.1 h1
  ·exact o.2.2 h1)
 have r:N<=c.heap.size:=AY s hx.size;rcases hc with ⟨hn,rfl,d⟩|⟨hn,ho,rfl,d⟩|⟨hn,ho,rfl,d⟩
 ·exact⟨0,rfl,i,Ae ⟨rfl,k,m,h,cs,[],⟨a,Y',d,n,j,ab,f,r⟩,by simp,λl=>by rw[g,Ar hn.symm]; rfl,Ad ⟨rfl,rfl⟩⟩⟩
 ·refine⟨6,rfl,i,Ad ⟨by decide,false,Y',a,d,Ae λl=>?_⟩⟩;rw[g,Aj (λe=>hn e.symm)];unfold CI;rw[Ar (by rw[Kb aa]; exact ho)]
 ·refine⟨0,rfl,i,Ae ⟨rfl,k,m,h++[(nm,t)],cs,[],⟨a,_,d,n,λb hb=>?_,ab,f,r⟩,by simp,λl=>?_,Ae (Ad ⟨rfl,nm,t,rfl,aa,z,by rw[Kb aa,ho]; simp⟩)⟩⟩
  ·rcases hb with hb|hb
   ·exact j b hb
   ·exact v b hb.1
  ·rw[g,Aj (λe=>hn e.symm)];unfold CI;rw[Aj (by rw[Kb aa,ho]; simp),Aj (by simp),FE];rfl
theorem ZD (S q N:Nat) (V:List ByteArray) (h:List (ByteArray×Tm)) (cs:List Ec) (p:Pr) (l:List Pr) (hU:UI V h (p::l)) (j:Nat) (hj:j<=h.length) (hid:j=h.length->(Ag (Ak h) p.l=p.l/\Ag (Ak h) p.r=p.r)) (bm:cs.length<=900000000) (hV:V.length<=400000) (a1:Option Addr) (c1:Nat) (a2:Option Addr) (c2:Nat) (w:World) (g:Value) (Y:Nat->Prop) (hE:Cg S q g h false Y w) (hR:C5 w N (λb=>b<N/\b≠S/\b≠q) g cs) (hY:∀b,Y b->some b≠g.ownBlock) (F:S<N) (G:q<N) (O:N<=w.heap.size)
  (aJ:Sl w (λb=>(b<N/\b≠S/\b≠q)∨(N<=b/\some b≠g.ownBlock)) a1 p.l.args) (aK:Sl w (λb=>(b<N/\b≠S/\b≠q)∨(N<=b/\some b≠g.ownBlock)) a2 p.r.args):
  Calls prog 109 #[zC S,.agg #[.string p.l.name,.slice a1 p.l.args.length c1,.string p.r.name,.slice a2 p.r.args.length c2,zA j]] w λe w'=>RT S q N h cs (Ag (Ak h) p.l) (Ag (Ak h) p.r) g w e w':=by
 have HE:=Aa hE;have y:=Aa hR;have HY:=Aa hY;have aX:=Aa aJ;have aY:=Aa aK;have k:=Aa hU;have aZ:=Aa hid;have bn:S<w.heap.size:=by omega
 clear hE hR hY aJ aK hU hid;obtain⟨ta,P⟩:∃ta,Ag (Ak h) p.l=ta:=⟨_,rfl⟩;obtain⟨tb,R⟩:∃tb,Ag (Ak h) p.r=tb:=⟨_,rfl⟩;have T:=Aa P;have U:=Aa R;rw[P,R];clear P R;have H:Hid (Below w.heap.size w (w.alloc (.cells #[.string p.l.name,.slice a1 p.l.args.length c1,.string p.r.name,.slice a2 p.r.args.length c2,zA j] 153))):=(Af _ _).alloc (Ai _) _;have bo:(w.alloc (.cells #[.string p.l.name,.slice a1 p.l.args.length c1,.string p.r.name,.slice a2 p.r.args.length c2,zA j] 153)).heap.size=w.heap.size+1:=by simp
 go_enter func109,ntmps109;go_wp2_with fail;generalize (w.alloc (.cells #[.string p.l.name,.slice a1 p.l.args.length c1,.string p.r.name,.slice a2 p.r.args.length c2,zA j] 153))=w1 at *;have W:=Zx S q g h k.o.good k.o.names p k.o.head j hj aZ.o (k.o.size p (by simp)) a1 c1 a2 c2 w1 _ Y (λb hb hm=>by
  rcases hb with hb|hb
  ·rcases hm with e|e
   ·exact hb.2.1 e
   ·exact hb.2.2 e
  ·rcases hm with e|e<;>omega) (aX.o.later H.o) (aY.o.later H.o) ((Do S q g h).below HE.o H.o)
 rw[T.o,U.o]at W;refine W.mono ?_;clear W;rintro e w2 ⟨s1,c,n,k1,s2,d,s,f,ok,f',Y',rfl,aL,ao,hx,hc⟩;have ba:Hid (Am (Ci S q) w w2):=(Am.ofBelow H.o).trans hx;have bb:=Aa aL;have Z:Hid (∀b,Y' b->some b≠g.ownBlock):=λb hb e=>by
  rcases ao b hb with h1|h1
  ·exact HY.o b h1 e
  ·have:=(y.o.own.lt b e.symm).2; omega
 have bp:w.heap.size+1<=w2.heap.size:=by have:=hx.size; omega
 have HC:=Aa hc;clear aL ao hx hc;have I:Below w2.heap.size w2 ((w2.alloc (.cells #[.string s1,.slice c n k1] 33)).alloc (.cells #[.string s2,.slice d s f] 33)):=CX _ _;have aC:=Aa I;have z:Hid (Ac ((w2.alloc (.cells #[.string s1,.slice c n k1] 33)).alloc (.cells #[.string s2,.slice d s f] 33)) w2.heap.size #[.string s1,.slice c n k1] 33):=(Ac.new w2 _ _).alloc _;have B3:Hid (Ac ((w2.alloc (.cells #[.string s1,.slice c n k1] 33)).alloc (.cells #[.string s2,.slice d s f] 33)) (w2.heap.size+1) #[.string s2,.slice d s f] 33):=(by have h1:=Ac.new (w2.alloc (.cells #[.string s1,.slice c n k1] 33)) #[.string s2,.slice d s f] 33;rw[CW]at h1;exact h1);have bc:((w2.alloc (.cells #[.string s1,.slice c n k1] 33)).alloc (.cells #[.string s2,.slice d s f] 33)).heap.size=w2.heap.size+2:=by simp
 have t:=Aa ((Do S q g h).below bb.o I);have u:Hid (Am (Ci S q) w ((w2.alloc (.cells #[.string s1,.slice c n k1] 33)).alloc (.cells #[.string s2,.slice d s f] 33))):=ba.o.trans (Am.ofBelow I);clear I;rcases HC.o with ⟨rfl,rfl,rfl,rfl,rfl,rfl,aM,aN,aO,aP⟩|⟨rfl,aq⟩
 ·have ah:∀(a:Option Addr) (l:List Tm),Sl w2 (λb=>(((b<N/\b≠S/\b≠q)∨(N<=b/\some b≠g.ownBlock))/\b<w1.heap.size)∨w1.heap.size<=b) a l->Sl w2 (λb=>(b<N/\b≠S/\b≠q)∨(N<=b/\some b≠g.ownBlock)) a l:=λa l bd=>bd.mono λb hb _=>by
   rcases hb with hb|hb
   ·exact hb.1
   ·refine Ae ⟨by omega,λe=>?_⟩;have:=(y.o.own.lt b e.symm).2; omega
  have aD:=Aa ((ah _ _ aO).later aC.o);have aE:=Aa ((ah _ _ aP).later aC.o);have aQ:Hid (∀b,((b<N/\b≠S/\b≠q)∨(N<=b/\some b≠g.ownBlock))->¬Ci S q b):=λb hb hm=>by
   rcases hb with hb|hb
   ·rcases hm with e|e
    ·exact hb.2.1 e
    ·exact hb.2.2 e
   ·rcases hm with e|e<;>omega
  have aR:Hid (∀b,((b<N/\b≠S/\b≠q)∨(N<=b/\some b≠g.ownBlock))->some b≠g.ownBlock):=λb hb=>by
   rcases hb with hb|hb
   ·exact y.o.ne hb.1
   ·exact hb.2
  have v:=Aa aM;have A:=Aa aN;have a0:((w2.alloc (.cells (zF ta c k1) 33)).alloc (.cells (zF tb d f) 33)).cell? (zD w2.heap.size 0)=some (.string ta.name):=z.o.cell 0;have aS:((w2.alloc (.cells (zF ta c k1) 33)).alloc (.cells (zF tb d f) 33)).cell? (zD w2.heap.size 1)=some (.slice c ta.args.length k1):=z.o.cell 1;have b0:((w2.alloc (.cells (zF ta c k1) 33)).alloc (.cells (zF tb d f) 33)).cell? (zD (w2.heap.size+1) 0)=some (.string tb.name):=B3.o.cell 0;have aT:((w2.alloc (.cells (zF ta c k1) 33)).alloc (.cells (zF tb d f) 33)).cell? (zD (w2.heap.size+1) 1)=some (.slice d tb.args.length f):=B3.o.cell 1;clear ah aO aP aM aN HC;cases J:Al ta.name with
  |true=>have aa:=Aa J;have aF:Hid (tb.name≠ta.name->Bt ta.name [tb]=false->FZ (Ak h) ta.name tb):=λ_ ho=>(k.o.bindV aa.o (Ad ⟨by rw[T.o],by rw[U.o]⟩) (by rw[Kb aa.o,ho]; simp)).1;clear J;go_wp2_with (go_at_call 59; refine(CG _ _).mono ?_; rintro e w' ⟨rfl,rfl⟩; rw[aa.o]);generalize ((w2.alloc (.cells (zF ta c k1) 33)).alloc (.cells (zF tb d f) 33))=w3 at *;refine(RL S q g h k.o.good ta.name tb aF.o d f w3 _ Y' aQ.o aE.o t.o).mono ?_;rintro e w4 ⟨m,D⟩;have E:=Aa (RU (ta:=ta) (tb:=tb) (cs:=cs) F G O y.o Z.o aR.o u.o m v.o A.o (λl=>by unfold Bh; rw[Aj (by have:=v.o; have:=A.o; omega),Ar aa.o]) aa.o (Ad ⟨rfl,rfl⟩) D);obtain⟨code,rfl,ab⟩:=E.o;clear D;have aU:=Aa m;have aj:=Aa ab;clear m ab E;go_wp2_with fail;go_ret;exact⟨code,rfl,aj.o⟩
  |false=>
   have aa:=Aa J;clear J;cases L:Al tb.name with
   |true=>
    have i:=Aa L;have aF:Hid (ta.name≠tb.name->Bt tb.name [ta]=false->FZ (Ak h) tb.name ta):=λ_ ho=>(k.o.bindV i.o (Ae ⟨by rw[U.o],by rw[T.o]⟩) (by rw[Kb i.o,ho]; simp)).1;have bf:Hid (tb.name≠ta.name):=λe=>by
     have h1:=aa.o;have h2:=i.o;rw[e,h1]at h2; cases h2
    clear L;go_wp2_with (go_at_call 59; refine(CG _ _).mono ?_; rintro e w' ⟨rfl,rfl⟩; (first|rw[aa.o]|rw[i.o]));generalize ((w2.alloc (.cells (zF ta c k1) 33)).alloc (.cells (zF tb d f) 33))=w3 at *;refine(RL S q g h k.o.good tb.name ta aF.o c k1 w3 _ Y' aQ.o aD.o t.o).mono ?_;rintro e w4 ⟨m,D⟩;have E:=Aa (RU (ta:=ta) (tb:=tb) (cs:=cs) F G O y.o Z.o aR.o u.o m v.o A.o (λl=>by unfold Bh; rw[Aj (by have:=v.o; have:=A.o; omega),Aj (by rw[aa.o]; simp),Ar i.o,Aj bf.o]) i.o (Ae ⟨rfl,rfl⟩) D);obtain⟨code,rfl,ab⟩:=E.o;clear D;have aj:=Aa ab;clear m ab E;go_wp2_with fail;go_ret;exact⟨code,rfl,aj.o⟩
   |false=>
    have i:=Aa L;clear L;have M:Hid (Am (λb=>b=S∨b=q∨some b=g.ownBlock) w ((w2.alloc (.cells (zF ta c k1) 33)).alloc (.cells (zF tb d f) 33))):=u.o.mono λb hb _=>by
     rcases hb with h1|h1
     ·exact Ad h1
     ·exact Ae (Ad h1)
    have aG:Hid (∀l,Bh false (Ak h) l ta tb=if ta.name=tb.name/\ta.args.length=tb.args.length then .go (Ak h) (Az ta.args tb.args++l) else .stop 5 (Ak h)):=λl=>by
     unfold Bh;rw[Aj (by have:=v.o; have:=A.o; omega),Aj (by rw[aa.o]; simp),Aj (by rw[i.o]; simp)]
    by_cases x:ta.name=tb.name
    ·have bg:=Ia x;by_cases B:ta.args.length=tb.args.length
     ·have aV:=Aa B;have bh:=Aa x;have bq:ta.args.length<=2000:=(by have h1:=EM ta.args;have h2:=Jg ta;have h3:=v.o;omega);have bj:h.length<=1000000000:=by have:=k.o.hlen; omega
      dsimp only[zF]at t u M aD aE;rw[B]at t u M aD aE;clear x z B3 aC a0 aS b0 aT bc;have z:Hid (Ac ((w2.alloc (.cells #[.string ta.name,.slice c tb.args.length k1] 33)).alloc (.cells (zF tb d f) 33)) w2.heap.size #[.string ta.name,.slice c tb.args.length k1] 33):=(Ac.new w2 _ _).alloc _;have B3:Hid (Ac ((w2.alloc (.cells #[.string ta.name,.slice c tb.args.length k1] 33)).alloc (.cells (zF tb d f) 33)) (w2.heap.size+1) (zF tb d f) 33):=by
       have h1:=Ac.new (w2.alloc (.cells #[.string ta.name,.slice c tb.args.length k1] 33)) (zF tb d f) 33;rw[CW]at h1;exact h1
      have a0:((w2.alloc (.cells #[.string ta.name,.slice c tb.args.length k1] 33)).alloc (.cells (zF tb d f) 33)).cell? (zD w2.heap.size 0)=some (.string ta.name):=z.o.cell 0;have aS:((w2.alloc (.cells #[.string ta.name,.slice c tb.args.length k1] 33)).alloc (.cells (zF tb d f) 33)).cell? (zD w2.heap.size 1)=some (.slice c tb.args.length k1):=z.o.cell 1;have b0:((w2.alloc (.cells #[.string ta.name,.slice c tb.args.length k1] 33)).alloc (.cells (zF tb d f) 33)).cell? (zD (w2.heap.size+1) 0)=some (.string tb.name):=B3.o.cell 0;have aT:((w2.alloc (.cells #[.string ta.name,.slice c tb.args.length k1] 33)).alloc (.cells (zF tb d f) 33)).cell? (zD (w2.heap.size+1) 1)=some (.slice d tb.args.length f):=B3.o.cell 1;go_wp2_with (go_at_call 59; refine(CG _ _).mono ?_; rintro e w' ⟨rfl,rfl⟩; (first|rw[aa.o]|rw[i.o]));generalize ((w2.alloc (.cells #[.string ta.name,.slice c tb.args.length k1] 33)).alloc (.cells (zF tb d f) 33))=w3 at *;have aW:C5 w3 N (λb=>b<N/\b≠S/\b≠q) g cs:=y.o.exq u.o (λb hb=>by rcases hb with rfl|rfl; exact F; exact G) (λb hb C=>by
       rcases hb with h1|h1
       ·exact C.2.1 h1
       ·exact C.2.2 h1)
      have AH:=ZC S q N h cs ta.args tb.args B (by omega) bj c d k1 f w3 g Y' t.o aW Z.o F G (AY O u.o.size) aD.o aE.o;rw[B]at AH;refine AH.mono ?_;clear AH;rintro e w4 ⟨rfl,bk,hT,hC,m⟩;have HT:=Aa hT;have bl:=Aa hC;have aU:Hid (Am (λb=>b=S∨b=q∨some b=g.ownBlock) w w4):=M.o.trans (m.mono λb hb _=>hb.imp id Ae);clear hT hC m aW;go_wp2_with fail;go_ret;exact⟨0,rfl,aU.o,Ae ⟨rfl,v.o,A.o,h,bk,Az ta.args tb.args,HT.o,bl.o,λl=>by rw[aG.o,Ar ⟨bh.o,aV.o⟩],Ae (Ae ⟨rfl,rfl,aV.o⟩)⟩⟩
     ·have br:((ta.args.length:Int)==(tb.args.length:Int))=false:=DU.2 (by omega);have aH:Hid (¬(ta.name=tb.name/\ta.args.length=tb.args.length)):=λC=>B C.2;clear B x;go_wp2_with (go_at_call 59; refine(CG _ _).mono ?_; rintro e w' ⟨rfl,rfl⟩; (first|rw[aa.o]|rw[i.o]));go_ret;exact⟨5,rfl,M.o,Ad ⟨by decide,false,Y',g,t.o,Ae λl=>by rw[aG.o,Aj aH.o]⟩⟩
    ·have bg:=JG x;have aH:Hid (¬(ta.name=tb.name/\ta.args.length=tb.args.length)):=λC=>x C.1;clear x;go_wp2_with (go_at_call 59; refine(CG _ _).mono ?_; rintro e w' ⟨rfl,rfl⟩; (first|rw[aa.o]|rw[i.o]));go_ret;exact⟨5,rfl,M.o,Ad ⟨by decide,false,Y',g,t.o,Ae λl=>by rw[aG.o,Aj aH.o]⟩⟩
 ·have aI:=Aa aq;clear aq HC;go_wp2_with fail;go_ret;refine⟨8,rfl,u.o.mono λb hb _=>?_,Ad ⟨by decide,f',Y',g,t.o,?_⟩⟩
  ·rcases hb with h1|h1
   ·exact Ad h1
   ·exact Ae (Ad h1)
  ·rcases aI.o with h1|h1
   ·exact Ad h1
   ·exact Ae λl=>by unfold Bh; rw[Ar h1]
open Go.RowKit Go.Shelf
attribute [local go_sem] G7
theorem ZE (F:Fence) (n:Nat) (b:F.fn 108) (aa:F.round=none) (v:Value) (w:World) (hv:∃a k c,v=.slice a k c):
  CallsIn F n prog 108 #[v] w λe w'=>e=.returned (.func (.func 126) #[] #[zC w.heap.size])/\w'=w.alloc (.cells #[v] 23):=by
 obtain⟨a,k,c,rfl⟩:=hv;refine callsIn_of_wp func108 rfl b ?_ aa;simp only[ntmps108,List.size_toArray,Bu,E4,Nat.reduceAdd,Nat.reduceSub,L9,Ma,List.push_toArray,Mb,D9,Cj];gi_wp2
 go_ret;exact⟨rfl,rfl⟩
abbrev Yx:=Int×Pc
def Lz (x:Yx):Array Value:=#[zA x.1,.agg #[.string x.2.1.l.name,.slice x.2.2.1.1 x.2.1.l.args.length x.2.2.1.2,.string x.2.1.r.name,.slice x.2.2.2.1 x.2.1.r.args.length x.2.2.2.2]]
def EW {P:Yx->Prop} (xs:List Pc) (hP:∀k (h:k<xs.length),P ((k:Int),xs[k])):(k:Nat)->k<=xs.length->List { x:Yx // P x}
 |0,_=>[]
 |k+1,h=>⟨((k:Int),xs[k]),hP k h⟩::EW xs hP k (Nat.le_of_succ_le h)
theorem RV {P:Yx->Prop} {xs:List Pc} {hP:∀k (h:k<xs.length),P ((k:Int),xs[k])}:∀k (h:k<=xs.length),(EW xs hP k h).length=k
 |0,_=>rfl
 |k+1,h=>by rw[EW,Bu,RV k]
theorem RX {P:Yx->Prop} {xs:List Pc} {hP:∀k (h:k<xs.length),P ((k:Int),xs[k])}:∀k (h:k<=xs.length),(EW xs hP k h).map (λx=>x.1.2.1)=((xs.take k).map (·.1)).reverse
 |0,_=>by simp[EW]
 |k+1,h=>by
  rw[EW,Cb,RX k,Bo (by omega),Cr,List.reverse_append];rfl
def Nv (w:World) (b o:Nat) (xs:List Pc):Prop:=∀j u,(CT xs)[j]? = some u->w.cell? ⟨b,o+j,none⟩=some u
theorem ZG (F:Fence) (n:Nat) (h6:F.fn 126) (z:F.round=none) (hn:1<=n) {P:Yx->Prop} {Kp:World->World->Prop} (D:∀A,Kp A A) (E:∀ {A B C:World},Kp A B->Kp B C->Kp A C) (l Bn b o c:Nat) (f:∀ {A B:World},Kp A B->B.heap[b]? = A.heap[b]? /\ B.heap[Bn]? = A.heap[Bn]?) (a:Option Addr) (xs:List Pc) (hP:∀k (h:k<xs.length),P ((k:Int),xs[k])) (G:xs=[]∨a=some (zD b o)) (ao:xs.length<=1000000) (J g:List { x:Yx // P x}->World->Prop)
  (H:∀pre x W,J pre W->pre.length<xs.length->YieldAt F (n-1) prog l (Lz x.1) W λe W'=>
   (e=.returned (.bool true)/\J (pre++[x]) W'/\Kp W W')∨(e=.returned (.bool false)/\g (pre++[x]) W'))
  (W:World) (m:W.cell? (zD Bn 0)=some (.slice a xs.length c)) (q:Nv W b o xs) (h0:J [] W):
  CallsIn F n prog 126 #[.func (.yield l) #[] #[],zC Bn] W λe W'=>(∃v,e=.returned v)/\
   ((∃r,r=EW xs hP xs.length (Ai _)/\J r W')∨(∃pre,pre <+: EW xs hP xs.length (Ai _)/\g pre W')):=by
 refine callsIn_of_wp func126 rfl h6 ?_ z;simp only[ntmps126,List.size_toArray,Bu,E4,Nat.reduceAdd,Nat.reduceSub,L9,Ma,List.push_toArray,Mb,D9,Cj];gi_wp2
 gi_loopw [3] (λi wr=>∃(k:Nat) (hk:k<=xs.length),i=zA ((k:Int)-1)/\Kp W wr/\∃pre,EW xs hP xs.length (Ai _)=pre++EW xs hP k hk/\J pre wr) (λi wr=>(intOf i+1).toNat)
 case atStart=>exact⟨xs.length,Ai _,by go_num,D _,[],rfl,h0⟩
 case round=>
  obtain⟨k,hk,rfl,hb,pre,aa,s⟩:=hrel;cases k with
  |zero=>
   gi_wp2
   go_end0
   exact⟨⟨_,rfl⟩,.inl ⟨pre,by rw[aa]; simp[EW],s⟩⟩
  |succ k=>
   have I:((k+1:Nat):Int)-1=k:=(by omega);rw[I];obtain rfl:a=some (zD b o):=G.resolve_left (λe=>by rw[e] at hk; simp at hk);rw[EW]at aa;have L:pre.length<xs.length:=(by have h1:=Bx List.length aa;rw[RV]at h1;simp at h1;omega);have d:∀j u,(DZ xs[k])[j]? = some u->j<4->wr.cell? ⟨b,o+k*4+j,none⟩=some u:=λj u hu hj=>by
    rw[CV (f hb).1,Jy];exact q _ _ (by rw[Jh xs k (by omega) j hj]; exact hu)
   have c0:=d 0 _ rfl (by decide);have c1:=d 1 _ rfl (by decide);have c2:=d 2 _ rfl (by decide);have c3:=d 3 _ rfl (by decide);simp only[F9] at c0;have aq:wr.cell? (zD Bn 0)=some (.slice (some (zD b o)) xs.length c):=by rw[CV (f hb).2]; exact m
   have ar:(k:Int)<(xs.length:Int):=(by omega);have ab:=hP k (by omega);obtain⟨fn,tmps,assign,body,hy,t⟩:=H pre ⟨((k:Int),xs[k]),ab⟩ wr s L;have y:=Aa aa;dsimp only[Lz] at hy t;obtain⟨x,hx⟩:∃x,xs[k]=x:=⟨_,rfl⟩;have au:=Aa hx;simp only[hx] at c0 c1 c2 c3 hy;clear d aa q m hx;gi_wp2
   refine t.mono ?_;rintro e W3 (⟨rfl,M,N⟩|⟨rfl,O⟩)
   ·gi_wp2
    go_roundw
    case rel=>exact⟨k,by omega,by go_num,E hb N,pre++[⟨((k:Int),xs[k]),ab⟩],by rw[y.o]; simp,M⟩
    case measure=>simp[intOf]
   ·gi_wp2
    refine An (results_none rfl _ _ _) rfl ?_;exact⟨⟨_,rfl⟩,.inr ⟨pre++[⟨((k:Int),xs[k]),ab⟩],⟨EW xs hP k (by omega),by rw[y.o]; simp⟩,O⟩⟩
theorem ZH (F:Fence) (n:Nat) (h6:F.fn 126) (ab:F.round=none) (hn:1<=n) {P:Yx->Prop} {Kp:World->World->Prop} (e:∀A,Kp A A) (f:∀ {A B C:World},Kp A B->Kp B C->Kp A C) (Bn b o c:Nat) (g:∀ {A B:World},Kp A B->B.heap[b]? = A.heap[b]? /\ B.heap[Bn]? = A.heap[Bn]?) (a:Option Addr) (xs:List Pc) (hP:∀k (h:k<xs.length),P ((k:Int),xs[k])) (i:xs=[]∨a=some (zD b o)) (m:xs.length<=1000000) (w:World) (q:b<w.heap.size) (aa:Bn<w.heap.size) (r:w.cell? (zD Bn 0)=some (.slice a xs.length c)) (s:Nv w b o xs):
  SeqStopsK F n prog 126 #[zC Bn] (λx:{ x:Yx // P x}=>Lz x.1) Kp (λt=>t=EW xs hP xs.length (Ai _)) (λpre=>pre <+: EW xs hP xs.length (Ai _)) xs.length w:=λl J v W d _ _ y h0=>
 ZG F n h6 ab hn e f l Bn b o c g a xs hP i m J v y W ((d.cell (p:=(zD Bn 0)) aa).trans r) (λj u hj=>(d.cell (p:=⟨b,o+j,none⟩) q).trans (s j u hj)) h0
theorem Nw {w:World} {X:Nat->Prop}:∀(l:List Pr) (b o:Nat),(∀i (h:i<l.length),∃a1 c1 a2 c2,w.cell? ⟨b,o+i*4,none⟩=some (.string l[i].l.name)/\w.cell? ⟨b,o+i*4+1,none⟩=some (.slice a1 l[i].l.args.length c1)/\w.cell? ⟨b,o+i*4+2,none⟩=some (.string l[i].r.name)/\w.cell? ⟨b,o+i*4+3,none⟩=some (.slice a2 l[i].r.args.length c2)/\Sl w X a1 l[i].l.args/\Sl w X a2 l[i].r.args)->
  ∃cs:List Pc,cs.map (·.1)=l/\(∀j u,(CT cs)[j]? = some u->w.cell? ⟨b,o+j,none⟩=some u)/\∀x∈cs,Sl w X x.2.1.1 x.1.l.args/\Sl w X x.2.2.1 x.1.r.args
 | [],b,o,_=>⟨[],rfl,λj u h=>by simp[CT] at h,λx h=>by cases h⟩
 |p::r,b,o,h=>by
  obtain⟨a1,c1,a2,c2,h1,h2,h3,c,d,h6⟩:=h 0 (by simp);obtain⟨cs,e,f,g⟩:=Nw r b (o+4) λi hi=>by
   have a:=h (i+1) (by simpa using hi);simp only[Gw] at a;rw[show o+(i+1)*4=o+4+i*4 by omega]at a;exact a
  simp only[EI,Nat.zero_mul,F9] at h1 h2 h3 c d h6;refine⟨(p,(a1,c1),(a2,c2))::cs,by simp[e],λj u hj=>?_,λx hx=>?_⟩
  ·rw[CT]at hj;match j,hj with
   |0,hj=>simp[DZ] at hj; subst hj; exact h1
   |1,hj=>simp[DZ] at hj; subst hj; exact h2
   |2,hj=>simp[DZ] at hj; subst hj; exact h3
   |3,hj=>simp[DZ] at hj; subst hj; exact c
   |j+4,hj=>rw[Of (by simp[DZ])]at hj;have:=f j u (by simpa [DZ] using hj);rwa [show o+(j+4)=o+4+j by omega]
  ·rcases Bq.1 hx with rfl|hx
   ·exact⟨d,h6⟩
   ·exact g x hx
theorem ZI (x:Pc):∀u∈DZ x,u.oneCell'=true:=λy hy=>by
 simp[DZ]at hy;rcases hy with rfl|rfl|rfl|rfl<;>rfl
theorem Nx:∀cs:List Pc,∀u∈CT cs,u.oneCell'=true
 | [],u,h=>by cases h
 |x::r,u,h=>by
  rw[CT]at h;rcases Bg.1 h with h|h
  ·exact ZI x u h
  ·exact Nx r u h
theorem ZJ {w:World} {N:Nat} {Y:Nat->Prop} {v:Value} {cs:List Pc} (h:Cm w N Y v cs) (x:N<=w.heap.size) (z:∀b,Y b->b<N) {a:Option Addr} {n c:Nat} {l:List Pr} (hq:QV w Y (.slice a n c) l) (hn:cs.length+l.length<=1000000000):
  ∃v2 w3,(Builtin.append_ #[23,23] 23 #[v,.slice a n c]).run prog w=.ok v2 w3/\QV w3 (λb=>Y b∨N<=b) v2 (cs.map (·.1)++l)/\w.grownBy w3 v.ownBlock:=by
 obtain⟨i0,hi,A,f,B⟩:=CE Tryz.infoPair;obtain⟨a',c',e,hl,hq⟩:=hq;simp at e;obtain⟨rfl,rfl,rfl⟩:=e;by_cases h0:l=[]
 ·subst h0;obtain⟨C,vc,hv,D,_⟩:=h.qv;refine⟨v,w,?_,by simpa using h.qv,⟨rfl,rfl,rfl,Ai _,λ_ _ _=>rfl⟩⟩;subst hv;have hle:=D.2;simp only[Ea] at hle;cases C<;>cases a<;>simp[Builtin.append_,Ga underlying23,sizeOf,typeInfo,hi,f,Builtin.lenOf,Builtin.firstCells,hle,Result.andThen,storeCells,loadCells,loadCellsFrom]
 ·obtain⟨b,o,rfl,ak,hc⟩:=hq.resolve_left h0;obtain⟨aa,i,E,m⟩:=Nw l b o hc;have hlen:l.length=aa.length:=by rw[<-i]; simp
  have hp:0<aa.length:=by rw[<-hlen]; exact Fp.2 h0
  have F:=h.own.lt;obtain⟨g,cap,w3,G,ho,d,q,al⟩:=run_append_lies (P:=prog) (w:=w) 23 23 N 38 i0 _ 4 80 underlying23 hi A f B rfl (by decide) v cs.length (CT cs) h.own
   (zD b o) aa.length c (CT aa) (Ns aa) (λj u hj=>by have:=E j u hj; by_cases r:j=0; subst r; simpa [Addr.add] using this; simpa [Addr.add,r] using this) (Nx aa) hp (by unfold maxLen; omega) (by omega) x _ rfl
  have ab:Cm w3 N Y (.slice (some (zD g 0)) (cs.length+aa.length) cap) (cs++aa):=by
   have an:N<=g:=by
    rcases q with e|e
    ·exact(F g e).1
    ·omega
   have s:∀b,Y b->some b≠v.ownBlock:=λb hb=>h.ne (z b hb);refine⟨by rw[Lw]; simpa using ho,λy hy=>?_⟩;rcases Bg.1 hy with hy|hy
   ·have t:∀(a:Option Addr) (k:List Tm),Sl w (λb=>Y b∨(N<=b/\some b≠v.ownBlock)) a k->Sl w3 (λb=>Y b∨(N<=b/\some b≠(Value.slice (some (zD g 0)) (cs.length+aa.length) cap).ownBlock)) a k:=λa k h0=>by
     have h1:Sl w (λb=>(Y b∨(N<=b/\some b≠v.ownBlock))/\b<w.heap.size) a k:=h0.mono λb h1 h2=>⟨h1,h2⟩;refine(h1.kept λb hx=>d.block b hx.2 ?_).mono λb hx _=>?_
     ·rcases hx.1 with hy|hy
      ·exact s b hy
      ·exact hy.2
     ·rcases hx.1 with hy|hy
      ·exact Ad hy
      ·refine Ae ⟨hy.1,λe=>?_⟩;simp[Value.ownBlock]at e;rcases q with e'|e'
       ·exact hy.2 (by rw[e',e])
       ·omega
    exact⟨t _ _ (h.row y hy).1,t _ _ (h.row y hy).2⟩
   ·have new:∀(a:Option Addr) (k:List Tm),Sl w Y a k->Sl w3 (λb=>Y b∨(N<=b/\some b≠(Value.slice (some (zD g 0)) (cs.length+aa.length) cap).ownBlock)) a k:=λa k h0=>by
     have h1:Sl w (λb=>Y b/\b<w.heap.size) a k:=h0.mono λb h1 h2=>⟨h1,h2⟩;exact(h1.kept λb hx=>d.block b hx.2 (s b hx.1)).mono λb hx _=>Ad hx.1
    exact⟨new _ _ (m y hy).1,new _ _ (m y hy).2⟩
  refine⟨_,w3,by rw[hlen]; exact G,?_,d⟩;have:=ab.qv;rw[Cr,i]at this;exact this
theorem ZK (b o n a:Nat) (hn:n+1<=a) (w':World):Sem.run prog (Instr.slice 23 (.slice (some (zD b o)) (n+1) a) (some (zA 1)) none none) w'=.ok (.slice (if a=1 then some (zD b o) else some ⟨b,o+4,none⟩) n (a-1)) w':=by
 have ab:(1:Int)<=(n:Int)+1:=by omega
 have c:(1:Int)<=((n+1:Nat):Int):=by omega
 rw[run_slice_l (P:=prog) (ht:=underlying23) (h0:=by omega) (h1:=c)];by_cases aa:a=1
 ·subst aa;simp[go_sem,sliced]
 ·simp[go_sem,sliced,aa]
theorem QV.tail {w:World} {X:Nat->Prop} {b o n a:Nat} {p:Pr} {l:List Pr} (h:QV w X (.slice (some (zD b o)) n a) (p::l)):QV w X (.slice (if a=1 then some (zD b o) else some ⟨b,o+4,none⟩) l.length (a-1)) l:=by
 obtain⟨a',c',e,⟨aa,ab⟩,hq⟩:=h;simp at e;obtain⟨rfl,rfl,rfl⟩:=e;simp only[Bu] at aa ab;refine⟨_,_,rfl,⟨by omega,by omega⟩,?_⟩;by_cases h0:l=[]
 ·exact Ad h0
 ·have hp:0<l.length:=Fp.2 h0;rcases hq with hq|⟨b',o',e,d,hq⟩
  ·cases hq
  ·simp at e;obtain⟨rfl,rfl⟩:=e;refine Ae ⟨b,o+4,by rw[Aj (by omega)],d,λi hi=>?_⟩;have c:=hq (i+1) (by simpa using hi);simp only[Gw] at c;rw[show o+(i+1)*4=o+4+i*4 by omega]at c;exact c
