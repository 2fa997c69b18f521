import Derived.Test.YthaililgaompeaaGreatDoorZGTopNewmanOwn
import Derived.Deep.RegionHeld
import Derived.RangeFuncNested
import Derived.RangeFuncBound
import Derived.RangeFuncCalls
import Derived.RangeFuncLeaves
import Derived.RangeFuncWrites
import Derived.Shelf.Abstract
import Derived.Shelf.RegionOpen
import Derived.OwnWalkIn
import Derived.TacticsInMore
import Derived.LoopNIn
import Derived.LoopIn
namespace Go.Proofs.YthaililgaompeaaGreatDoor
set_option linter.all false
set_option maxRecDepth 20000
set_option maxHeartbeats 8000000
open Go.RowKit Go.Proofs.Tryz
variable {p x:ByteArray} {l:List Tm} {N S a b c c1 c2 c3 c5 cap d e f g i j k n o q:Nat} {w w' w1 w2 w3:World} {h:List (ByteArray×Tm)} {v v1 v2 v3 v4 v5 v6:Value} {Q X Y:Nat->Prop} {s t:List Bd} {u:Tm}
theorem Ua (h:k<l.length):Bu p (l.take (k+1))=(Bu p (l.take k)||Bu p [l[k]]):=by
 unfold Bu;rw[Mi l k h,KE]
theorem gJ (h:k<l.length) (h0:Bu p [l[k]]=true):Bu p l=true:=by
 have e:l=l.take (k+1)++l.drop (k+1):=(DM _ _).symm;have h1:=Ua (p:=p) h;rw[h0,Bool.or_true]at h1;unfold Bu at h1 ⊢;rw[e,Mh,KE,h1];rfl
theorem gK (s:ByteArray) (l:List Tm) (p:ByteArray):Bu p [⟨s,l⟩]=((s.toList==p.toList)||Bu p l):=by
 unfold Bu;simp[Ap]
def gM (p:ByteArray) (l:List Tm) (w:World) (v:Value) (wr:World):Prop:=∃k:Nat,k<=l.length/\v=zA k/\Bu p (l.take k)=false/\Below w.heap.size w wr
theorem gO (P:Nat) (p:ByteArray) (l:List Tm) (a:Option Addr) (c:Nat) (w:World) (X:Nat->Prop) (hs:Sl w X a l)
  (aa:∀x∈l,∀a' c' w',Below w.heap.size w w'->Sl w' X a' x.args->Calls prog 96 #[.agg (zF x a' c'),zC P] w' λe t=>e=.returned (.bool (Bu p [x]))/\Below w'.heap.size w' t):
  Calls prog 116 #[.slice a l.length c,.func (.func 96) #[] #[zC P]] w λe w'=>(∃i:Int,e=.returned (zA i)/\decide (0<=i)=Bu p l)/\Below w.heap.size w w':=by
 have u:=Aa hs;have z:=Aa aa;have hl:=hs.1;clear hs aa;go_enter func116,ntmps116;go_wp2_with fail;go_loopw [8] (λv wr=>gM p l w v wr) (λv wr=>l.length-(intOf v).toNat);case atStart=>exact⟨0,Be _,rfl,by simp[Bu,Ap],Ag _ _⟩
 case round=>
  obtain⟨k,hk,rfl,j,hb⟩:=hrel;have m:=Aa j;have f:=Aa hb;clear j;by_cases d:k<l.length
  ·have ai:(k:Int)<(l.length:Int):=(by omega);obtain⟨b,o,a',c',rfl,d0,d1,hx⟩:=u.o.get hb (λ_ _ h=>h) k d;obtain⟨av,cv,n,ab⟩:=hx;simp at n;obtain⟨rfl,rfl⟩:=n;have A:=Aa (z.o l[k] (AM d) a' c' wr hb ab);have q:=Aa (Ua (p:=p) d);have B:=Aa (gJ (p:=p) d);clear ab hb;generalize l[k]=y at *;go_wp2_with fail;refine A.o.mono ?_;rintro e w1 ⟨rfl,r⟩;have s:=Aa (f.o.trans (r.mono f.o.size));clear r;cases hm:Bu p [y] with
   |true=>have g:=Aa (B.o hm);go_wp2_with fail;go_ret;exact⟨⟨_,rfl,by rw[g.o]; simp⟩,s.o⟩
   |false=>
    rw[hm]at q;go_wp2_with fail;go_roundw
    case rel=>exact⟨k+1,by omega,by go_num,by rw[q.o,m.o]; rfl,s.o⟩
    case measure=>simp[intOf]; omega
  ·have g:Hid (false=Bu p l):=Aa (by rw[<-m.o,BH (by omega)]);go_wp2_with fail;go_ret;exact⟨⟨-1,rfl,by rw[<-g.o]; decide⟩,f.o⟩
theorem gP (P:Nat) (p:ByteArray) (l:List Tm) (a:Option Addr) (c:Nat) (w:World) (X:Nat->Prop) (hs:Sl w X a l)
  (aa:∀x∈l,∀a' c' w',Below w.heap.size w w'->Sl w' X a' x.args->Calls prog 96 #[.agg (zF x a' c'),zC P] w' λe b=>e=.returned (.bool (Bu p [x]))/\Below w'.heap.size w' b):
  Calls prog 95 #[.slice a l.length c,.func (.func 96) #[] #[zC P]] w λe w'=>e=.returned (.bool (Bu p l))/\Below w.heap.size w w':=by
 have d:=Aa (gO P p l a c w X hs aa);clear hs aa;go_enter func95,ntmps95;go_wp2_with fail;refine d.o.mono ?_;rintro e w1 ⟨⟨i,rfl,hi⟩,ab⟩;have f:=Aa hi;have g:=Aa ab;clear hi ab;go_wp2_with fail;go_ret;exact⟨Ck (by rw[<-f.o]),g.o⟩
theorem Ub (n:ByteArray) (t:Tm):∀(b:Value) (w:World) (X:Nat->Prop),TV w X b t->
  Calls prog 69 #[b,.string n] w λe w'=>e=.returned (.bool (Bu n [t]))/\Below w.heap.size w w':=by
 induction t using Tm.ind with
 |h s l f=>
  intro b w X ht;obtain⟨a,c,rfl,hs⟩:=ht;have q:=Aa f;have r:=Aa hs;have ab:=Aa (gK s l n);clear f hs;(try dsimp only[zF]);(try dsimp only[zG]);(try dsimp only[zE]);(try dsimp only);have aa:Hid (Below w.heap.size w ((w.alloc (zh #[.string s,.slice a l.length c] 31)).alloc (zh #[.string n] 9))):=EJ _ _;have PA:=Aa ((Ac.new w #[.string s,.slice a l.length c] 31).alloc (zh #[.string n] 9));have g:Hid (Ac ((w.alloc (zh #[.string s,.slice a l.length c] 31)).alloc (zh #[.string n] 9)) (w.heap.size+1) #[.string n] 9):=by
   have h:=Ac.new (w.alloc (zh #[.string s,.slice a l.length c] 31)) #[.string n] 9;unfold Hid;simpa using h
  have al:=@hmq prog;cases hm:(s.toList==n.toList) with
  |true=>have d:Hid (true=Bu n [⟨s,l⟩]):=Aa (by rw[ab.o,hm];rfl);go_enter func69,ntmps69;go_wp2_with fail;go_ret;exact⟨Ck d.o,aa.o⟩
  |false=>
   have d:Hid (Bu n l=Bu n [⟨s,l⟩]):=Aa (by rw[ab.o,hm];rfl);go_enter func69,ntmps69;go_wp2_with fail;generalize (w.alloc (zh #[.string s,.slice a l.length c] 31)).alloc (zh #[.string n] 9)=w3 at *;have u:=Aa (gP (w.heap.size+1) n l a c w3 X (r.o.later aa.o) (λx hx a' c' w' i j=>by
    have v:=Aa (g.o.below i g.o.lt);have b0:∀o,(w'.alloc o).cell? (zD (w.heap.size+1) 0)=some (.string n):=λo=>(v.o.alloc o).cell 0;have y:=Aa (q.o x hx (.agg (zF x a' c')) (w'.alloc (ze x a' c')) X ⟨_,_,rfl,j.later ((Ag _ _).alloc (Al _) _)⟩);clear j i;go_enter func96,ntmps96;go_wp2_with fail;refine y.o.mono ?_;rintro e w1 ⟨rfl,k⟩;have z:=Aa (((Ag w'.heap.size w').alloc (Al _) _).trans (k.mono (by simp)));clear k;go_wp2_with fail;go_ret;exact⟨rfl,z.o⟩))
   refine u.o.mono ?_;rintro e w4 ⟨rfl,m⟩;have A:=Aa (aa.o.trans (m.mono aa.o.size));clear m;go_wp2_with fail;go_ret;exact⟨Ck d.o,A.o⟩
def Uc (ta tb:Tm) (s1:ByteArray) (a1:Option Addr) (n1:Nat) (s2:ByteArray) (a2:Option Addr) (n2:Nat) (ok f':Bool) (Z:Nat->Prop) (w':World):Prop:=
 (ok=true/\f'=false/\s1=ta.name/\n1=ta.args.length/\s2=tb.name/\n2=tb.args.length/\Ab [ta]<=2000/\Ab [tb]<=2000/\Sl w' Z a1 ta.args/\Sl w' Z a2 tb.args)∨(ok=false/\(f'=true∨2000<Ab [ta]∨2000<Ab [tb]))
def gQ (S q:Nat) (td:Value) (h:List (ByteArray×Tm)) (ta tb:Tm) (X Y:Nat->Prop) (w:World) (e:Ending) (w':World):Prop:=
 ∃(s1:ByteArray) (a1:Option Addr) (n1 c1:Nat) (s2:ByteArray) (a2:Option Addr) (n2 c2:Nat) (ok f':Bool) (Y':Nat->Prop),e=.returned (.tuple #[.agg #[.string s1,.slice a1 n1 c1],.agg #[.string s2,.slice a2 n2 c2],.bool ok])/\BX S q td h f' Y' w'/\(∀b,Y' b->Y b∨w.heap.size<=b)/\Ak (BZ S q) w w'/\Uc ta tb s1 a1 n1 s2 a2 n2 ok f' (λb=>(X b/\b<w.heap.size)∨w.heap.size<=b) w'
theorem gR (w:World):w.drew.heap=w.heap:=rfl
theorem Nb {h:Nat} (h1:b≠c1) (h2:b≠c2) (h3:b≠c3) (j:b≠a) (k:b≠c5) (h6:b≠c):
  ((((((w.setCell (zD c1 d) v1).setCell (zD c2 e) v2).setCell (zD c3 f) v3).setCell (zD a g) v4).setCell (zD c5 h) v5).setCell (zD c i) v6).drew.heap[b]? = w.heap[b]? := by
 rw[gR];rw[An _ _ _ _ (by simpa using h6),An _ _ _ _ (by simpa using k),An _ _ _ _ (by simpa using j),An _ _ _ _ (by simpa using h3),An _ _ _ _ (by simpa using h2),An _ _ _ _ (by simpa using h1)]
theorem Ud {a:World} (h:Ak Q a w) (h1:a.heap.size<=c1) (h2:a.heap.size<=c2) (h3:a.heap.size<=c3) (k:a.heap.size<=b) (l:a.heap.size<=c5) (h6:a.heap.size<=c):
  Ak Q a ((((((w.setCell (zD c1 d) v1).setCell (zD c2 e) v2).setCell (zD c3 f) v3).setCell (zD b g) v4).setCell (zD c5 i) v5).setCell (zD c j) v6).drew:=
 ((((((h.setNew h1 _ _).setNew h2 _ _).setNew h3 _ _).setNew k _ _).setNew l _ _).setNew h6 _ _).drew
theorem gS (S q:Nat) (i:Value) (h:List (ByteArray×Tm)) (g:BN h) (hN:GH h) (p:Pr) (he:Af [p.l]=0/\Af [p.r]=0) (j:Nat) (hj:j<=h.length) (hid:j=h.length->(Ai (Ar h) p.l=p.l/\Ai (Ar h) p.r=p.r)) (aJ:Ab [p.l]<=2000/\Ab [p.r]<=2000) (a1:Option Addr) (c1:Nat) (a2:Option Addr) (c2:Nat) (w:World) (X Y:Nat->Prop) (aK:∀b,X b->¬BZ S q b) (aL:Sl w X a1 p.l.args) (aM:Sl w X a2 p.r.args) (aN:BX S q i h false Y w):
  Calls prog 136 #[zC S,.agg #[.string p.l.name,.slice a1 p.l.args.length c1,.string p.r.name,.slice a2 p.r.args.length c2,zA j]] w λe w'=>gQ S q i h (Ai (Ar h) p.l) (Ai (Ar h) p.r) X Y w e w':=by
 have aO:=Aa aL;have aP:=Aa aM;have HE:=Aa aN;have Z:=Aa aK;have aQ:=Aa hid;have aR:=Aa aJ;obtain⟨⟨L,M,hM,aS⟩,bn,bo,hY,hg⟩:=aN;have bd:=M.lt;have aT:=hM.lt;have HY:=Aa hY;have bf:Hid (L.length=h.length):=aS.1;have bg:=Aa hM;have HB:=Aa M;clear aL aM aK hid aJ aS hg hY hM;have s1:∀o o' k,(((w.alloc o).alloc o').alloc k).cell? (zD S 1)=some (.map (some q)):=λo o' k=>(((M.alloc o).alloc o').alloc k).cell 1;have hlen:∀o o' k,Sem.run prog (Builtin.len_ #[174] 3 #[.map (some q)]) (((w.alloc o).alloc o').alloc k).drew=.ok (zA (h.length:Int)) (((w.alloc o).alloc o').alloc k).drew:=λo o' k=>by
  have h1:AO (((w.alloc o).alloc o').alloc k).drew q L:=bg.o.below (((((Ag w.heap.size w).alloc (Al _) o).alloc (by simp) o').alloc (by simp; omega) k).drew) aT;rw[LB underlying174 h1,bf.o]
 clear M;by_cases t:j=h.length
 ·have bh:((j:Int)==(h.length:Int))=true:=by rw[t]; simp
  have n:=Aa (aQ.o t);have HJ:=Aa t;clear t;go_enter func136,ntmps136;go_wp2_with fail;go_region
  go_wp2_with fail;go_region
  all_goals go_wp2_with fail
  all_goals
   refine Aq (v:=.tuple #[.agg (zF p.l a1 c1),.agg (zF p.r a2 c2),.bool true]) (by simp[results,results136,go_sem]) rfl ?_;have N:Below w.heap.size w (((w.alloc (zh #[.string p.l.name,.slice a1 p.l.args.length c1,.string p.r.name,.slice a2 p.r.args.length c2,zA j] 182)).alloc (ze p.l a1 c1)).alloc (ze p.r a2 c2)).drew.drew:=(((((Ag w.heap.size w).alloc (Al _) _).alloc (by simp) _).alloc (by simp; omega) _).drew).drew;exact⟨p.l.name,a1,p.l.args.length,c1,p.r.name,a2,p.r.args.length,c2,true,false,Y,rfl,(Dh S q i h).below HE.o N,λb hb=>Ae hb,Ak.ofBelow N,Ae ⟨rfl,rfl,by rw[n.o.1],by rw[n.o.1],by rw[n.o.2],by rw[n.o.2],by rw[n.o.1]; exact aR.o.1,by rw[n.o.2]; exact aR.o.2,by rw[n.o.1]; exact(aO.o.mono (Y:=λb=>X b/\b<w.heap.size) λb h1 h2=>⟨h1,h2⟩).later N |>.mono λb hb _=>Ae hb,by rw[n.o.2]; exact(aP.o.mono (Y:=λb=>X b/\b<w.heap.size) λb h1 h2=>⟨h1,h2⟩).later N |>.mono λb hb _=>Ae hb⟩⟩
 ·have bh:((j:Int)==(h.length:Int))=false:=FY.2 (by omega);clear t aQ;have ay:=Aa (aO.o.mono (Y:=λb=>X b/\b<w.heap.size) λb h1 h2=>⟨h1,h2⟩);have az:=Aa (aP.o.mono (Y:=λb=>X b/\b<w.heap.size) λb h1 h2=>⟨h1,h2⟩);have a6:Hid (Below w.heap.size w (((w.alloc (zh #[.string p.l.name,.slice a1 p.l.args.length c1,.string p.r.name,.slice a2 p.r.args.length c2,zA j] 182)).alloc zc).alloc zc).drew):=((((Ag w.heap.size w).alloc (Al _) _).alloc (by simp) _).alloc (by simp; omega) _).drew;have Q3:Hid (Ac (((w.alloc (zh #[.string p.l.name,.slice a1 p.l.args.length c1,.string p.r.name,.slice a2 p.r.args.length c2,zA j] 182)).alloc zc).alloc zc).drew w.heap.size #[.string p.l.name,.slice a1 p.l.args.length c1,.string p.r.name,.slice a2 p.r.args.length c2,zA j] 182):=((Ac.new w _ _).alloc _).alloc _;have A3:Hid (Ac (((w.alloc (zh #[.string p.l.name,.slice a1 p.l.args.length c1,.string p.r.name,.slice a2 p.r.args.length c2,zA j] 182)).alloc zc).alloc zc).drew (w.heap.size+1) zd 31):=(by have h1:=(Ac.new (w.alloc (zh #[.string p.l.name,.slice a1 p.l.args.length c1,.string p.r.name,.slice a2 p.r.args.length c2,zA j] 182)) zd 31).alloc zc;rw[Cp]at h1;exact h1);have B3:Hid (Ac (((w.alloc (zh #[.string p.l.name,.slice a1 p.l.args.length c1,.string p.r.name,.slice a2 p.r.args.length c2,zA j] 182)).alloc zc).alloc zc).drew (w.heap.size+1+1) zd 31):=(by have h1:=Ac.new ((w.alloc (zh #[.string p.l.name,.slice a1 p.l.args.length c1,.string p.r.name,.slice a2 p.r.args.length c2,zA j] 182)).alloc zc) zd 31;rw[Cp,Cp]at h1;exact h1);have z3:(((w.alloc (zh #[.string p.l.name,.slice a1 p.l.args.length c1,.string p.r.name,.slice a2 p.r.args.length c2,zA j] 182)).alloc zc).alloc zc).drew.heap.size=w.heap.size+3:=by simp
  go_enter func136,ntmps136;go_wp2_with fail;go_region
  go_wp2_with fail;generalize (((w.alloc (zh #[.string p.l.name,.slice a1 p.l.args.length c1,.string p.r.name,.slice a2 p.r.args.length c2,zA j] 182)).alloc zc).alloc zc).drew=w3 at *;refine(Pv S q i h g hN p.l he.1 a1 c1 w3 _ Y false (λb hb=>Z.o b hb.1) (ay.o.later a6.o) ((Dh S q i h).below HE.o a6.o)).mono ?_;rintro e f ⟨y,a,c,ok,u,Y',rfl,aU,ab,a7,hx,x,z,A⟩;have B:∀b,BZ S q b->b<w.heap.size:=λb hb=>by rcases hb with rfl|rfl; exact bd; exact aT
  have aV:Hid (Ak (BZ S q) w f):=(Ak.ofBelow a6.o).trans hx;have Q4:=Aa (Q3.o.exq hx (λh=>by have:=B _ h; omega));have C:=Aa (A3.o.exq hx (λh=>by have:=B _ h; omega));have D:=Aa (B3.o.exq hx (λh=>by have:=B _ h; omega));have aW:Hid (w.heap.size+3<=f.heap.size):=Aa (by have:=hx.size;omega);have O:Hid (∀b,Y' b->Y b∨w.heap.size+3<=b):=λb hb=>(ab b hb).imp id λh=>by omega
  have aX:=Aa aU;have a8:Hid (Sl f (λb=>w.heap.size+3<=b/\b<f.heap.size) a y.args):=x.mono λb hb h2=>⟨by omega,h2⟩;have aA:=Aa z;have aB:=Aa A;have aC:=Aa B;clear ab hx x z A aU a7 B;have q2:=Q4.o.c2;have q3:=Q4.o.c3;have x0:=C.o.c0;have x1:=C.o.c1;have xf:=C.o.frozen;have y0:=D.o.c0;have y1:=D.o.c1;cases ok with
  |true=>
   obtain⟨rfl,aY,aZ⟩:=aA.o rfl;have P:=Aa aY;have bj:=Aa aZ;clear aY aZ aA aB;have aD:∀b,b≠w.heap.size+1->((f.setCell (zD (w.heap.size+1) 0) (.string y.name)).setCell (zD (w.heap.size+1) 1) (.slice a y.args.length c)).heap[b]? = f.heap[b]? := λb hb=>by
    rw[An _ _ _ _ (by simpa using hb),An _ _ _ _ (by simpa using hb)]
   have A5:Hid (Ac ((f.setCell (zD (w.heap.size+1) 0) (.string y.name)).setCell (zD (w.heap.size+1) 1) (.slice a y.args.length c)) (w.heap.size+1) (zF y a c) 31):=Aa (by have:=(C.o.set 0 (.string y.name)).set 1 (.slice a y.args.length c);simpa using this);have B5:=Aa ((D.o.setOther (b':=w.heap.size+1) 0 (.string y.name) (by omega)).setOther (b':=w.heap.size+1) 1 (.slice a y.args.length c) (by omega));have bk:=Aa ((Dh S q i h).keep _ _ _ _ aX.o λb hb=>aD b (λe=>by rcases O.o b hb with h1|h1; have:=HY.o b h1; omega; omega));have ba:=Aa ((aV.o.setNew (b:=w.heap.size+1) (by omega) 0 (.string y.name)).setNew (b:=w.heap.size+1) (by omega) 1 (.slice a y.args.length c));have aE:=Aa (a8.o.kept λb hb=>aD b (by omega));have aF:Hid (Sl ((f.setCell (zD (w.heap.size+1) 0) (.string y.name)).setCell (zD (w.heap.size+1) 1) (.slice a y.args.length c)) (λb=>X b/\b<w.heap.size) a2 p.r.args):=az.o.exq ba.o (λb hb=>Z.o b hb.1);have bp:((f.setCell (zD (w.heap.size+1) 0) (.string y.name)).setCell (zD (w.heap.size+1) 1) (.slice a y.args.length c)).heap.size=f.heap.size:=(by simp[World.setCell]);go_wp2_with fail;clear x0 x1 y0 y1 q2 q3 aD xf;generalize ((f.setCell (zD (w.heap.size+1) 0) (.string y.name)).setCell (zD (w.heap.size+1) 1) (.slice a y.args.length c))=w5 at *;refine(Pv S q i h g hN p.r he.2 a2 c2 w5 _ Y' false (λb hb=>Z.o b hb.1) aF.o bk.o).mono ?_;rintro e R ⟨d,m,s,ok,u,Y2,rfl,bb,ab,a7,hx,x,z,A⟩;have bl:Hid (Ak (BZ S q) w R):=ba.o.trans hx;have T:=Aa (A5.o.exq hx (λh=>by have:=aC.o _ h; omega));have U:=Aa (B5.o.exq hx (λh=>by have:=aC.o _ h; omega));have bq:Hid (f.heap.size<=R.heap.size):=Aa (by have:=hx.size;omega);have ag:Hid (∀b,Y2 b->Y b∨w.heap.size+3<=b):=λb hb=>by
    rcases ab b hb with h1|h1
    ·exact O.o b h1
    ·have:=aW.o; right; omega
   have bm:=Aa bb;have aG:Hid (Sl R (λb=>w.heap.size+3<=b) a y.args):=(aE.o.exq hx (λb hb h=>by have:=aC.o _ h; omega)).mono λb hb _=>hb.1;have aH:Hid (Sl R (λb=>w.heap.size+3<=b) m d.args):=x.mono λb hb h2=>by have:=aW.o; omega
   have aI:Hid (∀W:World,Sl W (λb=>w.heap.size+3<=b) a y.args->Sl W (λb=>w.heap.size+3<=b) m d.args->Uc (Ai (Ar h) p.l) (Ai (Ar h) p.r) y.name a y.args.length d.name m d.args.length ok u (λb=>(X b/\b<w.heap.size)∨w.heap.size<=b) W):=λW g1 g2=>by
    cases ok with
    |true=>obtain⟨e1,V,e3⟩:=z rfl;exact Ae ⟨rfl,e1,by rw[P.o],by rw[P.o],by rw[V],by rw[V],by rw[<-P.o]; exact bj.o,by rw[<-V]; exact e3,by rw[<-P.o]; exact g1.mono λb hb _=>Ad (by omega),by rw[<-V]; exact g2.mono λb hb _=>Ad (by omega)⟩
    |false=>
     rcases A rfl with h1|h1
     ·exact Ad ⟨rfl,Ae h1⟩
     ·exact Ad ⟨rfl,Ad (Ad h1)⟩
   clear ab hx x z A bb a7;have x0:=T.o.c0;have x1:=T.o.c1;have xf:=T.o.frozen;have y0:=U.o.c0;have y1:=U.o.c1;have yf:=U.o.frozen;have bc:∀b,(Y2 b∨w.heap.size+3<=b)->b≠w.heap.size+1/\b≠w.heap.size+1+1:=λb hb=>by
    have h1:Y b∨w.heap.size+3<=b:=hb.elim (ag.o b) Ad;rcases h1 with h1|h1
    ·have:=HY.o b h1; omega
    ·omega
   have aa:=Aa bc;clear bc;have E:=Aa ((((((T.o.setOther (b':=w.heap.size+1+1) 0 (.string d.name) (by omega)).setOther (b':=w.heap.size+1+1) 1 (.slice m d.args.length s) (by omega)).set 0 (.string y.name)).set 1 (.slice a y.args.length c)).setOther (b':=w.heap.size+1+1) 0 (.string d.name) (by omega)).setOther (b':=w.heap.size+1+1) 1 (.slice m d.args.length s) (by omega));have F:=Aa ((((((U.o.set 0 (.string d.name)).set 1 (.slice m d.args.length s)).setOther (b':=w.heap.size+1) 0 (.string y.name) (by omega)).setOther (b':=w.heap.size+1) 1 (.slice a y.args.length c) (by omega)).set 0 (.string d.name)).set 1 (.slice m d.args.length s));have G:=E.o.cell 0;have H:=E.o.cell 1;have I:=F.o.cell 0;have J:=F.o.cell 1;simp only[List.setIfInBounds_toArray,List.set_cons_zero,List.set_cons_succ,D7,Ei,Et] at G H I J;go_wp2_with fail;go_region
   all_goals go_wp2_with fail
   all_goals
    refine Aq (v:=.tuple #[.agg (zF y a c),.agg (zF d m s),.bool ok]) (by simp[results,results136,go_sem,G,H,I,J]) rfl ?_;refine⟨y.name,a,y.args.length,c,d.name,m,d.args.length,s,ok,u,Y2,rfl,(Dh S q i h).keep _ _ _ _ bm.o (λb hb=>Nb (aa.o b (Ae hb)).2 (aa.o b (Ae hb)).2 (aa.o b (Ae hb)).1 (aa.o b (Ae hb)).1 (aa.o b (Ae hb)).2 (aa.o b (Ae hb)).2),λb hb=>(ag.o b hb).imp id λh=>by omega,Ud bl.o (by omega) (by omega) (by omega) (by omega) (by omega) (by omega),aI.o _ (aG.o.kept λb hb=>Nb (by omega) (by omega) (by omega) (by omega) (by omega) (by omega)) (aH.o.kept λb hb=>Nb (by omega) (by omega) (by omega) (by omega) (by omega) (by omega))⟩
  |false=>
   have yf:=D.o.frozen;have aa:Hid (∀b,Y' b->b≠w.heap.size+1/\b≠w.heap.size+1+1):=λb hb=>by
    rcases O.o b hb with h1|h1
    ·have:=HY.o b h1; omega
    ·omega
   have aI:Hid (u=true∨2000<Ab [Ai (Ar h) p.l]):=aB.o rfl;clear aA aB;have E:=Aa ((((((C.o.set 0 (.string y.name)).set 1 (.slice a y.args.length c)).set 0 (.string y.name)).set 1 (.slice a y.args.length c)).setOther (b':=w.heap.size+1+1) 0 (.string ⟨#[]⟩) (by omega)).setOther (b':=w.heap.size+1+1) 1 zB (by omega));have F:=Aa ((((((D.o.setOther (b':=w.heap.size+1) 0 (.string y.name) (by omega)).setOther (b':=w.heap.size+1) 1 (.slice a y.args.length c) (by omega)).setOther (b':=w.heap.size+1) 0 (.string y.name) (by omega)).setOther (b':=w.heap.size+1) 1 (.slice a y.args.length c) (by omega)).set 0 (.string ⟨#[]⟩)).set 1 zB);have G:=E.o.cell 0;have H:=E.o.cell 1;have I:=F.o.cell 0;have J:=F.o.cell 1;simp only[List.setIfInBounds_toArray,List.set_cons_zero,List.set_cons_succ,D7,Ei,Et] at G H I J;go_wp2_with fail;go_region
   all_goals go_wp2_with fail
   all_goals
    refine Aq (v:=.tuple #[.agg (zF y a c),.agg zd,.bool false]) (by simp only[results,results136]; simp[go_sem,G,H,I,J]) rfl ?_;refine⟨y.name,a,y.args.length,c,⟨#[]⟩,none,0,0,false,u,Y',rfl,(Dh S q i h).keep _ _ _ _ aX.o (λb hb=>Nb (aa.o b hb).1 (aa.o b hb).1 (aa.o b hb).1 (aa.o b hb).1 (aa.o b hb).2 (aa.o b hb).2),λb hb=>(O.o b hb).imp id λh=>by omega,Ud aV.o (by omega) (by omega) (by omega) (by omega) (by omega) (by omega),Ad ⟨rfl,?_⟩⟩;rcases aI.o with h1|h1
    ·exact Ae h1
    ·exact Ad (Ae h1)
theorem Ue {p:ByteArray×Tm} (hi:i<h.length) (aa:i<(h++[p]).length) (hj:j<=h.length):stood (h++[p]) i j aa=stood h i j hi:=by
 unfold stood;rw[Hl hj,JB hi]
theorem gU {t:Tm} (g:BN h) (m:Ia (Ar h) x t) (hi:h.length<(h++[(x,t)]).length):stood (h++[(x,t)]) h.length (h.length+1) hi=t:=by
 have g2:=g.snoc m;have h1:=Ke g2 hi;have a:(h++[(x,t)])[h.length].1=x:=by simp
 rw[a]at h1;have h2:(h++[(x,t)]).length=h.length+1:=by simp
 unfold stood;rw[a,show(h++[(x,t)]).take (h.length+1)=h++[(x,t)] from BH (by omega),Je,M8 g.all.1 m.2.1 x];have h3:As (Ar h) x=none:=by
  cases b:As (Ar h) x with
  |none=>rfl
  |some u=>obtain⟨d,hd,e,_⟩:=FJ b;exact absurd e (m.2.1 d hd)
 rw[Gd (Ar h),h3];show Ai [⟨x,t⟩] ⟨x,[]⟩=t;exact JK (by simp[As])
theorem ED.snoc {Z:Nat->Prop} (g:BN h) {L:List (ByteArray×Value)} (e:ED w Z h L) {t:Tm} (m:Ia (Ar h) x t) {a:Option Addr} (hs:Sl w Z a t.args):ED w Z (h++[(x,t)]) (L++[(x,.agg #[.string t.name,.slice a t.args.length c,zA (h.length:Int)])]):=by
 have k:=e.1;refine⟨by simp[k],λi hi af=>?_⟩;by_cases b:i<h.length
 ·have aa:i<L.length:=by omega
  rw[JB b,JB aa];obtain⟨d,j,a1,c1,f,n,o⟩:=e.2 i b aa;have ab:max j (i+1)<=h.length:=Nat.max_le.2 ⟨f,b⟩;refine⟨d,j,a1,c1,by simp; omega,?_,?_⟩
  ·rw[Ue b hi ab]; exact n
  ·rw[Ue b hi ab]; exact o
 ·have q:i=h.length:=by simp at hi; omega
  subst q;have d:(h++[(x,t)])[h.length]=(x,t):=by simp
  have f:(L++[(x,Value.agg #[.string t.name,.slice a t.args.length c,zA (h.length:Int)])])[h.length]=(x,.agg #[.string t.name,.slice a t.args.length c,zA (h.length:Int)]):=by simp[<-k]
  rw[d,f];have l:=gU g m hi;refine⟨rfl,h.length,a,c,by simp,?_,?_⟩
  ·rw[Nat.max_eq_right (by omega),l]
  ·rw[Nat.max_eq_right (by omega),l]; exact hs
def gV (S q:Nat) (td:Value) (h:List (ByteArray×Tm)) (nm:ByteArray) (t:Tm) (X Y:Nat->Prop) (w:World) (e:Ending) (w':World):Prop:=
 Ak (BZ S q) w w'/\((t.name=nm/\e=.returned (zA 0)/\BX S q td h false Y w')∨(t.name≠nm/\Bu nm [t]=true/\e=.returned (zA 6)/\BX S q td h false Y w')∨
  (t.name≠nm/\Bu nm [t]=false/\e=.returned (zA 0)/\BX S q td (h++[(nm,t)]) false (λb=>Y b∨(X b/\b<w.heap.size)) w'))
theorem Uf (S q:Nat) (k:Value) (h:List (ByteArray×Tm)) (g:BN h) (nm:ByteArray) (t:Tm) (B:t.name≠nm->Bu nm [t]=false->Ia (Ar h) nm t) (a:Option Addr) (c:Nat) (w:World) (X Y:Nat->Prop) (C:∀b,X b->¬BZ S q b) (hs:Sl w X a t.args) (D:BX S q k h false Y w):
  Calls prog 137 #[zC S,.string nm,.agg (zF t a c)] w λe w'=>gV S q k h nm t X Y w e w':=by
 have E:=Aa D;have F:=Aa hs;have G:=Aa C;have ah:=Aa B;obtain⟨⟨L,H,r,s⟩,a1,a6,I,hg⟩:=D;have a7:=H.lt;have a8:=r.lt;have J:=Aa I;have aA:Hid (L.length=h.length):=s.1;have M:=Aa s;have N:=Aa r;have O:=Aa H;clear hs C s hg I r B;by_cases f:t.name=nm
 ·have aB:=KO f;have m:=Aa f;clear f;go_enter func137,ntmps137;go_wp2_with fail;go_ret;exact⟨(Ak.refl _ _).alloc _,Ae ⟨m.o,rfl,(Dh S q k h).below E.o ((Ag _ _).alloc (Al _) _)⟩⟩
 ·have aB:=Oe f;have m:=Aa f;clear f;have R:Below w.heap.size w (w.alloc (ze t a c)):=(Ag _ _).alloc (Al _) _;have u:=Aa R;have T1:=Aa (Ac.new w (zF t a c) 31);have aH:(w.alloc (ze t a c)).heap.size=w.heap.size+1:=by simp
  clear R;go_enter func137,ntmps137;go_wp2_with fail;generalize (w.alloc (ze t a c))=w1 at *;refine(Ub nm t _ w1 X ⟨a,c,rfl,F.o.later u.o⟩).mono ?_;rintro e w2 ⟨rfl,hb2⟩;have j:=Aa (u.o.trans (hb2.mono u.o.size));have T:=Aa (T1.o.below hb2 (by omega));have aC:Hid (w.heap.size+1<=w2.heap.size):=Aa (by have:=hb2.size;omega);clear hb2;cases ho:Bu nm [t] with
  |true=>go_wp2_with fail;go_ret;exact⟨Ak.ofBelow j.o,Ad (Ae ⟨m.o,ho,rfl,(Dh S q k h).below E.o j.o⟩)⟩
  |false=>
   have HO:=Aa ho;have aa:=ah.o m.o ho;have aD:=Aa aa;have U:=Aa (O.o.below j.o a7);have s1:w2.cell? (zD S 1)=some (.map (some q)):=U.o.cell 1;have t0:=T.o.c0;have t1:=T.o.c1;have v:AO w2.drew q L:=N.o.below (j.o.drew) a8;have hlen:Sem.run prog (Builtin.len_ #[174] 3 #[.map (some q)]) w2.drew=.ok (zA (h.length:Int)) w2.drew:=(by rw[LB underlying174 v,aA.o]);have ab:AG L nm=none:=M.o.none λi hi e=>by
    obtain⟨d,hd,e1⟩:=(g.bound h.length (Al _) h[i].1).2 ⟨i,hi,hi,rfl⟩;rw[D8]at hd;exact aa.2.1 d hd (e1.trans e)
   obtain⟨x,hrun,V,y,W,ay,az,n⟩:=Iw (P:=prog) underlying174 underlying9 v nm (.agg #[.string t.name,.slice a t.args.length c,zA (h.length:Int)]) ab;have aE:Hid (Ak (BZ S q) w x):=by
    have h1:Ak (BZ S q) w w2.drew:=Ak.ofBelow j.o.drew;exact⟨W.trans h1.os,ay.trans h1.tape,az.trans h1.output,by rw[y]; exact h1.size,λb hb f=>(n b (λe=>f (Ad e))).trans (h1.block b hb f)⟩
   have aF:Hid (BX S q k (h++[(nm,t)]) false (λb=>Y b∨(X b/\b<w.heap.size)) x):=by
    have aG:S≠q:=λe=>by
     obtain⟨es,aI,h1,_⟩:=N.o;have h2:=O.o;subst e;unfold Ac at h2;rw[h1]at h2; cases h2
    have keep:∀(Z:Nat->Prop) a l,(∀b,Z b->((Y b∨(X b/\b<w.heap.size))/\b≠S/\b≠q)/\b<w.heap.size)->Sl w Z a l->Sl x (λb=>(Y b∨(X b/\b<w.heap.size))/\b≠S/\b≠q) a l:=λZ a l z A=>(A.kept λb hb=>(n b (z b hb).1.2.2).trans (j.o.drew.block b (z b hb).2)).mono λb hb _=>(z b hb).1;refine⟨⟨_,?_,V,?_⟩,Ae a1,Ae a6,λb hb=>?_,λhf=>by cases hf⟩
    ·have h1:=U.o;unfold Ac at *;rw[n S aG];exact h1
    ·exact ED.snoc g (M.o.imp λa l A=>keep _ a l (λb hb=>⟨⟨Ae hb.1,hb.2⟩,J.o b hb.1⟩) A) aD.o (keep (λb=>X b/\b<w.heap.size) a t.args (λb hb=>⟨⟨Ad hb,λe=>G.o b hb.1 (Ae e),λe=>G.o b hb.1 (Ad e)⟩,hb.2⟩) (F.o.mono λb h1 h2=>⟨h1,h2⟩))
    ·rw[y];show b<w2.heap.size;have hb2:b<w.heap.size:=by
      rcases hb with hb|hb
      ·exact J.o b hb
      ·exact hb.2
     have:=aC.o;omega
   clear V y W ay az n v ab aa ho;go_wp2_with fail;go_region
   all_goals go_wp2_with fail
   all_goals go_ret
   all_goals exact⟨aE.o,Ad (Ad ⟨m.o,HO.o,rfl,aF.o⟩)⟩
abbrev Pc:=Pr×(Option Addr×Nat)×(Option Addr×Nat)
instance:Inhabited Pc:=⟨(⟨⟨⟨#[]⟩,[]⟩,⟨⟨#[]⟩,[]⟩⟩,(none,0),(none,0))⟩
def Ed (x:Pc):List Value:=[.string x.1.l.name,.slice x.2.1.1 x.1.l.args.length x.2.1.2,.string x.1.r.name,.slice x.2.2.1 x.1.r.args.length x.2.2.2]
def C0:List Pc->List Value
 | []=>[]
 |x::r=>Ed x++C0 r
theorem Pz (b:List Pc):∀a,C0 (a++b)=C0 a++C0 b
 | []=>rfl
 |x::r=>by rw[Bj,C0,C0,Pz b r,DN]
theorem Ug:∀a:List Pc,(C0 a).length=a.length*4
 | []=>rfl
 |x::r=>by rw[C0,Cv,Ug r]; simp[Ed]; omega
theorem Kg:∀(a:List Pc) (i:Nat) (h:i<a.length) (j:Nat),j<4->(C0 a)[i*4+j]? = (Ed a[i])[j]?
 | [],i,h,j,hj=>by simp at h
 |x::r,0,h,j,hj=>by
  rw[C0,List.getElem?_append_left (by simp[Ed]; omega)]; simp
 |x::r,i+1,h,j,hj=>by
  rw[C0,LZ (by simp[Ed]; omega)];have e:(i+1)*4+j-(Ed x).length=i*4+j:=by simp[Ed]; omega
  rw[e,Kg r i (by simpa using h) j hj];simp
structure Di (w:World) (N:Nat) (Y:Nat->Prop) (v:Value) (cs:List Pc):Prop where
 own:w.ownsRow N 34 4 v cs.length (C0 cs)
 row:∀x∈cs,Sl w (λb=>Y b∨(N<=b/\some b≠v.ownBlock)) x.2.1.1 x.1.l.args/\Sl w (λb=>Y b∨(N<=b/\some b≠v.ownBlock)) x.2.2.1 x.1.r.args
theorem Di.start (w:World) (N:Nat) (Y:Nat->Prop):Di w N Y zB []:=⟨GT w N _ 4,by simp⟩
theorem Di.below {cs:List Pc} (h:Di w N Y v cs) (hb:Below w.heap.size w w'):Di w' N Y v cs:=
 ⟨h.own.kept (w' := w') (row := none) ⟨hb.os, hb.tape, hb.output, hb.size, λj hj _ => hb.block j hj⟩ (by rcases Kz (Value.ownBlock v) with h | ⟨x, h⟩; exact Ae h; exact Ad (by rw [h]; simp)),
  λx hx=>⟨(h.row x hx).1.later hb,(h.row x hx).2.later hb⟩⟩
theorem Di.ne {cs:List Pc} (h:Di w N Y v cs) (hb:b<N):some b≠v.ownBlock:=λe=>by
 have:=(h.own.lt b e.symm).1; omega
theorem Di.push {cs:List Pc} (h:Di w N Y v cs) (hN:N<=w.heap.size) (f:∀b,Y b->b<N) (hb:Below w.heap.size w w1) {x:Pc}
  (ht:Sl w1 (λb=>Y b∨w.heap.size<=b) x.2.1.1 x.1.l.args/\Sl w1 (λb=>Y b∨w.heap.size<=b) x.2.2.1 x.1.r.args) (o:Obj) (j:w2=w1.alloc o) 
  (aa:w3.ownsRow N 34 4 (.slice (some (zD g 0)) (cs.length+1) cap) (cs.length+1) (C0 cs++Ed x)) (i:w2.grownBy w3 v.ownBlock) (ab:v.ownBlock=some g∨g=w2.heap.size):
  Di w3 N Y (.slice (some (zD g 0)) (cs.length+1) cap) (cs++[x]):=by
 subst j;have c:=h.own.lt;have ae:w1.heap.size<=(w1.alloc o).heap.size:=by simp
 have af:=hb.size;have ag:N<=g:=by
  rcases ab with e|e
  ·exact(c g e).1
  ·simp at e; omega
 have old:∀(a:Option Addr) (l:List Tm),Sl w (λb=>Y b∨(N<=b/\some b≠v.ownBlock)) a l->Sl w3 (λb=>Y b∨(N<=b/\some b≠(Value.slice (some (zD g 0)) (cs.length+1) cap).ownBlock)) a l:=λa l h0=>by
  have h1:Sl w (λb=>(Y b∨(N<=b/\some b≠v.ownBlock))/\b<w.heap.size) a l:=h0.mono λb h1 h2=>⟨h1,h2⟩;have h2:Sl w3 (λb=>(Y b∨(N<=b/\some b≠v.ownBlock))/\b<w.heap.size) a l:=h1.kept λb hx=>by
   have d:some b≠v.ownBlock:=by
    rcases hx.1 with hy|hy
    ·exact h.ne (f b hy)
    ·exact hy.2
   rw[i.block b (by simp; omega) d,Ay _ _ _ (by omega),hb.block b hx.2]
  refine h2.mono λb hx _=>?_;rcases hx.1 with hy|hy
  ·exact Ae hy
  ·refine Ad ⟨hy.1,λe=>?_⟩;simp[Value.ownBlock]at e;rcases ab with e'|e'
   ·exact hy.2 (by rw[e',e])
   ·simp at e'; omega
 have new:∀(a:Option Addr) (l:List Tm),Sl w1 (λb=>Y b∨w.heap.size<=b) a l->Sl w3 (λb=>Y b∨(N<=b/\some b≠(Value.slice (some (zD g 0)) (cs.length+1) cap).ownBlock)) a l:=λa l h0=>by
  have h1:Sl w1 (λb=>(Y b∨w.heap.size<=b)/\b<w1.heap.size) a l:=h0.mono λb h1 h2=>⟨h1,h2⟩;have h2:Sl w3 (λb=>(Y b∨w.heap.size<=b)/\b<w1.heap.size) a l:=h1.kept λb hx=>by
   have d:some b≠v.ownBlock:=by
    rcases hx.1 with hy|hy
    ·exact h.ne (f b hy)
    ·intro e; have:=(c b e.symm).2; omega
   rw[i.block b (by simp; omega) d,Ay _ _ _ hx.2]
  refine h2.mono λb hx _=>?_;rcases hx.1 with hy|hy
  ·exact Ae hy
  ·refine Ad ⟨by omega,λe=>?_⟩;simp[Value.ownBlock]at e;rcases ab with e'|e'
   ·have:=(c g e').2; omega
   ·simp at e'; omega
 refine⟨by rw[Pz]; simpa [C0] using aa,λy hy=>?_⟩;rcases Ba.1 hy with hy|hy
 ·exact⟨old _ _ (h.row y hy).1,old _ _ (h.row y hy).2⟩
 ·have e:y=x:=by simpa using hy
  subst e;exact⟨new _ _ ht.1,new _ _ ht.2⟩
theorem Di.qv {cs:List Pc} (h:Di w N Y v cs):QV w (λb=>Y b∨N<=b) v (cs.map (·.1)):=by
 have a:cs.length<=9223372036854775807:=by
  rcases h.own.2 with ⟨_,h0⟩|⟨g,cap,cur,_,_,_,h1,h2,_⟩
  ·omega
  ·unfold maxLen at h2; omega
 by_cases h0:0<cs.length
 ·obtain⟨g,cap,rfl,c,hlt,hc⟩:=G0 h.own h0;have ab:cs.length<=cap:=by
   rcases h.own.2 with ⟨e,_⟩|⟨g',ae,cur,e,_,_,h1,_⟩
   ·cases e
   ·simp at e; omega
  refine⟨_,cap,by simp,⟨by simpa using a,by simpa using ab⟩,Ad ⟨g,0,rfl,Ad c,λi hi=>?_⟩⟩;have aa:i<cs.length:=by simpa using hi
  have g0:=hc (i*4+0) (.string cs[i].1.l.name) (by rw[Kg cs i aa 0 (by decide)]; rfl);have g1:=hc (i*4+1) (.slice cs[i].2.1.1 cs[i].1.l.args.length cs[i].2.1.2) (by rw[Kg cs i aa 1 (by decide)]; rfl);have g2:=hc (i*4+2) (.string cs[i].1.r.name) (by rw[Kg cs i aa 2 (by decide)]; rfl);have g3:=hc (i*4+3) (.slice cs[i].2.2.1 cs[i].1.r.args.length cs[i].2.2.2) (by rw[Kg cs i aa 3 (by decide)]; rfl);simp only[List.getElem_map,DA];obtain⟨d,f⟩:=h.row cs[i] (AM aa);exact⟨_,_,_,_,g0,g1,g2,g3,d.mono λb hb _=>hb.imp id (λh=>h.1),f.mono λb hb _=>hb.imp id (λh=>h.1)⟩
 ·have e:cs=[]:=Fj.1 (by omega);subst e;rcases h.own.2 with ⟨hv,_⟩|⟨g,cap,cur,hv,_⟩
  ·exact⟨none,0,hv,by simp,Ae rfl⟩
  ·exact⟨_,_,hv,by simp,Ae rfl⟩
theorem Tryz.infoPair:(prog.info? 34).map (λi=>(i.zero,i.size,i.bytes))=some (some (.agg #[.string ByteArray.empty,zB,.string ByteArray.empty,zB]),4,80):=by kernel_rfl
theorem gW (w:World) (c0 c1 c2 c3:Value) (T:Nat):∀j u,[c0,c1,c2,c3][j]? = some u->(w.alloc (zh #[c0,c1,c2,c3] T)).cell? (((zD w.heap.size 0):Addr).add j)=some u:=
 World.news_of_block (cs:=#[c0,c1,c2,c3]) (Fk w _)
theorem PC {cs:List Pc} (h:Di w N Y v cs) (c:N<=w.heap.size) (d:∀b,Y b->b<N) (hb:Below w.heap.size w w1) (x:Pc) (ht:Sl w1 (λb=>Y b∨w.heap.size<=b) x.2.1.1 x.1.l.args/\Sl w1 (λb=>Y b∨w.heap.size<=b) x.2.2.1 x.1.r.args) (hn:cs.length<=1000000) (A:Nat) (f:w1.heap.size=A):
  ∃v2 w3,(Builtin.append_ #[23,23] 23 #[v,.slice (some (zD A 0)) 1 1]).run prog (w1.alloc (zh #[.string x.1.l.name,.slice x.2.1.1 x.1.l.args.length x.2.1.2,.string x.1.r.name,.slice x.2.2.1 x.1.r.args.length x.2.2.2] 34))=.ok v2 w3/\Di w3 N Y v2 (cs++[x])/\
   (w1.alloc (zh #[.string x.1.l.name,.slice x.2.1.1 x.1.l.args.length x.2.1.2,.string x.1.r.name,.slice x.2.2.1 x.1.r.args.length x.2.2.2] 34)).grownBy w3 v.ownBlock/\∀k,v2.ownBlock=some k->v.ownBlock=some k∨w1.heap.size<=k:=by
 subst f;obtain⟨i0,hi,ab,i,j⟩:=DO Tryz.infoPair;have af:=hb.size;obtain⟨g,cap,w3,m,ho,a,aa,hlt⟩:=run_append_lies (P:=prog) (w:=w1.alloc (zh #[.string x.1.l.name,.slice x.2.1.1 x.1.l.args.length x.2.1.2,.string x.1.r.name,.slice x.2.2.1 x.1.r.args.length x.2.2.2] 34)) 23 23 N 34 i0 _ 4 80 underlying23 hi ab i j rfl (by decide) v cs.length (C0 cs) ((h.below hb).own.alloc _)
  (zD w1.heap.size 0) 1 1 (Ed x) rfl (gW _ _ _ _ _ _) (λy hy=>by simp[Ed] at hy; rcases hy with rfl|rfl|rfl|rfl<;>rfl) (by decide) (by unfold maxLen; omega) (by omega) (by simp; omega) _ rfl
 refine⟨_,w3,m,h.push c d hb ht _ rfl ho a aa,a,λk hk=>?_⟩;have e:g=k:=by simpa [Value.ownBlock] using hk
 rcases aa with h1|h1
 ·exact Ae (by rw[h1,e])
 ·right; simp at h1; omega
abbrev Ec:=Pc×Nat
def Fg (x:Ec):List Value:=[.string x.1.1.l.name,.slice x.1.2.1.1 x.1.1.l.args.length x.1.2.1.2,.string x.1.1.r.name,.slice x.1.2.2.1 x.1.1.r.args.length x.1.2.2.2,zA (x.2:Int)]
def CM:List Ec->List Value
 | []=>[]
 |x::r=>Fg x++CM r
theorem LE (b:List Ec):∀a,CM (a++b)=CM a++CM b
 | []=>rfl
 |x::r=>by rw[Bj,CM,CM,LE b r,DN]
theorem Nc:∀a:List Ec,(CM a).length=a.length*5
 | []=>rfl
 |x::r=>by rw[CM,Cv,Nc r]; simp[Fg]; omega
theorem Uh:∀(a:List Ec) (i:Nat) (h:i<a.length) (j:Nat),j<5->(CM a)[i*5+j]? = (Fg a[i])[j]?
 | [],i,h,j,hj=>by simp at h
 |x::r,0,h,j,hj=>by
  rw[CM,List.getElem?_append_left (by simp[Fg]; omega)]; simp
 |x::r,i+1,h,j,hj=>by
  rw[CM,LZ (by simp[Fg]; omega)];have e:(i+1)*5+j-(Fg x).length=i*5+j:=by simp[Fg]; omega
  rw[e,Uh r i (by simpa using h) j hj];simp
structure CW (w:World) (N:Nat) (Y:Nat->Prop) (v:Value) (cs:List Ec):Prop where
 own:w.ownsRow N 182 5 v cs.length (CM cs)
 row:∀x∈cs,Sl w (λb=>Y b∨(N<=b/\some b≠v.ownBlock)) x.1.2.1.1 x.1.1.l.args/\Sl w (λb=>Y b∨(N<=b/\some b≠v.ownBlock)) x.1.2.2.1 x.1.1.r.args
theorem CW.start (w:World) (N:Nat) (Y:Nat->Prop):CW w N Y zB []:=⟨GT w N _ 5,by simp⟩
theorem CW.below {cs:List Ec} (h:CW w N Y v cs) (hb:Below w.heap.size w w'):CW w' N Y v cs:=
 ⟨h.own.kept (w' := w') (row := none) ⟨hb.os, hb.tape, hb.output, hb.size, λj hj _ => hb.block j hj⟩ (by rcases Kz (Value.ownBlock v) with h | ⟨x, h⟩; exact Ae h; exact Ad (by rw [h]; simp)),
  λx hx=>⟨(h.row x hx).1.later hb,(h.row x hx).2.later hb⟩⟩
theorem CW.ne {cs:List Ec} (h:CW w N Y v cs) (hb:b<N):some b≠v.ownBlock:=λe=>by
 have:=(h.own.lt b e.symm).1; omega
theorem CW.push {cs:List Ec} (h:CW w N Y v cs) (hN:N<=w.heap.size) (f:∀b,Y b->b<N) (hb:Below w.heap.size w w1) {x:Ec}
  (ht:Sl w1 (λb=>Y b∨w.heap.size<=b) x.1.2.1.1 x.1.1.l.args/\Sl w1 (λb=>Y b∨w.heap.size<=b) x.1.2.2.1 x.1.1.r.args) (o:Obj) (j:w2=w1.alloc o) 
  (aa:w3.ownsRow N 182 5 (.slice (some (zD g 0)) (cs.length+1) cap) (cs.length+1) (CM cs++Fg x)) (i:w2.grownBy w3 v.ownBlock) (ab:v.ownBlock=some g∨g=w2.heap.size):
  CW w3 N Y (.slice (some (zD g 0)) (cs.length+1) cap) (cs++[x]):=by
 subst j;have c:=h.own.lt;have ae:w1.heap.size<=(w1.alloc o).heap.size:=by simp
 have af:=hb.size;have ag:N<=g:=by
  rcases ab with e|e
  ·exact(c g e).1
  ·simp at e; omega
 have old:∀(a:Option Addr) (l:List Tm),Sl w (λb=>Y b∨(N<=b/\some b≠v.ownBlock)) a l->Sl w3 (λb=>Y b∨(N<=b/\some b≠(Value.slice (some (zD g 0)) (cs.length+1) cap).ownBlock)) a l:=λa l h0=>by
  have h1:Sl w (λb=>(Y b∨(N<=b/\some b≠v.ownBlock))/\b<w.heap.size) a l:=h0.mono λb h1 h2=>⟨h1,h2⟩;have h2:Sl w3 (λb=>(Y b∨(N<=b/\some b≠v.ownBlock))/\b<w.heap.size) a l:=h1.kept λb hx=>by
   have d:some b≠v.ownBlock:=by
    rcases hx.1 with hy|hy
    ·exact h.ne (f b hy)
    ·exact hy.2
   rw[i.block b (by simp; omega) d,Ay _ _ _ (by omega),hb.block b hx.2]
  refine h2.mono λb hx _=>?_;rcases hx.1 with hy|hy
  ·exact Ae hy
  ·refine Ad ⟨hy.1,λe=>?_⟩;simp[Value.ownBlock]at e;rcases ab with e'|e'
   ·exact hy.2 (by rw[e',e])
   ·simp at e'; omega
 have new:∀(a:Option Addr) (l:List Tm),Sl w1 (λb=>Y b∨w.heap.size<=b) a l->Sl w3 (λb=>Y b∨(N<=b/\some b≠(Value.slice (some (zD g 0)) (cs.length+1) cap).ownBlock)) a l:=λa l h0=>by
  have h1:Sl w1 (λb=>(Y b∨w.heap.size<=b)/\b<w1.heap.size) a l:=h0.mono λb h1 h2=>⟨h1,h2⟩;have h2:Sl w3 (λb=>(Y b∨w.heap.size<=b)/\b<w1.heap.size) a l:=h1.kept λb hx=>by
   have d:some b≠v.ownBlock:=by
    rcases hx.1 with hy|hy
    ·exact h.ne (f b hy)
    ·intro e; have:=(c b e.symm).2; omega
   rw[i.block b (by simp; omega) d,Ay _ _ _ hx.2]
  refine h2.mono λb hx _=>?_;rcases hx.1 with hy|hy
  ·exact Ae hy
  ·refine Ad ⟨by omega,λe=>?_⟩;simp[Value.ownBlock]at e;rcases ab with e'|e'
   ·have:=(c g e').2; omega
   ·simp at e'; omega
 refine⟨by rw[LE]; simpa [CM] using aa,λy hy=>?_⟩;rcases Ba.1 hy with hy|hy
 ·exact⟨old _ _ (h.row y hy).1,old _ _ (h.row y hy).2⟩
 ·have e:y=x:=by simpa using hy
  subst e;exact⟨new _ _ ht.1,new _ _ ht.2⟩
theorem Tryz.infoEq:(prog.info? 182).map (λi=>(i.zero,i.size,i.bytes))=some (some (.agg #[.string ByteArray.empty,zB,.string ByteArray.empty,zB,zA 0]),5,88):=by kernel_rfl
theorem PD (w:World) (c0 c1 c2 c3 a:Value) (T:Nat):∀j u,[c0,c1,c2,c3,a][j]? = some u->(w.alloc (zh #[c0,c1,c2,c3,a] T)).cell? (((zD w.heap.size 0):Addr).add j)=some u:=
 World.news_of_block (cs:=#[c0,c1,c2,c3,a]) (Fk w _)
theorem CW.exq {cs:List Ec} (h:CW w N Y v cs) (he:Ak Q w w') (a:∀b,Q b->b<N) (c:∀b,Q b->¬Y b):CW w' N Y v cs:=
 ⟨Dc h.own λg d => he.block g (h.own.lt g d).2 (λhq => by have := a g hq; have := (h.own.lt g d).1; omega),
  λx hx=>⟨(h.row x hx).1.exq he λb hb hq=>by
   rcases hb with h1|h1
   ·exact c b hq h1
   ·have:=a b hq; omega,
   (h.row x hx).2.exq he λb hb hq=>by
   rcases hb with h1|h1
   ·exact c b hq h1
   ·have:=a b hq; omega⟩⟩
theorem Kh {o:Obj} (hv:∀b,Y b->some b≠v.ownBlock) (c:(w1.alloc o).grownBy w3 v.ownBlock) (aa:v.ownBlock=some g∨g=(w1.alloc o).heap.size) {a:Option Addr} (h0:Sl w1 (λb=>Y b∨(N<=b/\some b≠v.ownBlock)) a l):
  Sl w3 (λb=>Y b∨(N<=b/\some b≠(Value.slice (some (zD g 0)) n cap).ownBlock)) a l:=by
 have h1:Sl w1 (λb=>(Y b∨(N<=b/\some b≠v.ownBlock))/\b<w1.heap.size) a l:=h0.mono λb h1 h2=>⟨h1,h2⟩;refine(h1.kept λb hx=>?_).mono λb hx _=>?_
 ·have d:some b≠v.ownBlock:=by
   rcases hx.1 with hy|hy
   ·exact hv b hy
   ·exact hy.2
  rw[c.block b (by simp; omega) d,Ay _ _ _ hx.2]
 ·rcases hx.1 with hy|hy
  ·exact Ae hy
  ·refine Ad ⟨hy.1,λe=>?_⟩;simp[Value.ownBlock]at e;rcases aa with e'|e'
   ·exact hy.2 (by rw[e',e])
   ·simp at e'; omega
theorem CW.push2 {cs:List Ec} (h:CW w N Y v cs) (c:∀b,Y b->b<N) (hb:Below w.heap.size w w1) {x:Ec}
  (ht:Sl w1 (λb=>Y b∨(N<=b/\some b≠v.ownBlock)) x.1.2.1.1 x.1.1.l.args/\Sl w1 (λb=>Y b∨(N<=b/\some b≠v.ownBlock)) x.1.2.2.1 x.1.1.r.args) (o:Obj) 
  (ab:w3.ownsRow N 182 5 (.slice (some (zD g 0)) (cs.length+1) cap) (cs.length+1) (CM cs++Fg x)) (a:(w1.alloc o).grownBy w3 v.ownBlock) (aa:v.ownBlock=some g∨g=(w1.alloc o).heap.size):
  CW w3 N Y (.slice (some (zD g 0)) (cs.length+1) cap) (cs++[x]):=by
 have hv:∀b,Y b->some b≠v.ownBlock:=λb hb=>h.ne (c b hb);refine⟨by rw[LE]; simpa [CM] using ab,λy hy=>?_⟩;rcases Ba.1 hy with hy|hy
 ·exact⟨Kh hv a aa ((h.row y hy).1.later hb),Kh hv a aa ((h.row y hy).2.later hb)⟩
 ·have e:y=x:=by simpa using hy
  subst e;exact⟨Kh hv a aa ht.1,Kh hv a aa ht.2⟩
theorem CW.setCell {cs:List Ec} (h:CW w N Y v cs) (hb:b<N) (a:¬Y b) (u:Value):CW (w.setCell (zD b i) u) N Y v cs:=
 h.exq (Q:=λc=>c=b) ((Ak.refl (λc=>c=b) w).set (B:=b) rfl i u) (λc hc=>by omega) (λc hc=>by rw[hc]; exact a)
theorem Ui {d aa:Value} (he:BX S q d h false Y w) (hk:∀b,Y b->w3.heap[b]? = w.heap[b]?):BX S q aa h false Y (w3.setCell (zD S 0) aa):=by
 have g:=(Dh S q d h).keep _ _ _ _ he hk;obtain⟨⟨L,c,f,i⟩,j,k,m,n⟩:=g;have o:S≠q:=λe=>by
  obtain⟨es,ag,h1,_⟩:=f;subst e;unfold Ac at c;rw[h1]at c; cases c
 have ab:∀b,b≠S->(w3.setCell (zD S 0) aa).heap[b]? = w3.heap[b]? := λb hb=>An _ _ _ _ (by simpa using hb);refine⟨⟨L,?_,f.kept (ab q (EI o)),i.imp λa l r=>(r.kept λb hb=>ab b hb.2.1)⟩,j,k,λb hb=>by simpa [World.setCell] using m b hb,n⟩;have:=c.set 0 aa;simpa using this
def C8 (x:Ec):Pr×Nat:=(x.1.1,x.2)
theorem Sl.blk (h:Sl w X (some (zD b o)) l) (a:0<l.length):X b:=by
 rcases h.2 with h1|⟨b',o',e,h1⟩
 ·subst h1; simp at a
 ·simp at e;obtain⟨rfl,rfl⟩:=e;exact(Ip _ _ _ h1 0 a).1
theorem Nd:∀ {a b:List Tm},a.length=b.length->(AE a b).length=a.length
 | [],[],_=>rfl
 | [],_::_,h=>by simp at h
 |_::_,[],h=>by simp at h
 |t::a,u::b,h=>by rw[AE,Bg,Nd (by simpa using h),Bg]
theorem Uj:∀ {a b:List Tm} (k:Nat) (h1:k<a.length) (h2:k<b.length) (h3:k<(AE a b).length),(AE a b)[k]=⟨a[k],b[k]⟩
 | [],_,k,h1,_,_=>by simp at h1
 |_::_,[],k,_,h2,_=>by simp at h2
 |t::a,u::b,0,_,_,_=>rfl
 |t::a,u::b,k+1,h1,h2,h3=>by
  simp only[AE,FX];exact Uj k (by simpa using h1) (by simpa using h2) _
def LF (S q N:Nat) (h:List (ByteArray×Tm)) (cs:List Ec) (w:World):Prop:=
 ∃(td:Value) (Y:Nat->Prop),BX S q td h false Y w/\CW w N (λb=>b<N/\b≠S/\b≠q) td cs/\(∀b,Y b->some b≠td.ownBlock)/\S<N/\q<N/\N<=w.heap.size
def PE (S q N:Nat) (h:List (ByteArray×Tm)) (cs:List Ec) (Y:Nat->Prop) (td0:Value) (w:World) (lA lB:List Tm) (a1 a2:Option Addr) (i:Value) (wr:World):Prop:=
 ∃(k:Nat) (td:Value) (cs':List Ec),k<=lA.length/\i=zA ((k:Int)-1)/\BX S q td h false Y wr/\CW wr N (λb=>b<N/\b≠S/\b≠q) td cs'/\(∀b,Y b->some b≠td.ownBlock)/\cs'.map C8=cs.map C8++((AE lA lB).drop k).reverse.map (λp=>(p,h.length))/\
  Sl wr (λb=>(b<N/\b≠S/\b≠q)∨(N<=b/\some b≠td.ownBlock)) a1 lA/\Sl wr (λb=>(b<N/\b≠S/\b≠q)∨(N<=b/\some b≠td.ownBlock)) a2 lB/\Ak (λb=>b=S∨some b=td0.ownBlock) w wr/\N<=wr.heap.size/\∀k,td.ownBlock=some k->td0.ownBlock=some k∨w.heap.size<=k
theorem gX {cs aa:List Ec} {wr:World} {c d:List Tm} {a1 a2:Option Addr} {a m:Value} (z:S<N) (av:q<N) (A:c.length=d.length) (hk:k<c.length) (r:BX S q a h false Y wr) (s:CW wr N (λb=>b<N/\b≠S/\b≠q) a aa) (t:∀b,Y b->some b≠a.ownBlock) (B:aa.map C8=cs.map C8++((AE c d).drop (k+1)).reverse.map (λp=>(p,h.length)))
  (C:Sl wr (λb=>(b<N/\b≠S/\b≠q)∨(N<=b/\some b≠a.ownBlock)) a1 c) (D:Sl wr (λb=>(b<N/\b≠S/\b≠q)∨(N<=b/\some b≠a.ownBlock)) a2 d) (hx:Ak (λb=>b=S∨some b=m.ownBlock) w wr) (hN:N<=wr.heap.size) (aw:N<=w.heap.size) (u:∀k,a.ownBlock=some k->m.ownBlock=some k∨w.heap.size<=k)
  {j l:Option Addr} {d1 d2:Nat} (E:Sl wr (λb=>(b<N/\b≠S/\b≠q)∨(N<=b/\some b≠a.ownBlock)) j (c[k]'hk).args) (F:Sl wr (λb=>(b<N/\b≠S/\b≠q)∨(N<=b/\some b≠a.ownBlock)) l (d[k]'(by omega)).args) {o:Obj} 
  (G:w3.ownsRow N 182 5 (.slice (some (zD g 0)) (aa.length+1) cap) (aa.length+1) (CM aa++Fg ((⟨c[k]'hk,d[k]'(by omega)⟩,(j,d1),(l,d2)),h.length))) (f:(wr.drew.alloc o).grownBy w3 a.ownBlock) (ab:a.ownBlock=some g∨g=(wr.drew.alloc o).heap.size):
  PE S q N h cs Y m w c d a1 a2 (zA ((k:Int)-1)) (w3.setCell (zD S 0) (.slice (some (zD g 0)) (aa.length+1) cap)):=by
 have i:Below wr.heap.size wr wr.drew:=(Ag _ _).drew;have v:∀b,(b<N/\b≠S/\b≠q)->some b≠a.ownBlock:=λb hb=>s.ne hb.1;have n:=r.2.2.2.1;have H:=f.size;simp at H;refine⟨k,.slice (some (zD g 0)) (aa.length+1) cap,aa++[((⟨c[k]'hk,d[k]'(by omega)⟩,(j,d1),(l,d2)),h.length)],by omega,rfl,Ui r (λb hb=>?_),?_,λb hb e=>?_,?_,?_,?_,?_,by simp[World.setCell]; omega,λk2 I=>?_⟩
 ·rw[f.block b (by have:=n b hb; simp; omega) (t b hb),Ay _ _ _ (by have:=n b hb; simpa using this)];rfl
 ·exact(s.push2 (λb hb=>hb.1) i (x:=((⟨c[k]'hk,d[k]'(by omega)⟩,(j,d1),(l,d2)),h.length)) ⟨E.later i,F.later i⟩ o G f ab).setCell z (λhb=>hb.2.1 rfl) _
 ·have J:b=g:=by simpa [Value.ownBlock] using e
  subst J;rcases ab with h1|h1
  ·exact t b hb h1.symm
  ·have:=n b hb; simp at h1; omega
 ·have y:k<(AE c d).length:=by rw[Nd A]; exact hk
  rw[CI,B,Jx y,List.reverse_cons,CI,Uj k hk (by omega) y];simp[C8]
 ·exact(Kh v f ab (C.later i)).kept λb hb=>An _ _ _ _ (by
   simp;rcases hb with hb|hb
   ·exact hb.2.1
   ·omega)
 ·exact(Kh v f ab (D.later i)).kept λb hb=>An _ _ _ _ (by
   simp;rcases hb with hb|hb
   ·exact hb.2.1
   ·omega)
 ·refine((((hx.drew).alloc o).grown f (λb hb=>?_)).set (Ae rfl) _ _);rcases u b hb with h1|h1
  ·exact Ad (Ad h1.symm)
  ·exact Ae h1
 ·have e:g=k2:=by simpa [Value.ownBlock] using I
  subst e;rcases ab with h1|h1
  ·exact u g h1
  ·right;have:=hx.size;simp at h1;omega
def LG (S q b1 b2 o1 o2:Nat) (tA tB:Tm) (x1 x2:Option Addr) (d1 d2 n:Nat) (w':World):Prop:=
 w'.cell? (zD S 1)=some (.map (some q))/\w'.cell? (zD b1 o1)=some (.string tA.name)/\w'.cell? ⟨b1,o1+1,none⟩=some (.slice x1 tA.args.length d1)/\w'.cell? (zD b2 o2)=some (.string tB.name)/\w'.cell? ⟨b2,o2+1,none⟩=some (.slice x2 tB.args.length d2)/\Sem.run prog (Builtin.len_ #[174] 3 #[.map (some q)]) w'=.ok (zA n) w'
def gY (S q N:Nat) (h:List (ByteArray×Tm)) (cs:List Ec) (lA lB:List Tm) (td0:Value) (w:World) (e:Ending) (w':World):Prop:=
 e=.returned (.tuple #[])/\∃cs',LF S q N h cs' w'/\cs'.map C8=cs.map C8++(AE lA lB).reverse.map (λp=>(p,h.length))/\Ak (λb=>b=S∨some b=td0.ownBlock) w w'
theorem gZ (S q N:Nat) (h:List (ByteArray×Tm)) (cs:List Ec) (m r:List Tm) (hl:m.length=r.length) (bx:cs.length+m.length<=1000000000) (F:h.length<=1000000000) (a1 a2:Option Addr) (c1 c2:Nat) (w:World) (y:Value) (Y:Nat->Prop) (hE:BX S q y h false Y w) (hR:CW w N (λb=>b<N/\b≠S/\b≠q) y cs) (hY:∀b,Y b->some b≠y.ownBlock) (aE:S<N) (aF:q<N) (bb:N<=w.heap.size)
  (aG:Sl w (λb=>(b<N/\b≠S/\b≠q)∨(N<=b/\some b≠y.ownBlock)) a1 m) (aH:Sl w (λb=>(b<N/\b≠S/\b≠q)∨(N<=b/\some b≠y.ownBlock)) a2 r):
  Calls prog 138 #[zC S,.slice a1 m.length c1,.slice a2 r.length c2] w λe w'=>gY S q N h cs m r y w e w':=by
 obtain⟨i0,bc,bd,bf,bg⟩:=DO Tryz.infoEq;have HE:=Aa hE;have HR:=Aa hR;have HY:=Aa hY;have bh:=Aa aG;have bj:=Aa aH;have bz:=aG.1;have b0:=aH.1;have J:=Aa hl;have hle:Hid (m.length<=1000000000):=Aa (by omega);clear hE hR hY aG aH;rw[<-hl];clear hl;go_enter func138,ntmps138;go_wp2_with fail;go_loopw [6] (λi wr=>PE S q N h cs Y y w m r a1 a2 i wr) (λi wr=>((intOf i)+1).toNat);case atStart=>
  refine⟨m.length,y,cs,Al _,?_,HE.o,HR.o,HY.o,?_,bh.o,bj.o,Ak.refl _ _,bb,λk hk=>Ae hk⟩
  ·have:=hle.o;go_num
  ·rw[N4 (by rw[Nd J.o]; exact Al _)];simp
 case round=>
  obtain⟨k,n,z,hk,rfl,aI,aJ,aK,T,U,V,aL,bk,au⟩:=hrel;have aM:=Aa aI;have C:=Aa aJ;have aN:=Aa aK;have aO:=Aa T;have aP:=Aa aL;have bp:=Aa au;clear au;have Z:=Aa U;have al:=Aa V;have aC:Hid (z.length<=1000000000):=by
   have h1:=Cb List.length T;simp[Nd J.o]at h1;unfold Hid;omega
  cases k with
  |zero=>
   clear aI aJ aK T aL U V;go_wp2_with fail;go_end0
   refine⟨rfl,z,⟨n,Y,aM.o,C.o,aN.o,aE,aF,bk⟩,?_,aP.o⟩;have:=aO.o;simpa using this
  |succ k=>
   have bq:((k+1:Nat):Int)-1=k:=(by omega);rw[bq];obtain⟨j,G,t,d1,rfl,p0,p1,br⟩:=U.get (Ag _ _) (λ_ _ h=>h) k hk;obtain⟨l,H,u,d2,rfl,r0,r1,bs⟩:=V.get (Ag _ _) (λ_ _ h=>h) k (by have:=J.o; omega);obtain⟨av,cv,M,aw⟩:=br;simp at M;obtain⟨rfl,rfl⟩:=M;obtain⟨av,cv,M,ax⟩:=bs;simp at M;obtain⟨rfl,rfl⟩:=M;obtain⟨⟨L,D,O,aQ⟩,b3,b4,bt,I⟩:=aI;have bl:=Aa aw;have bm:=Aa ax;have HB:=Aa D;have s0:wr.cell? (zD S 0)=some n:=D.cell 0;have b5:∀o,(wr.alloc o).cell? (zD S 0)=some n:=λo=>(D.alloc o).cell 0;have s1:wr.cell? (zD S 1)=some (.map (some q)):=D.cell 1;have hlen:Sem.run prog (Builtin.len_ #[174] 3 #[.map (some q)]) wr.drew=.ok (zA (h.length:Int)) wr.drew:=(by have h1:AO wr.drew q L:=O.below ((Ag wr.heap.size wr).drew) O.lt;rw[LB underlying174 h1,aQ.1]);have b6:(k:Int)<(m.length:Int):=(by omega);have b7:k<r.length:=by have:=J.o; omega
   have ay:=Aa (C.o.below ((Ag wr.heap.size wr).drew)).own;have ao:Hid (some S≠n.ownBlock):=C.o.ne aE;have aR:Hid (AO wr q L/\L.length=h.length):=⟨O,aQ.1⟩;have bu:Hid (q≠S):=λe=>by
    obtain⟨es,b8,h1,_⟩:=O;subst e;unfold Ac at D;rw[h1]at D; cases D
   have bw:Hid (some q≠n.ownBlock):=C.o.ne aF;have aS:Hid (j≠S):=by
    rcases Z.o.blk (by omega) with h1|h1
    ·exact h1.2.1
    ·unfold Hid; omega
   have aT:Hid (l≠S):=by
    rcases al.o.blk (by omega) with h1|h1
    ·exact h1.2.1
    ·unfold Hid; omega
   have aU:Hid (some j≠n.ownBlock):=by
    rcases Z.o.blk (by omega) with h1|h1
    ·exact C.o.ne h1.1
    ·exact h1.2
   have aV:Hid (some l≠n.ownBlock):=by
    rcases al.o.blk (by omega) with h1|h1
    ·exact C.o.ne h1.1
    ·exact h1.2
   clear aJ aK T aL U V aw ax D O aQ I bt;have aD:Hid (∀(g cap:Nat) (w3:World),w3.ownsRow N 182 5 (.slice (some (zD g 0)) (z.length+1) cap) (z.length+1) (CM z++Fg ((⟨m[k],r[k]⟩,(t,d1),(u,d2)),h.length))->(wr.drew.alloc (zh #[.string m[k].name,.slice t m[k].args.length d1,.string r[k].name,.slice u r[k].args.length d2,zA (h.length:Int)] 182)).grownBy w3 n.ownBlock->(n.ownBlock=some g∨g=(wr.drew.alloc (zh #[.string m[k].name,.slice t m[k].args.length d1,.string r[k].name,.slice u r[k].args.length d2,zA (h.length:Int)] 182)).heap.size)->PE S q N h cs Y y w m r (some (zD j G)) (some (zD l H)) (zA ((k:Int)-1)) (w3.setCell (zD S 0) (.slice (some (zD g 0)) (z.length+1) cap))):=λg cap w3 h1 h2 h3=>gX aE aF J.o hk aM.o C.o aN.o aO.o Z.o al.o aP.o bk bb bp.o bl.o bm.o h1 h2 h3;unfold Fg at aD;generalize m[k]=A at *;generalize r[k]=B at *;generalize CM z=fl at *;dsimp only at aD;clear bl bm aM C aN aO aP Z al HE HR HY bh bj;have bn:LG S q j l (G+k*2) (H+k*2) A B t u d1 d2 h.length wr.drew:=⟨s1,p0,p1,r0,r1,hlen⟩;have aW:∀W:World,W.heap[q]? = wr.heap[q]? -> Sem.run prog (Builtin.len_ #[174] 3 #[.map (some q)]) W=.ok (zA (h.length:Int)) W:=λW hW=>by
    rw[LB underlying174 (aR.o.1.kept hW),aR.o.2]
   have KP:Hid (∀W:World,W.heap[S]? = wr.heap[S]? -> W.heap[j]? = wr.heap[j]? -> W.heap[l]? = wr.heap[l]? -> W.heap[q]? = wr.heap[q]? -> LG S q j l (G+k*2) (H+k*2) A B t u d1 d2 h.length W):=λW h1 h2 h3 h4=>⟨by rw[Ce h1]; exact s1,by rw[Ce h2]; exact p0,by rw[Ce h2]; exact p1,by rw[Ce h3]; exact r0,by rw[Ce h3]; exact r1,aW W h4⟩;have bo:S<wr.heap.size:=HB.o.lt;have az:j<wr.heap.size:=DR p0;have a6:l<wr.heap.size:=DR r0;have a7:q<wr.heap.size:=aR.o.1.lt;have aX:Hid (∀o,LG S q j l (G+k*2) (H+k*2) A B t u d1 d2 h.length (wr.drew.alloc o)):=λo=>KP.o (wr.drew.alloc o) (Ay _ _ _ (by simpa using bo)) (Ay _ _ _ (by simpa using az)) (Ay _ _ _ (by simpa using a6)) (Ay _ _ _ (by simpa using a7));have KG:Hid (∀(o:Obj) (w3:World),(wr.drew.alloc o).grownBy w3 n.ownBlock->w3.heap[S]? = wr.heap[S]? /\ w3.heap[j]? = wr.heap[j]? /\ w3.heap[l]? = wr.heap[l]? /\ w3.heap[q]? = wr.heap[q]?):=λo w3 I=>⟨(I.block S (by simp; omega) ao.o).trans (Ay _ _ _ (by simpa using bo)),(I.block j (by simp; omega) aU.o).trans (Ay _ _ _ (by simpa using az)),(I.block l (by simp; omega) aV.o).trans (Ay _ _ _ (by simpa using a6)),(I.block q (by simp; omega) bw.o).trans (Ay _ _ _ (by simpa using a7))⟩;have KS:Hid (∀(w3:World) (v:Value),(w3.heap[S]? = wr.heap[S]? /\ w3.heap[j]? = wr.heap[j]? /\ w3.heap[l]? = wr.heap[l]? /\ w3.heap[q]? = wr.heap[q]?)->LG S q j l (G+k*2) (H+k*2) A B t u d1 d2 h.length (w3.setCell (zD S 0) v)):=λw3 v F=>by
    obtain⟨e1,e2,e3,e4,e5,e6⟩:=KP.o w3 F.1 F.2.1 F.2.2.1 F.2.2.2;have a8:j≠S:=λe=>by have h1:=aS.o; exact h1 e
    have aA:l≠S:=λe=>by have h1:=aT.o; exact h1 e
    refine⟨(Aw _ _ _ _ (by simp)).trans e1,(Aw _ _ _ _ (λe=>a8 (by injection e with e; exact e.symm))).trans e2,(Aw _ _ _ _ (λe=>a8 (by injection e with e; exact e.symm))).trans e3,(Aw _ _ _ _ (λe=>aA (by injection e with e; exact e.symm))).trans e4,(Aw _ _ _ _ (λe=>aA (by injection e with e; exact e.symm))).trans e5,aW _ ?_⟩;rw[An _ _ _ _ (by simpa using bu.o)];exact F.2.2.2
   clear p0 p1 r0 r1 s1 hlen aW;go_wp2_with fail;refine D9 (S:=LG S q j l (G+k*2) (H+k*2) A B t u d1 d2 h.length) (by kernel_rfl) bn λhH=>?_;clear bn;refine tkz 0 ?_ (hy:=by intro w' aa;obtain⟨k1,k2,k3,c,d,f⟩:=aa;go_simp<;>with_reducible rfl);refine tkz 1 ?_ (hy:=by intro w' aa;obtain⟨k1,k2,k3,c,d,f⟩:=aa;go_simp<;>with_reducible rfl);refine tkz 2 ?_ (hy:=by intro w' aa;obtain⟨k1,k2,k3,c,d,f⟩:=aa;go_simp<;>with_reducible rfl);refine tkz 3 ?_ (hy:=by intro w' aa;obtain⟨k1,k2,k3,c,d,f⟩:=aa;go_simp<;>with_reducible rfl);refine tkz 5 ?_ (hy:=by intro w' aa;obtain⟨k1,k2,k3,c,d,f⟩:=aa;go_simp<;>with_reducible rfl);refine tkz 6 ?_ (hy:=by intro w' aa;obtain⟨k1,k2,k3,c,d,f⟩:=aa;go_simp<;>with_reducible rfl);refine tkz 7 ?_ (hy:=by intro w' aa;obtain⟨k1,k2,k3,c,d,f⟩:=aa;go_simp<;>with_reducible rfl);refine tkz 8 ?_ (hy:=by intro w' aa;obtain⟨k1,k2,k3,c,d,f⟩:=aa;go_simp<;>with_reducible rfl);refine tkz 9 ?_ (hy:=by intro w' aa;obtain⟨k1,k2,k3,c,d,f⟩:=aa;go_simp<;>with_reducible rfl);refine tkz 10 ?_ (hy:=by intro w' aa;obtain⟨k1,k2,k3,c,d,f⟩:=aa;go_simp<;>with_reducible rfl);refine tkz 11 ?_ (hy:=by intro w' aa;obtain⟨k1,k2,k3,c,d,f⟩:=aa;go_simp<;>with_reducible rfl);refine tkz 12 ?_ (hy:=by intro w' aa;obtain⟨k1,k2,k3,c,d,f⟩:=aa;go_simp<;>with_reducible rfl);refine tkz 13 ?_ (hy:=by intro w' aa;obtain⟨k1,k2,k3,c,d,f⟩:=aa;go_simp<;>with_reducible rfl);refine tkz 14 ?_ (hy:=by intro w' aa;obtain⟨k1,k2,k3,c,d,f⟩:=aa;go_simp<;>with_reducible rfl);refine tkz 15 ?_ (hy:=by intro w' aa;obtain⟨k1,k2,k3,c,d,f⟩:=aa;go_simp<;>with_reducible rfl);refine tkz 16 ?_ (hy:=by intro w' aa;obtain⟨k1,k2,k3,c,d,f⟩:=aa;go_simp<;>with_reducible rfl);refine tkz 17 ?_ (hy:=by intro w' aa;obtain⟨k1,k2,k3,c,d,f⟩:=aa;go_simp<;>with_reducible rfl);refine tkz 18 ?_ (hy:=by intro w' aa;obtain⟨k1,k2,k3,c,d,f⟩:=aa;go_simp<;>with_reducible rfl);refine D3 (rs:=[4,19]) (by kernel_rfl) (by simp) ?_;refine BJ rfl (λK a=>?_) (BJ rfl (λK a=>?_) D5)
   ·go_simp;refine a.o _ _ (by exact hH) λhH=>?_;clear a K;(try simp only[Act.put,sq]);refine rdq 19 rfl λK a=>?_;go_simp;refine a.o _ _ (by exact aX.o _) λhH=>?_;clear a K;(try simp only[Act.put,sq]);refine rdq 20 rfl λK a=>?_;refine step_append_lies _ rfl _ _ 175 rfl N 182 i0 _ 5 88 underlying175 bc bd bf bg rfl (by decide) n z.length fl rfl (by exact ay.o.alloc _) (zD wr.heap.size 0) 1 1 [.string A.name,.slice t A.args.length d1,.string B.name,.slice u B.args.length d2,zA (h.length:Int)] rfl rfl (by exact PD _ _ _ _ _ _ _) (λx hx=>by simp at hx; rcases hx with rfl|rfl|rfl|rfl|rfl<;>rfl) (by decide) (by have:=aC.o; unfold maxLen; omega) (by have:=aC.o; omega) (by simp; omega) _ rfl ?_;intro g cap w3 P ab R aq;have E:=Aa (((HB.o.drewN 1).alloc _).grown ab ao.o);have aY:w3.cell? (zD S 0)=some n:=E.o.cell 0;have aZ:=E.o.frozen 0;have ba:=Aa (aD.o g cap w3 P ab R);have s:=Aa (KG.o _ _ ab);refine a.o _ _ (by exact KP.o w3 s.o.1 s.o.2.1 s.o.2.2.1 s.o.2.2.2) λhH=>?_;clear P ab R E aq;clear a K;(try simp only[Act.put,sq]);refine tkz 21 ?_ (hy:=by intro w' aa;obtain⟨k1,k2,k3,c,d,f⟩:=aa;go_simp<;>with_reducible rfl);refine tkz 22 ?_ (hy:=by intro w' aa;obtain⟨k1,k2,k3,c,d,f⟩:=aa;go_simp<;>with_reducible rfl);refine rdq 23 rfl λK a=>?_;go_simp;refine a.o _ _ (by exact KS.o w3 _ s.o) λhH=>?_;clear a K;(try simp only[Act.put,sq]);refine dnq ?_;clear hH aY aZ;go_wp2_with fail;go_roundw
    case rel=>exact ba.o
    case measure=>simp[intOf]
   ·go_simp;refine a.o _ _ (by exact aX.o _) λhH=>?_;clear a K;(try simp only[Act.put,sq]);refine rdq 4 rfl λK a=>?_;go_simp;refine a.o _ _ (by exact aX.o _) λhH=>?_;clear a K;(try simp only[Act.put,sq]);refine rdq 20 rfl λK a=>?_;refine step_append_lies _ rfl _ _ 175 rfl N 182 i0 _ 5 88 underlying175 bc bd bf bg rfl (by decide) n z.length fl rfl (by exact ay.o.alloc _) (zD wr.heap.size 0) 1 1 [.string A.name,.slice t A.args.length d1,.string B.name,.slice u B.args.length d2,zA (h.length:Int)] rfl rfl (by exact PD _ _ _ _ _ _ _) (λx hx=>by simp at hx; rcases hx with rfl|rfl|rfl|rfl|rfl<;>rfl) (by decide) (by have:=aC.o; unfold maxLen; omega) (by have:=aC.o; omega) (by simp; omega) _ rfl ?_;intro g cap w3 P ab R aq;have E:=Aa (((HB.o.drewN 1).alloc _).grown ab ao.o);have aY:w3.cell? (zD S 0)=some n:=E.o.cell 0;have aZ:=E.o.frozen 0;have ba:=Aa (aD.o g cap w3 P ab R);have s:=Aa (KG.o _ _ ab);refine a.o _ _ (by exact KP.o w3 s.o.1 s.o.2.1 s.o.2.2.1 s.o.2.2.2) λhH=>?_;clear P ab R E aq;clear a K;(try simp only[Act.put,sq]);refine tkz 21 ?_ (hy:=by intro w' aa;obtain⟨k1,k2,k3,c,d,f⟩:=aa;go_simp<;>with_reducible rfl);refine tkz 22 ?_ (hy:=by intro w' aa;obtain⟨k1,k2,k3,c,d,f⟩:=aa;go_simp<;>with_reducible rfl);refine rdq 23 rfl λK a=>?_;go_simp;refine a.o _ _ (by exact KS.o w3 _ s.o) λhH=>?_;clear a K;(try simp only[Act.put,sq]);refine dnq ?_;clear hH aY aZ;go_wp2_with fail;go_roundw
    case rel=>exact ba.o
    case measure=>simp[intOf]
theorem LH {t:Tm} (hx:Aj x=true):Bb x (AN [] (Ap [t]))=Bu x [t]:=by
 rw[Io,Jd];constructor
 ·intro h;unfold Bb at h;rw[D6]at h;obtain⟨y,hy,e⟩:=h;have a:y=x:=Ew (by simpa using e);subst a;rcases J6 _ _ _ hy with h1|⟨k,h1,h2,_⟩
  ·cases h1
  ·exact⟨k,h1,h2⟩
 ·intro h;apply EX;intro b;exact Lz hx b h
def Uk (S q N:Nat) (h:List (ByteArray×Tm)) (cs:List Ec) (ta tb:Tm) (code:Int) (w':World):Prop:=
 (code≠0/\∃(f':Bool) (Y':Nat->Prop) (td':Value),BX S q td' h f' Y' w'/\(f'=true∨∀l,CZ false (Ar h) l ta tb=.stop code (Ar h)))∨
 (code=0/\Ab [ta]<=2000/\Ab [tb]<=2000/\∃(h':List (ByteArray×Tm)) (cs':List Ec) (new:List Pr),LF S q N h' cs' w'/\cs'.map C8=cs.map C8++new.reverse.map (λp=>(p,h.length))/\(∀l,CZ false (Ar h) l ta tb=.go (Ar h') (new++l))/\
  ((new=[]/\h'=h)∨(new=[]/\∃x t,h'=h++[(x,t)]/\Aj x=true/\((x=ta.name/\t=tb)∨(x=tb.name/\t=ta))/\¬Bb x (AN [] (Ap [t]))=true)∨(new=AE ta.args tb.args/\h'=h/\ta.args.length=tb.args.length)))
def Ul (S q N:Nat) (h:List (ByteArray×Tm)) (cs:List Ec) (ta tb:Tm) (td0:Value) (w:World) (e:Ending) (w':World):Prop:=
 ∃code:Int,e=.returned (zA code)/\Ak (λb=>b=S∨b=q∨some b=td0.ownBlock) w w'/\Uk S q N h cs ta tb code w'
theorem Um {cs:List Ec} {ta tb:Tm} {nm:ByteArray} {t:Tm} {a:Value} {c:World} {Y':Nat->Prop} {e:Ending} (ab:S<N) (g:q<N) (u:N<=w.heap.size) (v:CW w N (λb=>b<N/\b≠S/\b≠q) a cs) (k:∀b,Y' b->some b≠a.ownBlock) (x:∀b,X b->some b≠a.ownBlock) (y:Ak (BZ S q) w w3) (z:Ak (BZ S q) w3 c) (m:Ab [ta]<=2000) (n:Ab [tb]<=2000)
  (i:∀l,CZ false (Ar h) l ta tb=if nm=t.name then .go (Ar h) l else EC false (Ar h) l nm t) (aa:Aj nm=true) (A:(nm=ta.name/\t=tb)∨(nm=tb.name/\t=ta))
  (hc:(t.name=nm/\e=.returned (zA 0)/\BX S q a h false Y' c)∨(t.name≠nm/\Bu nm [t]=true/\e=.returned (zA 6)/\BX S q a h false Y' c)∨(t.name≠nm/\Bu nm [t]=false/\e=.returned (zA 0)/\BX S q a (h++[(nm,t)]) false (λb=>Y' b∨(X b/\b<w3.heap.size)) c)):
  ∃code:Int,e=.returned (zA code)/\Ak (λb=>b=S∨b=q∨some b=a.ownBlock) w c/\Uk S q N h cs ta tb code c:=by
 have hx:Ak (BZ S q) w c:=y.trans z;have j:Ak (λb=>b=S∨b=q∨some b=a.ownBlock) w c:=hx.mono λb hb _=>by
  rcases hb with h1|h1
  ·exact Ae h1
  ·exact Ad (Ae h1)
 have o:CW c N (λb=>b<N/\b≠S/\b≠q) a cs:=v.exq hx (λb hb=>by rcases hb with rfl|rfl; exact ab; exact g) (λb hb r=>by
  rcases hb with h1|h1
  ·exact r.2.1 h1
  ·exact r.2.2 h1)
 have s:N<=c.heap.size:=Bf u hx.size;rcases hc with ⟨d,rfl,f⟩|⟨d,ho,rfl,f⟩|⟨d,ho,rfl,f⟩
 ·exact⟨0,rfl,j,Ad ⟨rfl,m,n,h,cs,[],⟨a,Y',f,o,k,ab,g,s⟩,by simp,λl=>by rw[i,Ao d.symm]; rfl,Ae ⟨rfl,rfl⟩⟩⟩
 ·refine⟨6,rfl,j,Ae ⟨by decide,false,Y',a,f,Ad λl=>?_⟩⟩;rw[i,Ah (λe=>d e.symm)];unfold EC;rw[Ao (by rw[LH aa]; exact ho)]
 ·refine⟨0,rfl,j,Ad ⟨rfl,m,n,h++[(nm,t)],cs,[],⟨a,_,f,o,λb hb=>?_,ab,g,s⟩,by simp,λl=>?_,Ad (Ae ⟨rfl,nm,t,rfl,aa,A,by rw[LH aa,ho]; simp⟩)⟩⟩
  ·rcases hb with hb|hb
   ·exact k b hb
   ·exact x b hb.1
  ·rw[i,Ah (λe=>d e.symm)];unfold EC;rw[Ah (by rw[LH aa,ho]; simp),Ah (by simp),Je];rfl
theorem iA (S q N:Nat) (V:List ByteArray) (h:List (ByteArray×Tm)) (cs:List Ec) (p:Pr) (l:List Pr) (hU:UI V h (p::l)) (j:Nat) (hj:j<=h.length) (hid:j=h.length->(Ai (Ar h) p.l=p.l/\Ai (Ar h) p.r=p.r)) (bm:cs.length<=900000000) (hV:V.length<=400000) (a1:Option Addr) (c1:Nat) (a2:Option Addr) (c2:Nat) (w:World) (f:Value) (Y:Nat->Prop) (hE:BX S q f h false Y w) (hR:CW w N (λb=>b<N/\b≠S/\b≠q) f cs) (hY:∀b,Y b->some b≠f.ownBlock) (E:S<N) (F:q<N) (M:N<=w.heap.size)
  (aJ:Sl w (λb=>(b<N/\b≠S/\b≠q)∨(N<=b/\some b≠f.ownBlock)) a1 p.l.args) (aK:Sl w (λb=>(b<N/\b≠S/\b≠q)∨(N<=b/\some b≠f.ownBlock)) a2 p.r.args):
  Calls prog 121 #[zC S,.agg #[.string p.l.name,.slice a1 p.l.args.length c1,.string p.r.name,.slice a2 p.r.args.length c2,zA j]] w λe w'=>Ul S q N h cs (Ai (Ar h) p.l) (Ai (Ar h) p.r) f w e w':=by
 have HE:=Aa hE;have x:=Aa hR;have HY:=Aa hY;have aX:=Aa aJ;have aY:=Aa aK;have i:=Aa hU;have aZ:=Aa hid;have bn:S<w.heap.size:=by omega
 clear hE hR hY aJ aK hU hid;obtain⟨ta,O⟩:∃ta,Ai (Ar h) p.l=ta:=⟨_,rfl⟩;obtain⟨tb,P⟩:∃tb,Ai (Ar h) p.r=tb:=⟨_,rfl⟩;have R:=Aa O;have T:=Aa P;rw[O,P];clear O P;have G:Hid (Below w.heap.size w (w.alloc (zh #[.string p.l.name,.slice a1 p.l.args.length c1,.string p.r.name,.slice a2 p.r.args.length c2,zA j] 182))):=(Ag _ _).alloc (Al _) _;have bo:(w.alloc (zh #[.string p.l.name,.slice a1 p.l.args.length c1,.string p.r.name,.slice a2 p.r.args.length c2,zA j] 182)).heap.size=w.heap.size+1:=by simp
 go_enter func121,ntmps121;go_wp2_with fail;generalize (w.alloc (zh #[.string p.l.name,.slice a1 p.l.args.length c1,.string p.r.name,.slice a2 p.r.args.length c2,zA j] 182))=w1 at *;have U:=gS S q f h i.o.good i.o.names p i.o.head j hj aZ.o (i.o.size p (by simp)) a1 c1 a2 c2 w1 _ Y (λb hb hm=>by
  rcases hb with hb|hb
  ·rcases hm with e|e
   ·exact hb.2.1 e
   ·exact hb.2.2 e
  ·rcases hm with e|e<;>omega) (aX.o.later G.o) (aY.o.later G.o) ((Dh S q f h).below HE.o G.o)
 rw[R.o,T.o]at U;refine U.mono ?_;clear U;rintro e w2 ⟨s1,c,m,k1,s2,d,n,k2,ok,f',Y',rfl,aL,ao,hx,hc⟩;have ba:Hid (Ak (BZ S q) w w2):=(Ak.ofBelow G.o).trans hx;have bb:=Aa aL;have W:Hid (∀b,Y' b->some b≠f.ownBlock):=λb hb e=>by
  rcases ao b hb with h1|h1
  ·exact HY.o b h1 e
  ·have:=(x.o.own.lt b e.symm).2; omega
 have bp:w.heap.size+1<=w2.heap.size:=by have:=hx.size; omega
 have Z:=Aa hc;clear aL ao hx hc;have H:Below w2.heap.size w2 ((w2.alloc (zh #[.string s1,.slice c m k1] 31)).alloc (zh #[.string s2,.slice d n k2] 31)):=EJ _ _;have aC:=Aa H;have y:Hid (Ac ((w2.alloc (zh #[.string s1,.slice c m k1] 31)).alloc (zh #[.string s2,.slice d n k2] 31)) w2.heap.size #[.string s1,.slice c m k1] 31):=(Ac.new w2 _ _).alloc _;have B3:Hid (Ac ((w2.alloc (zh #[.string s1,.slice c m k1] 31)).alloc (zh #[.string s2,.slice d n k2] 31)) (w2.heap.size+1) #[.string s2,.slice d n k2] 31):=(by have h1:=Ac.new (w2.alloc (zh #[.string s1,.slice c m k1] 31)) #[.string s2,.slice d n k2] 31;rw[Cp]at h1;exact h1);have bc:((w2.alloc (zh #[.string s1,.slice c m k1] 31)).alloc (zh #[.string s2,.slice d n k2] 31)).heap.size=w2.heap.size+2:=by simp
 have s:=Aa ((Dh S q f h).below bb.o H);have t:Hid (Ak (BZ S q) w ((w2.alloc (zh #[.string s1,.slice c m k1] 31)).alloc (zh #[.string s2,.slice d n k2] 31))):=ba.o.trans (Ak.ofBelow H);clear H;rcases Z.o with ⟨rfl,rfl,rfl,rfl,rfl,rfl,aM,aN,aO,aP⟩|⟨rfl,aq⟩
 ·have ah:∀(a:Option Addr) (l:List Tm),Sl w2 (λb=>(((b<N/\b≠S/\b≠q)∨(N<=b/\some b≠f.ownBlock))/\b<w1.heap.size)∨w1.heap.size<=b) a l->Sl w2 (λb=>(b<N/\b≠S/\b≠q)∨(N<=b/\some b≠f.ownBlock)) a l:=λa l bd=>bd.mono λb hb _=>by
   rcases hb with hb|hb
   ·exact hb.1
   ·refine Ad ⟨by omega,λe=>?_⟩;have:=(x.o.own.lt b e.symm).2; omega
  have aD:=Aa ((ah _ _ aO).later aC.o);have aE:=Aa ((ah _ _ aP).later aC.o);have aQ:Hid (∀b,((b<N/\b≠S/\b≠q)∨(N<=b/\some b≠f.ownBlock))->¬BZ S q b):=λb hb hm=>by
   rcases hb with hb|hb
   ·rcases hm with e|e
    ·exact hb.2.1 e
    ·exact hb.2.2 e
   ·rcases hm with e|e<;>omega
  have aR:Hid (∀b,((b<N/\b≠S/\b≠q)∨(N<=b/\some b≠f.ownBlock))->some b≠f.ownBlock):=λb hb=>by
   rcases hb with hb|hb
   ·exact x.o.ne hb.1
   ·exact hb.2
  have u:=Aa aM;have z:=Aa aN;have a0:((w2.alloc (ze ta c k1)).alloc (ze tb d k2)).cell? (zD w2.heap.size 0)=some (.string ta.name):=y.o.cell 0;have aS:((w2.alloc (ze ta c k1)).alloc (ze tb d k2)).cell? (zD w2.heap.size 1)=some (.slice c ta.args.length k1):=y.o.cell 1;have b0:((w2.alloc (ze ta c k1)).alloc (ze tb d k2)).cell? (zD (w2.heap.size+1) 0)=some (.string tb.name):=B3.o.cell 0;have aT:((w2.alloc (ze ta c k1)).alloc (ze tb d k2)).cell? (zD (w2.heap.size+1) 1)=some (.slice d tb.args.length k2):=B3.o.cell 1;clear ah aO aP aM aN Z;cases I:Aj ta.name with
  |true=>have aa:=Aa I;have aF:Hid (tb.name≠ta.name->Bu ta.name [tb]=false->Ia (Ar h) ta.name tb):=λ_ ho=>(i.o.bindV aa.o (Ae ⟨by rw[R.o],by rw[T.o]⟩) (by rw[LH aa.o,ho]; simp)).1;clear I;go_wp2_with (go_at_call 65; refine(BR _ _).mono ?_; rintro e w' ⟨rfl,rfl⟩; rw[aa.o]);generalize ((w2.alloc (ze ta c k1)).alloc (ze tb d k2))=w3 at *;refine(Uf S q f h i.o.good ta.name tb aF.o d k2 w3 _ Y' aQ.o aE.o s.o).mono ?_;rintro e w4 ⟨k,C⟩;have D:=Aa (Um (ta:=ta) (tb:=tb) (cs:=cs) E F M x.o W.o aR.o t.o k u.o z.o (λl=>by unfold CZ; rw[Ah (by have:=u.o; have:=z.o; omega),Ao aa.o]) aa.o (Ae ⟨rfl,rfl⟩) C);obtain⟨code,rfl,ab⟩:=D.o;clear C;have aU:=Aa k;have aj:=Aa ab;clear k ab D;go_wp2_with fail;go_ret;exact⟨code,rfl,aj.o⟩
  |false=>
   have aa:=Aa I;clear I;cases J:Aj tb.name with
   |true=>
    have g:=Aa J;have aF:Hid (ta.name≠tb.name->Bu tb.name [ta]=false->Ia (Ar h) tb.name ta):=λ_ ho=>(i.o.bindV g.o (Ad ⟨by rw[T.o],by rw[R.o]⟩) (by rw[LH g.o,ho]; simp)).1;have bf:Hid (tb.name≠ta.name):=λe=>by
     have h1:=aa.o;have h2:=g.o;rw[e,h1]at h2; cases h2
    clear J;go_wp2_with (go_at_call 65; refine(BR _ _).mono ?_; rintro e w' ⟨rfl,rfl⟩; (first|rw[aa.o]|rw[g.o]));generalize ((w2.alloc (ze ta c k1)).alloc (ze tb d k2))=w3 at *;refine(Uf S q f h i.o.good tb.name ta aF.o c k1 w3 _ Y' aQ.o aD.o s.o).mono ?_;rintro e w4 ⟨k,C⟩;have D:=Aa (Um (ta:=ta) (tb:=tb) (cs:=cs) E F M x.o W.o aR.o t.o k u.o z.o (λl=>by unfold CZ; rw[Ah (by have:=u.o; have:=z.o; omega),Ah (by rw[aa.o]; simp),Ao g.o,Ah bf.o]) g.o (Ad ⟨rfl,rfl⟩) C);obtain⟨code,rfl,ab⟩:=D.o;clear C;have aj:=Aa ab;clear k ab D;go_wp2_with fail;go_ret;exact⟨code,rfl,aj.o⟩
   |false=>
    have g:=Aa J;clear J;have L:Hid (Ak (λb=>b=S∨b=q∨some b=f.ownBlock) w ((w2.alloc (ze ta c k1)).alloc (ze tb d k2))):=t.o.mono λb hb _=>by
     rcases hb with h1|h1
     ·exact Ae h1
     ·exact Ad (Ae h1)
    have aG:Hid (∀l,CZ false (Ar h) l ta tb=if ta.name=tb.name/\ta.args.length=tb.args.length then .go (Ar h) (AE ta.args tb.args++l) else .stop 5 (Ar h)):=λl=>by
     unfold CZ;rw[Ah (by have:=u.o; have:=z.o; omega),Ah (by rw[aa.o]; simp),Ah (by rw[g.o]; simp)]
    by_cases v:ta.name=tb.name
    ·have bg:=KO v;by_cases A:ta.args.length=tb.args.length
     ·have aV:=Aa A;have bh:=Aa v;have bq:ta.args.length<=2000:=(by have h1:=E4 ta.args;have h2:=LC ta;have h3:=u.o;omega);have bj:h.length<=1000000000:=by have:=i.o.hlen; omega
      dsimp only[ze,zF]at s t L aD aE;rw[A]at s t L aD aE;clear v y B3 aC a0 aS b0 aT bc;have y:Hid (Ac ((w2.alloc (zh #[.string ta.name,.slice c tb.args.length k1] 31)).alloc (ze tb d k2)) w2.heap.size #[.string ta.name,.slice c tb.args.length k1] 31):=(Ac.new w2 _ _).alloc _;have B3:Hid (Ac ((w2.alloc (zh #[.string ta.name,.slice c tb.args.length k1] 31)).alloc (ze tb d k2)) (w2.heap.size+1) (zF tb d k2) 31):=by
       have h1:=Ac.new (w2.alloc (zh #[.string ta.name,.slice c tb.args.length k1] 31)) (zF tb d k2) 31;rw[Cp]at h1;exact h1
      have a0:((w2.alloc (zh #[.string ta.name,.slice c tb.args.length k1] 31)).alloc (ze tb d k2)).cell? (zD w2.heap.size 0)=some (.string ta.name):=y.o.cell 0;have aS:((w2.alloc (zh #[.string ta.name,.slice c tb.args.length k1] 31)).alloc (ze tb d k2)).cell? (zD w2.heap.size 1)=some (.slice c tb.args.length k1):=y.o.cell 1;have b0:((w2.alloc (zh #[.string ta.name,.slice c tb.args.length k1] 31)).alloc (ze tb d k2)).cell? (zD (w2.heap.size+1) 0)=some (.string tb.name):=B3.o.cell 0;have aT:((w2.alloc (zh #[.string ta.name,.slice c tb.args.length k1] 31)).alloc (ze tb d k2)).cell? (zD (w2.heap.size+1) 1)=some (.slice d tb.args.length k2):=B3.o.cell 1;go_wp2_with (go_at_call 65; refine(BR _ _).mono ?_; rintro e w' ⟨rfl,rfl⟩; (first|rw[aa.o]|rw[g.o]));generalize ((w2.alloc (zh #[.string ta.name,.slice c tb.args.length k1] 31)).alloc (ze tb d k2))=w3 at *;have aW:CW w3 N (λb=>b<N/\b≠S/\b≠q) f cs:=x.o.exq t.o (λb hb=>by rcases hb with rfl|rfl; exact E; exact F) (λb hb B=>by
       rcases hb with h1|h1
       ·exact B.2.1 h1
       ·exact B.2.2 h1)
      have AH:=gZ S q N h cs ta.args tb.args A (by omega) bj c d k1 k2 w3 f Y' s.o aW W.o E F (Bf M t.o.size) aD.o aE.o;rw[A]at AH;refine AH.mono ?_;clear AH;rintro e w4 ⟨rfl,bk,hT,hC,k⟩;have HT:=Aa hT;have bl:=Aa hC;have aU:Hid (Ak (λb=>b=S∨b=q∨some b=f.ownBlock) w w4):=L.o.trans (k.mono λb hb _=>hb.imp id Ad);clear hT hC k aW;go_wp2_with fail;go_ret;exact⟨0,rfl,aU.o,Ad ⟨rfl,u.o,z.o,h,bk,AE ta.args tb.args,HT.o,bl.o,λl=>by rw[aG.o,Ao ⟨bh.o,aV.o⟩],Ad (Ad ⟨rfl,rfl,aV.o⟩)⟩⟩
     ·have br:((ta.args.length:Int)==(tb.args.length:Int))=false:=FY.2 (by omega);have aH:Hid (¬(ta.name=tb.name/\ta.args.length=tb.args.length)):=λB=>A B.2;clear A v;go_wp2_with (go_at_call 65; refine(BR _ _).mono ?_; rintro e w' ⟨rfl,rfl⟩; (first|rw[aa.o]|rw[g.o]));go_ret;exact⟨5,rfl,L.o,Ae ⟨by decide,false,Y',f,s.o,Ad λl=>by rw[aG.o,Ah aH.o]⟩⟩
    ·have bg:=Oe v;have aH:Hid (¬(ta.name=tb.name/\ta.args.length=tb.args.length)):=λB=>v B.1;clear v;go_wp2_with (go_at_call 65; refine(BR _ _).mono ?_; rintro e w' ⟨rfl,rfl⟩; (first|rw[aa.o]|rw[g.o]));go_ret;exact⟨5,rfl,L.o,Ae ⟨by decide,false,Y',f,s.o,Ad λl=>by rw[aG.o,Ah aH.o]⟩⟩
 ·have aI:=Aa aq;clear aq Z;go_wp2_with fail;go_ret;refine⟨8,rfl,t.o.mono λb hb _=>?_,Ae ⟨by decide,f',Y',f,s.o,?_⟩⟩
  ·rcases hb with h1|h1
   ·exact Ae h1
   ·exact Ad (Ae h1)
  ·rcases aI.o with h1|h1
   ·exact Ae h1
   ·exact Ad λl=>by unfold CZ; rw[Ao h1]
open Go.RowKit Go.Shelf
attribute [local go_sem] Ho
theorem iB (F:Fence) (n:Nat) (b:F.fn 120) (aa:F.round=none) (v:Value) (w:World) (hv:∃a k c,v=.slice a k c):
  CallsIn F n prog 120 #[v] w λe w'=>e=.returned (.func (.func 135) #[] #[zC w.heap.size])/\w'=w.alloc (zh #[v] 23):=by
 obtain⟨a,k,c,rfl⟩:=hv;refine callsIn_of_wp func120 rfl b ?_ aa;simp only[ntmps120,Js,Bg,DB,Nat.reduceAdd,Nat.reduceSub,Jt,Ju,Jv,Jw,CE,Bj];gi_wp2
 go_ret;exact⟨rfl,rfl⟩
abbrev Yx:=Int×Pc
def Nf (x:Yx):Array Value:=#[zA x.1,.agg #[.string x.2.1.l.name,.slice x.2.2.1.1 x.2.1.l.args.length x.2.2.1.2,.string x.2.1.r.name,.slice x.2.2.2.1 x.2.1.r.args.length x.2.2.2.2]]
def Fh {P:Yx->Prop} (xs:List Pc) (hP:∀k (h:k<xs.length),P ((k:Int),xs[k])):(k:Nat)->k<=xs.length->List { x:Yx // P x}
 |0,_=>[]
 |k+1,h=>⟨((k:Int),xs[k]),hP k h⟩::Fh xs hP k (Nat.le_of_succ_le h)
theorem Un {P:Yx->Prop} {xs:List Pc} {hP:∀k (h:k<xs.length),P ((k:Int),xs[k])}:∀k (h:k<=xs.length),(Fh xs hP k h).length=k
 |0,_=>rfl
 |k+1,h=>by rw[Fh,Bg,Un k]
theorem Uo {P:Yx->Prop} {xs:List Pc} {hP:∀k (h:k<xs.length),P ((k:Int),xs[k])}:∀k (h:k<=xs.length),(Fh xs hP k h).map (λx=>x.1.2.1)=((xs.take k).map (·.1)).reverse
 |0,_=>by simp[Fh]
 |k+1,h=>by
  rw[Fh,Bo,Uo k,Ci (by omega),CI,List.reverse_append];rfl
def PF (w:World) (b o:Nat) (xs:List Pc):Prop:=∀j u,(C0 xs)[j]? = some u->w.cell? ⟨b,o+j,none⟩=some u
theorem iC (F:Fence) (n:Nat) (h6:F.fn 135) (z:F.round=none) (hn:1<=n) {P:Yx->Prop} {Kp:World->World->Prop} (D:∀A,Kp A A) (E:∀ {A B C:World},Kp A B->Kp B C->Kp A C) (l Bn b o c:Nat) (f:∀ {A B:World},Kp A B->B.heap[b]? = A.heap[b]? /\ B.heap[Bn]? = A.heap[Bn]?) (a:Option Addr) (xs:List Pc) (hP:∀k (h:k<xs.length),P ((k:Int),xs[k])) (ha:xs=[]∨a=some (zD b o)) (ao:xs.length<=1000000) (J g:List { x:Yx // P x}->World->Prop)
  (G:∀pre x W,J pre W->pre.length<xs.length->YieldAt F (n-1) prog l (Nf x.1) W λe W'=>
   (e=.returned (.bool true)/\J (pre++[x]) W'/\Kp W W')∨(e=.returned (.bool false)/\g (pre++[x]) W'))
  (W:World) (m:W.cell? (zD Bn 0)=some (.slice a xs.length c)) (q:PF W b o xs) (h0:J [] W):
  CallsIn F n prog 135 #[.func (.yield l) #[] #[],zC Bn] W λe W'=>(∃v,e=.returned v)/\
   ((∃r,r=Fh xs hP xs.length (Al _)/\J r W')∨(∃pre,pre <+: Fh xs hP xs.length (Al _)/\g pre W')):=by
 refine callsIn_of_wp func135 rfl h6 ?_ z;simp only[ntmps135,Js,Bg,DB,Nat.reduceAdd,Nat.reduceSub,Jt,Ju,Jv,Jw,CE,Bj];gi_wp2
 gi_loopw [3] (λi wr=>∃(k:Nat) (hk:k<=xs.length),i=zA ((k:Int)-1)/\Kp W wr/\∃pre,Fh xs hP xs.length (Al _)=pre++Fh xs hP k hk/\J pre wr) (λi wr=>(intOf i+1).toNat)
 case atStart=>exact⟨xs.length,Al _,by go_num,D _,[],rfl,h0⟩
 case round=>
  obtain⟨k,hk,rfl,hb,pre,aa,s⟩:=hrel;cases k with
  |zero=>
   gi_wp2
   go_end0
   exact⟨⟨_,rfl⟩,.inl ⟨pre,by rw[aa]; simp[Fh],s⟩⟩
  |succ k=>
   have H:((k+1:Nat):Int)-1=k:=(by omega);rw[H];obtain rfl:a=some (zD b o):=ha.resolve_left (λe=>by rw[e] at hk; simp at hk);rw[Fh]at aa;have I:pre.length<xs.length:=(by have h1:=Cb List.length aa;rw[Un]at h1;simp at h1;omega);have d:∀j u,(Ed xs[k])[j]? = some u->j<4->wr.cell? ⟨b,o+k*4+j,none⟩=some u:=λj u hu hj=>by
    rw[Ce (f hb).1,Nat.add_assoc];exact q _ _ (by rw[Kg xs k (by omega) j hj]; exact hu)
   have c0:=d 0 _ rfl (by decide);have c1:=d 1 _ rfl (by decide);have c2:=d 2 _ rfl (by decide);have c3:=d 3 _ rfl (by decide);simp only[Hp] at c0;have aq:wr.cell? (zD Bn 0)=some (.slice (some (zD b o)) xs.length c):=by rw[Ce (f hb).2]; exact m
   have ar:(k:Int)<(xs.length:Int):=(by omega);have ab:=hP k (by omega);obtain⟨fn,tmps,assign,body,hy,t⟩:=G pre ⟨((k:Int),xs[k]),ab⟩ wr s I;have y:=Aa aa;dsimp only[Nf] at hy t;obtain⟨x,hx⟩:∃x,xs[k]=x:=⟨_,rfl⟩;have au:=Aa hx;simp only[hx] at c0 c1 c2 c3 hy;clear d aa q m hx;gi_wp2
   refine t.mono ?_;rintro e W3 (⟨rfl,L,M⟩|⟨rfl,N⟩)
   ·gi_wp2
    go_roundw
    case rel=>exact⟨k,by omega,by go_num,E hb M,pre++[⟨((k:Int),xs[k]),ab⟩],by rw[y.o]; simp,L⟩
    case measure=>simp[intOf]
   ·gi_wp2
    refine Aq (results_none rfl _ _ _) rfl ?_;exact⟨⟨_,rfl⟩,.inr ⟨pre++[⟨((k:Int),xs[k]),ab⟩],⟨Fh xs hP k (by omega),by rw[y.o]; simp⟩,N⟩⟩
theorem iD (F:Fence) (n:Nat) (h6:F.fn 135) (ab:F.round=none) (e:1<=n) {P:Yx->Prop} {Kp:World->World->Prop} (f:∀A,Kp A A) (g:∀ {A B C:World},Kp A B->Kp B C->Kp A C) (Bn b o c:Nat) (i:∀ {A B:World},Kp A B->B.heap[b]? = A.heap[b]? /\ B.heap[Bn]? = A.heap[Bn]?) (a:Option Addr) (xs:List Pc) (hP:∀k (h:k<xs.length),P ((k:Int),xs[k])) (ha:xs=[]∨a=some (zD b o)) (m:xs.length<=1000000) (w:World) (q:b<w.heap.size) (aa:Bn<w.heap.size) (r:w.cell? (zD Bn 0)=some (.slice a xs.length c)) (s:PF w b o xs):
  SeqStopsK F n prog 135 #[zC Bn] (λx:{ x:Yx // P x}=>Nf x.1) Kp (λt=>t=Fh xs hP xs.length (Al _)) (λpre=>pre <+: Fh xs hP xs.length (Al _)) xs.length w:=λl J v W d _ _ y h0=>
 iC F n h6 ab e f g l Bn b o c i a xs hP ha m J v y W ((d.cell (p:=(zD Bn 0)) aa).trans r) (λj u hj=>(d.cell (p:=⟨b,o+j,none⟩) q).trans (s j u hj)) h0
theorem Up {w:World} {X:Nat->Prop}:∀(l:List Pr) (b o:Nat),(∀i (h:i<l.length),∃a1 c1 a2 c2,w.cell? ⟨b,o+i*4,none⟩=some (.string l[i].l.name)/\w.cell? ⟨b,o+i*4+1,none⟩=some (.slice a1 l[i].l.args.length c1)/\w.cell? ⟨b,o+i*4+2,none⟩=some (.string l[i].r.name)/\w.cell? ⟨b,o+i*4+3,none⟩=some (.slice a2 l[i].r.args.length c2)/\Sl w X a1 l[i].l.args/\Sl w X a2 l[i].r.args)->
  ∃cs:List Pc,cs.map (·.1)=l/\(∀j u,(C0 cs)[j]? = some u->w.cell? ⟨b,o+j,none⟩=some u)/\∀x∈cs,Sl w X x.2.1.1 x.1.l.args/\Sl w X x.2.2.1 x.1.r.args
 | [],b,o,_=>⟨[],rfl,λj u h=>by simp[C0] at h,λx h=>by cases h⟩
 |p::r,b,o,h=>by
  obtain⟨a1,c1,a2,c2,h1,h2,h3,c,d,h6⟩:=h 0 (by simp);obtain⟨cs,e,f,g⟩:=Up r b (o+4) λi hi=>by
   have a:=h (i+1) (by simpa using hi);simp only[FX] at a;rw[show o+(i+1)*4=o+4+i*4 by omega]at a;exact a
  simp only[Gs,Nat.zero_mul,Hp] at h1 h2 h3 c d h6;refine⟨(p,(a1,c1),(a2,c2))::cs,by simp[e],λj u hj=>?_,λx hx=>?_⟩
  ·rw[C0]at hj;match j,hj with
   |0,hj=>simp[Ed] at hj; subst hj; exact h1
   |1,hj=>simp[Ed] at hj; subst hj; exact h2
   |2,hj=>simp[Ed] at hj; subst hj; exact h3
   |3,hj=>simp[Ed] at hj; subst hj; exact c
   |j+4,hj=>rw[LZ (by simp[Ed])]at hj;have:=f j u (by simpa [Ed] using hj);rwa [show o+(j+4)=o+4+j by omega]
  ·rcases Bh.1 hx with rfl|hx
   ·exact⟨d,h6⟩
   ·exact g x hx
theorem iE (x:Pc):∀u∈Ed x,u.oneCell'=true:=λy hy=>by
 simp[Ed]at hy;rcases hy with rfl|rfl|rfl|rfl<;>rfl
theorem Uq:∀cs:List Pc,∀u∈C0 cs,u.oneCell'=true
 | [],u,h=>by cases h
 |x::r,u,h=>by
  rw[C0]at h;rcases Ba.1 h with h|h
  ·exact iE x u h
  ·exact Uq r u h
theorem QV.tail {p:Pr} {l:List Pr} (h:QV w X (.slice (some (zD b o)) n a) (p::l)):QV w X (.slice (if a=1 then some (zD b o) else some ⟨b,o+4,none⟩) l.length (a-1)) l:=by
 obtain⟨a',c',e,⟨aa,ab⟩,hq⟩:=h;simp at e;obtain⟨rfl,rfl,rfl⟩:=e;simp only[Bg] at aa ab;refine⟨_,_,rfl,⟨by omega,by omega⟩,?_⟩;by_cases h0:l=[]
 ·exact Ae h0
 ·have hp:0<l.length:=Gq.2 h0;rcases hq with hq|⟨b',o',e,d,hq⟩
  ·cases hq
  ·simp at e;obtain⟨rfl,rfl⟩:=e;refine Ad ⟨b,o+4,by rw[Ah (by omega)],d,λi hi=>?_⟩;have c:=hq (i+1) (by simpa using hi);simp only[FX] at c;rw[show o+(i+1)*4=o+4+i*4 by omega]at c;exact c
def Dz (t s:List Bd):Prop:=∀d∈s,Ai t ⟨d.nm,[]⟩=Ai t d.t
def Ee (t:List Bd) (l:List Pr):Prop:=∀p∈l,Ai t p.l=Ai t p.r
theorem iF (t:List Bd):Dz t []:=by simp[Dz]
theorem iG (ht:∀d∈t,Aj d.nm=true) (hs:∀d∈s,Aj d.nm=true) (ha:Dz t s):∀l:List Tm,Af l=0->At t (At s l)=At t l:=by
 intro l;induction l using Tm.indL with
 |h0=>intro _; simp[At]
 |h n l r aa ab=>
  intro he;obtain⟨g1,g2,g3⟩:=Ha he;rw[AY,AY,AY,ab g3];congr 1
  cases hv:Aj n with
  |false=>rw[Ff hs hv,Ff ht hv,Ff ht hv,aa g2]
  |true=>
   have e:=g1 hv;subst e;cases a:As s n with
   |none=>rw[Gd s,a]; rfl
   |some x=>rw[JK a];obtain⟨d,hd,b,c⟩:=FJ a;rw[<-c,<-ha d hd,b]
theorem LI (ht:∀d∈t,Aj d.nm=true) (hs:∀d∈s,Aj d.nm=true) (ha:Dz t s) {x:Tm} (he:Af [x]=0):Ai t (Ai s x)=Ai t x:=by
 have h:=iG ht hs ha [x] he;rw[AY,AY,AY]at h;simpa [At] using h
theorem iH (ht:∀d∈t,Aj d.nm=true) (hx:Aj x=true) (hs:∀d∈s,Af [d.t]=0):Dz t (CU s x u)↔(Dz t s/\Ai t ⟨x,[]⟩=Ai t u):=by
 have one:∀ {v:Tm},Ai t ⟨x,[]⟩=Ai t u->Af [v]=0->Ai t (Ai [⟨x,u⟩] v)=Ai t v:=λaa hv=>LI ht (by simpa using hx) (by simpa [Dz] using aa) hv;have hm:∀d,d∈CU s x u↔d∈s.map (Dr x u)++[⟨x,u⟩]:=λd=>(G8 _).mem_iff;constructor
 ·intro h;have aa:Ai t ⟨x,[]⟩=Ai t u:=h ⟨x,u⟩ ((hm _).2 (by simp));refine⟨λd hd=>?_,aa⟩;have h1:=h (Dr x u d) ((hm _).2 (GX _ (Bk.2 ⟨d,hd,rfl⟩)));simp only[Dr] at h1;rw[h1,one aa (hs d hd)]
 ·rintro⟨h,aa⟩ d hd;rcases Ba.1 ((hm d).1 hd) with hd|hd
  ·obtain⟨e,he,rfl⟩:=Bk.1 hd;simp only[Dr];rw[one aa (hs e he)];exact h e he
  ·have e:d=⟨x,u⟩:=(by simpa using hd);subst e;exact aa
theorem PG (ht:∀d∈t,Aj d.nm=true) (hx:Aj x=true):∀l:List Tm,Af l=0->Ax x l->Ab [Ai t ⟨x,[]⟩]<=Ab (At t l):=by
 intro l;induction l using Tm.indL with
 |h0=>intro _ ho; obtain⟨k,hk,_⟩:=ho; simp[Ap] at hk
 |h n l r aa ab=>
  intro he ho;obtain⟨g1,g2,g3⟩:=Ha he;have a:=Fw (Ai t ⟨n,l⟩) (At t r);rw[AY];rcases Dg.1 ho with rfl|ho|ho
  ·have e:=g1 hx;subst e;omega
  ·cases hv:Aj n with
   |false=>have:=aa g2 ho;rw[Ff ht hv]at a ⊢;have e:Ab [(⟨n,At t l⟩:Tm)]=1+Ab (At t l):=(by simp[Ab]);omega
   |true=>have e:=g1 hv;subst e;obtain⟨k,hk,_⟩:=ho;simp[Ap]at hk
  ·have:=ab g3 ho;omega
theorem iI (ht:∀d∈t,Aj d.nm=true) (hx:Aj x=true) (he:Af [u]=0) (a:x≠u.name) (ho:Ax x [u]):Ai t ⟨x,[]⟩≠Ai t u:=λb=>by
 obtain⟨n,k⟩:=u;obtain⟨g1,g2,_⟩:=Ha he;have aa:Ax x k:=by
  rcases Dg.1 ho with h|h|h
  ·exact absurd h.symm a
  ·exact h
  ·obtain⟨y,hy,_⟩:=h; simp[Ap] at hy
 cases hv:Aj n with
 |true=>have e:=g1 hv;subst e;obtain⟨y,hy,_⟩:=aa;simp[Ap]at hy
 |false=>
  have h1:=PG ht hx k g2 aa;rw[b,Ff ht hv]at h1;have e:Ab [(⟨n,At t k⟩:Tm)]=1+Ab (At t k):=by simp[Ab]
  omega
theorem Ur {t:List Bd}:∀ {a b:List Tm},a.length=b.length->(Ee t (AE a b)↔At t a=At t b)
 | [],[],_=>by simp[Ee,AE]
 | [],_::_,h=>by simp at h
 |_::_,[],h=>by simp at h
 |x::a,y::b,h=>by
  have c:=Ur (t:=t) (a:=a) (b:=b) (by simpa using h);rw[AE,AY,AY,Hj,<-c];simp[Ee]
theorem Ki (he:Af [u]=0) (hv:Aj u.name=true):u=⟨u.name,[]⟩:=by
 obtain⟨n,k⟩:=u;have:=(Ha he).1 hv;subst this;rfl
theorem PH (ht:∀d∈t,Aj d.nm=true) {V:List ByteArray} {p:Pr} {l:List Pr} (u:UI V h (p::l)):
  (∀e s',CZ false (Ar h) l (Ai (Ar h) p.l) (Ai (Ar h) p.r)=.stop e s'->e=8∨¬(Dz t (Ar h)/\Ai t p.l=Ai t p.r))/\
  (∀s' l',CZ false (Ar h) l (Ai (Ar h) p.l) (Ai (Ar h) p.r)=.go s' l'->∃h',s'=Ar h'/\UI V h' l'/\((Dz t (Ar h')/\Ee t l')↔(Dz t (Ar h)/\Ee t (p::l)))):=by
 have ok:=u.good.all;obtain⟨E,v⟩:=u.head;have F:=DG ok E;have A:=DG ok v;have i:Dz t (Ar h)->(Ai t p.l=Ai t p.r↔Ai t (Ai (Ar h) p.l)=Ai t (Ai (Ar h) p.r)):=λha=>by
  rw[LI ht ok.vars ha E,LI ht ok.vars ha v]
 have B:Ee t (p::l)↔(Ai t p.l=Ai t p.r/\Ee t l):=by simp[Ee]
 have I:=λx y=>u.bindV (x:=x) (t:=y);have J:=u.deep;have hse:∀d∈Ar h,Af [d.t]=0:=λd hd=>(ok.2.1 d hd).2;generalize Ai (Ar h) p.l=a at *;generalize Ai (Ar h) p.r=b at *;have aa:∀(x:ByteArray) (y:Tm),Aj x=true->x≠y.name->Af [y]=0->((x=a.name/\y=b)∨(x=b.name/\y=a))->(Dz t (Ar h)->(Ai t p.l=Ai t p.r↔Ai t ⟨x,[]⟩=Ai t y))->
   (∀e s',EC false (Ar h) l x y=.stop e s'->e=8∨¬(Dz t (Ar h)/\Ai t p.l=Ai t p.r))/\(∀s' l',EC false (Ar h) l x y=.go s' l'->∃h',s'=Ar h'/\UI V h' l'/\((Dz t (Ar h')/\Ee t l')↔(Dz t (Ar h)/\Ee t (p::l)))):=λx y hx L M N ab=>by
  unfold EC;by_cases ho:Bb x (AN [] (Ap [y]))=true
  ·rw[Ao ho];have hoc:Ax x [y]:=by
    apply EX;intro f;unfold Bb at ho;rw[D6]at ho;obtain⟨z,hz,e⟩:=ho;have v:z=x:=Ew (by simpa using e);subst v;rcases J6 _ _ _ hz with h1|⟨k,h1,h2,_⟩
    ·cases h1
    ·exact f ⟨k,h1,h2⟩
   refine⟨λe s' c=>Ad λj=>iI ht hx M L hoc ((ab j.1).1 j.2),λs' l' c=>by cases c⟩
  ·rw[Ah ho,Ah (by simp)];refine⟨λe s' c=>(by cases c),λs' l' c=>?_⟩;cases c;refine⟨h++[(x,y)],by rw[Je]; rfl,(I x y hx N ho).2,?_⟩;rw[Je,iH ht hx hse,B];constructor
   ·rintro⟨⟨h1,h2⟩,h3⟩;exact⟨h1,(ab h1).2 h2,h3⟩
   ·rintro⟨h1,h2,h3⟩;exact⟨⟨h1,(ab h1).1 h2⟩,h3⟩
 unfold CZ;by_cases hz:2000<Ab [a]∨2000<Ab [b]
 ·rw[Ao hz];refine⟨λe s' c=>(by cases c; exact Ae rfl),λs' l' c=>by cases c⟩
 rw[Ah hz];by_cases g:Aj a.name=true
 ·rw[Ao g];have G:=Ki F g;by_cases f:a.name=b.name
  ·rw[Ao f];refine⟨λe s' c=>(by cases c),λs' l' c=>?_⟩;cases c;have C:=Ki A (by rw[<-f]; exact g);refine⟨h,rfl,u.drop,?_⟩;rw[B];constructor
   ·rintro⟨h1,h2⟩;exact⟨h1,(i h1).2 (by rw[G,C,f]),h2⟩
   ·rintro⟨h1,_,h2⟩;exact⟨h1,h2⟩
  ·rw[Ah f];exact aa a.name b g f A (Ae ⟨rfl,rfl⟩) (λj=>by rw[i j,<-G])
 rw[Ah g];have O:Aj a.name=false:=by simpa using g
 by_cases m:Aj b.name=true
 ·rw[Ao m];have C:=Ki A m;exact aa b.name a m (λe=>g (by rw[<-e]; exact m)) F (Ad ⟨rfl,rfl⟩) (λj=>by rw[i j,<-C]; exact eq_comm)
 rw[Ah m];have P:Aj b.name=false:=by simpa using m
 have D:Ai t a=⟨a.name,At t a.args⟩:=(by obtain⟨n,k⟩:=a;exact Ff ht O k);have hb2:Ai t b=⟨b.name,At t b.args⟩:=(by obtain⟨n,k⟩:=b;exact Ff ht P k);by_cases o:a.name=b.name/\a.args.length=b.args.length
 ·rw[Ao o];refine⟨λe s' c=>(by cases c),λs' l' c=>?_⟩;cases c;refine⟨h,rfl,(J (by omega) (by omega) o.2).1,?_⟩;have R:Ee t (AE a.args b.args++l)↔(Ee t (AE a.args b.args)/\Ee t l):=by
   constructor
   ·intro c;exact⟨λq hq=>c q (GX _ hq),λq hq=>c q (N5 _ hq)⟩
   ·rintro⟨h1,h2⟩ q hq;rcases Ba.1 hq with hq|hq
    ·exact h1 q hq
    ·exact h2 q hq
  rw[R,B,Ur o.2];constructor
  ·rintro⟨h1,h2,h3⟩;exact⟨h1,(i h1).2 (by rw[D,hb2,h2,o.1]),h3⟩
  ·rintro⟨h1,h2,h3⟩;have s:=(i h1).1 h2;rw[D,hb2]at s;exact⟨h1,by injection s,h3⟩
 ·rw[Ah o];refine⟨λe s' c=>Ad ?_,λs' l' c=>by cases c⟩;rintro⟨h1,h2⟩;have s:=(i h1).1 h2;rw[D,hb2]at s;injection s with T h6
  have H:=Cb List.length h6;rw[Oy,Oy]at H;exact o ⟨T,H⟩
theorem Us {V:List ByteArray}:∀(n:Nat) (h:List (ByteArray×Tm)) (l:List Pr) (R:Int×List Bd),UI V h l->BG false n (Ar h) l=some R->
  ∃h',R.2=Ar h'/\BN h'/\GH h'/\(R.1=0->∀t,(∀d∈t,Aj d.nm=true)->(Dz t R.2↔(Dz t (Ar h)/\Ee t l)))/\(R.1≠0->R.1≠8->∀t,(∀d∈t,Aj d.nm=true)->¬(Dz t (Ar h)/\Ee t l))
 |0,h,l,R,u,a=>by cases a
 |n+1,h,[],R,u,a=>by
  simp[BG,G9]at a;subst a;exact⟨h,rfl,u.good,u.names,λ_ t _=>by simp[Ee],λh0=>absurd rfl h0⟩
 |n+1,h,p::l,R,u,a=>by
  rw[BG,Hy]at a;cases hp:CZ false (Ar h) l (Ai (Ar h) p.l) (Ai (Ar h) p.r) with
  |stop e s'=>
   rw[hp]at a;have b:s'=Ar h:=Tq (lim:=false) (l:=p::l) (e:=e) (by rw[Hy]; exact hp);simp at a;subst a;refine⟨h,b,u.good,u.names,λh0=>?_,λ_ h8 t ht=>?_⟩
   ·exfalso;have h0:e=0:=h0;subst h0;unfold CZ EC at hp;repeat' split at hp
    all_goals first|(cases hp; done)|(injection hp with h1 h2; exact absurd h1 (by decide))
   ·rcases(PH ht u).1 e s' hp with h1|h1
    ·exact absurd h1 h8
    ·rintro⟨h2,h3⟩;exact h1 ⟨h2,h3 p (by simp)⟩
  |go s' l'=>
   rw[hp]at a;obtain⟨h',rfl,c,_⟩:=(PH (t:=[]) (by simp) u).2 s' l' hp;obtain⟨h2,f,g,i,j,k⟩:=Us n h' l' R c a;have key:∀t,(∀d∈t,Aj d.nm=true)->((Dz t (Ar h')/\Ee t l')↔(Dz t (Ar h)/\Ee t (p::l))):=λt ht=>by
    obtain⟨h3,m,_,k3⟩:=(PH ht u).2 (Ar h') l' hp;rw[m];exact k3
   exact⟨h2,f,g,i,λh0 t ht=>(j h0 t ht).trans (key t ht),λh0 h8 t ht o=>k h0 h8 t ht ((key t ht).2 o)⟩
