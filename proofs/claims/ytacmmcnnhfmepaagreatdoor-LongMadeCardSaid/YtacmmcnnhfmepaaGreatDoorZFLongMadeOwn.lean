import Derived.Test.YtacmmcnnhfmepaaGreatDoorZELongMadeOwn
import Derived.Laws.EntriesVeiled
import Derived.Deep.RegionHeld
import Derived.RangeFuncNested
import Derived.RangeFuncBound
import Derived.RangeFuncCalls
import Derived.RangeFuncLeaves
import Derived.RangeFuncWrites
import Derived.Shelf.Abstract
import Derived.Shelf.RegionOpen
import Derived.OwnWalkIn
import Derived.TacticsInMore
import Derived.LoopNIn
import Derived.LoopIn
namespace Go.Proofs.YtacmmcnnhfmepaaGreatDoor
set_option linter.all false
set_option maxRecDepth 9999
set_option maxHeartbeats 0
open Go.RowKit Go.Proofs.Tryz
variable {s:List Bd} {t y:Tm} {WS w w' w1 w3 wr:World} {Mt Q X Y Z d:Nat->Prop} {h:List (ByteArray×Tm)} {F N O S b c c' c1 c2 c3 c5 cap g i j k n o q:Nat} {a u v v0 v1 v2 v3 v4 v5 v6:Value} {L:List (ByteArray×Value)} {f f':Bool} {nm x:ByteArray} {e:Ending} {l:List Pr} {V:List ByteArray} {p:Pr}
theorem Zi (b:∀d∈s,Av d.nm=true):∀l:List Tm,As l=0->Do (AF s) l=An s l:=by
 intro l;induction l using Tm.indL with
 |h0=>intro _; simp[Do,An]
 |h n l r c f=>
  intro he;obtain⟨g1,g2,g3⟩:=GP he;rw[Do,Bs,f g3,c g2];congr 1
  cases a:Av n with
  |false=>rw[EY b a,Gu,a]; rfl
  |true=>
   have e:=g1 a;subst e;rw[FN,Gu,a];cases AF s n with
   |none=>simp[An]
   |some x=>rfl
theorem TE (a:∀d∈s,Av d.nm=true) (he:As [t]=0):Du (AF s) t=Ag s t:=by
 have h:=Zi a [t] he;rw[MN,Bs]at h;simpa [An] using h
def Gw (h:List (ByteArray×Tm)):Prop:=∀i (hi:i<h.length),Ff h[i].1=true
def I9 (w:World) (Y:Nat->Prop) (h:List (ByteArray×Tm)) (i:Nat) (hi:i<h.length) (v:Value):Prop:=
 ∃(j:Nat) (a:Option Addr) (c:Nat),j<=h.length/\v=.agg #[.string (stood h i (max j (i+1)) hi).name,.slice a (stood h i (max j (i+1)) hi).args.length c,zA j]/\Sl w Y a (stood h i (max j (i+1)) hi).args
def ED (w:World) (Y:Nat->Prop) (h:List (ByteArray×Tm)) (L:List (ByteArray×Value)):Prop:=
 L.length=h.length/\∀i (hi:i<h.length) (hl:i<L.length),L[i].1=h[i].1/\I9 w Y h i hi L[i].2
theorem I9.imp {hi:i<h.length} (b:∀a l,Sl w Y a l->Sl w' Z a l) (e:I9 w Y h i hi v):I9 w' Z h i hi v:=by
 obtain⟨j,a,c,h1,h2,h3⟩:=e;exact⟨j,a,c,h1,h2,b _ _ h3⟩
theorem ED.imp (c:∀a l,Sl w Y a l->Sl w' Z a l) (e:ED w Y h L):ED w' Z h L:=
 ⟨e.1,λi hi b=>⟨(e.2 i hi b).1,(e.2 i hi b).2.imp c⟩⟩
theorem TF:∀(L:List (ByteArray×Value)) (i:Nat) (hi:i<L.length),(∀k (hk:k<L.length),k<i->L[k].1≠L[i].1)->BK L L[i].1=some L[i].2
 | [],i,hi,_=>by simp at hi
 |p::r,0,hi,_=>by simp[BK]
 |p::r,i+1,hi,h=>by
  have h0:=h 0 (by simp) (by omega);simp only[Gc,FG] at h0 ⊢;rw[BK,Am h0];refine TF r i (by simpa using hi) λk hk aa=>?_;have:=h (k+1) (by simpa using hk) (by omega);simpa using this
theorem TG:∀(L:List (ByteArray×Value)) (n:ByteArray),(∀k (hk:k<L.length),L[k].1≠n)->BK L n=none
 | [],n,_=>rfl
 |p::r,n,h=>by
  have h0:=h 0 (by simp);simp only[Gc] at h0;rw[BK,Am h0];exact TG r n λk hk=>by have:=h (k+1) (by simpa using hk); simpa using this
theorem TH:∀(L:List (ByteArray×Value)) (i:Nat) (hi:i<L.length) (v:Value),(∀k (hk:k<L.length),k<i->L[k].1≠L[i].1)->Hh L L[i].1 v=L.set i (L[i].1,v)
 | [],i,hi,v,_=>by simp at hi
 |p::r,0,hi,v,_=>by simp[Hh]
 |p::r,i+1,hi,v,h=>by
  have h0:=h 0 (by simp) (by omega);simp only[Gc,FG] at h0 ⊢;rw[Hh,Am h0,TH r i (by simpa using hi) v λk hk aa=>by have:=h (k+1) (by simpa using hk) (by omega); simpa using this];rfl
theorem ED.apart (e:ED w Y h L) (g:Cn h) (i:Nat) (hi:i<L.length):∀k (hk:k<L.length),k<i->L[k].1≠L[i].1:=λk hk aa a=>by
 have hl:=e.1;rw[(e.2 k (by omega) hk).1,(e.2 i (by omega) hi).1]at a;have:=g.once (by omega) (by omega) a;omega
theorem ED.get (e:ED w Y h L) (g:Cn h) (hi:i<h.length):∃v,BK L h[i].1=some v/\I9 w Y h i hi v:=by
 have a:i<L.length:=by rw[e.1]; exact hi
 have h1:=TF L i a (e.apart g i a);rw[(e.2 i hi a).1]at h1;exact⟨_,h1,(e.2 i hi a).2⟩
theorem ED.none (e:ED w Y h L) {n:ByteArray} (a:∀i (hi:i<h.length),h[i].1≠n):BK L n=none:=
 TG L n λk hk=>by rw[(e.2 k (by rw[<-e.1]; exact hk) hk).1]; exact a k _
theorem ED.set (e:ED w Y h L) (g:Cn h) (hi:i<h.length) (c:I9 w Y h i hi v):ED w Y h (Hh L h[i].1 v):=by
 have a:i<L.length:=by rw[e.1]; exact hi
 have h1:=TH L i a v (e.apart g i a);rw[(e.2 i hi a).1]at h1;rw[h1];refine⟨by simp[e.1],λk hk d=>?_⟩;by_cases b:i=k
 ·subst b;simp only[List.getElem_set_self];exact⟨trivial,c⟩
 ·rw[List.getElem_set_ne b];exact e.2 k hk (by simpa using d)
theorem JN (g:Cn h) (hi:i<h.length):AF (Aj h) h[i].1=some (stood h i h.length hi):=by
 obtain⟨d,hd,e⟩:=(g.bound h.length (Af _) h[i].1).2 ⟨i,hi,hi,rfl⟩;rw[G8]at hd;obtain⟨t,ht⟩:=Rl hd;rw[e]at ht;rw[ht];unfold stood;rw[G8,IJ ht]
theorem Zj (g:Cn h) {n:ByteArray} (a:∀i (hi:i<h.length),h[i].1≠n):AF (Aj h) n=none:=by
 cases b:AF (Aj h) n with
 |none=>rfl
 |some x=>obtain⟨d,hd,e,_⟩:=Fv b;have h1:=(g.bound h.length (Af _) n).1 ⟨d,by rw[G8]; exact hd,e⟩;obtain⟨i,hi,_,h2⟩:=h1;exact absurd h2 (a i hi)
theorem TI (g:Cn h) (a:Gw h) (hi:i<h.length) (b:j<=h.length):As [stood h i j hi]=0:=EZ (g.ok j b) (Mj (a i hi))
theorem Zk (g:Cn h) (a:Gw h) (hi:i<h.length) (b:j<=h.length):Du (AF (Aj h)) (stood h i j hi)=stood h i h.length hi:=by
 rw[TE g.all.vars (TI g a hi b),Tx g hi b (a i hi)]
theorem TJ (g:Cn h) (hi:i<h.length) (hz:2000<Ah [stood h i h.length hi]):AV (Aj h)=true:=by
 obtain⟨d,hd,e1,e2⟩:=Fv (JN g hi);unfold AV;rw[Fc];exact⟨d,hd,by rw[e2]; simpa using hz⟩
def Cv (S q:Nat) (td:Value) (h:List (ByteArray×Tm)):Ev:=λf Y w=>
 (∃L,Ab w S #[td,.map (some q),.bool f] 162/\BI w q L/\ED w (λb=>Y b/\b≠S/\b≠q) h L)/\Y S/\Y q/\(∀b,Y b->b<w.heap.size)/\(f=true->AV (Aj h)=true)
def Cw (S q:Nat):Nat->Prop:=λb=>b=S∨b=q
theorem DA (S q:Nat) (d:Value) (h:List (ByteArray×Tm)):Gv (Cv S q d h) (Cw S q):=by
 refine⟨λf Y w w' he hk=>?_,λf Y w he=>he.2.2.2.1,λf Y w he b hb=>?_⟩
 ·obtain⟨⟨L,h1,h2,h3⟩,c,h5,h6,e⟩:=he;refine⟨⟨L,?_,h2.kept (hk q h5),h3.imp λa l g=>g.kept λb hb=>hk b hb.1⟩,c,h5,λb hb=>?_,e⟩
  ·unfold Ab at *; rw[hk S c]; exact h1
  ·have h8:=hk b hb;have i:=h6 b hb;apply Er;intro hn;rw[Iz (by omega),Lq i]at h8;cases h8
 ·rcases hb with rfl|rfl
  ·exact he.2.1
  ·exact he.2.2.1
def JO (Mt:Nat->Prop) (w:World) (F O:Nat) (s:ByteArray) (u:Value) (cF:Array Value) (wr:World):Prop:=
 Al (λb=>b=F∨Mt b) w wr/\Ab wr (w.heap.size+1) ze 61/\Ab wr O #[.string s,u] 61/\Ab wr F cF 144/\O<wr.heap.size
theorem Zl {s:ByteArray} {j g:Array Value} {a:Obj} (af:F<w.heap.size) (l:∀b,Mt b->b<w.heap.size) (hO:w.heap.size+2<=O) (h:JO Mt w F O s u j wr) (hu:∀k,u.ownBlock=some k->O+1<=k)
  (d:Al (λb=>b=F∨Mt b) wr w1) (m:Ab w1 F g 144) (c:(w1.alloc a).grownBy w3 u.ownBlock):JO Mt w F O s v g (w3.setCell (zD O 1) v):=by
 obtain⟨h1,h2,h3,h4,h5⟩:=h;have f:∀b,b<O+1->some b≠u.ownBlock:=λb hb e=>by have:=hu b e.symm; omega
 have i:∀b,w.heap.size<=b->¬(b=F∨Mt b):=λb hb h=>by
  rcases h with h|h
  ·omega
  ·have:=l b h; omega
 have ag:=d.size;have n:=c.size;simp at n;refine⟨(((h1.trans d).alloc a).grown c (λk hk=>Ad (by have:=hu k hk; omega))).setNew (by omega) _ _,?_,?_,?_,by simp[World.setCell]; omega⟩
 ·exact(((h2.exq d (i _ (by omega))).alloc a).grown c (f _ (by omega))).setOther _ _ (by omega)
 ·exact(((h3.exq d (i _ (by omega))).alloc a).grown c (f _ (by omega))).set 1 _
 ·exact((m.alloc a).grown c (f _ (by omega))).setOther _ _ (by omega)
theorem Zm {L:List Tm} {xs:List Value} {a:Obj} {s':ByteArray} {c:Option Addr} {d:Nat} (e:∀b,Q b->b<O) (hOr:O<wr.heap.size) (f:Cp wr (O+1) 61 (λ_=>False) u L xs)
  (i:Al Q wr w1) (ht:TV w1 (λb=>wr.heap.size<=b) (.agg #[.string s',.slice c d c1]) t)
  (j:w3.ownsRow (O+1) 61 2 (.slice (some (zD g 0)) (L.length+1) cap) (L.length+1) (xs++[.string s',.slice c d c1])) (k:(w1.alloc a).grownBy w3 u.ownBlock) (l:u.ownBlock=some g∨g=(w1.alloc a).heap.size):
  Cp (w3.setCell (zD O 1) (.slice (some (zD g 0)) (L.length+1) cap)) (O+1) 61 (λ_=>False) (.slice (some (zD g 0)) (L.length+1) cap) (L++[t]) (xs++[.string s',.slice c d c1]):=by
 obtain⟨wm,m,ai,n⟩:=i.mid;have o:=f.exq n (λb hb=>by have:=e b hb; omega) (λ_ _ h=>h);exact(o.push (w1:=w1) (w2:=w1.alloc a) (w3:=w3) (by omega) (λ_ h=>h.elim) m (ht.mono λb h _=>Ae (by omega)) a rfl j k l).setCell (by omega) (λh=>h) _
def KJ (E:Ev) (O:Nat) (f:Bool) (Y:Nat->Prop) (u:Value) (f':Bool) (Y':Nat->Prop) (wr:World):Prop:=
 E f' Y' wr/\(∀b,Y' b->Y b∨O+1<=b)/\(∀b,Y' b->some b≠u.ownBlock)/\(f=true->f'=true)
def Zn (E:Ev) (Mt:Nat->Prop) (lk:ByteArray->Option Tm) (w:World) (F O:Nat) (s:ByteArray) (sv:Value) (l:List Tm) (n:Nat) (f:Bool) (Y:Nat->Prop) (i:Value) (wr:World):Prop:=
 ∃(k:Nat) (u:Value) (f':Bool) (Y':Nat->Prop),k<=l.length/\i=zA k/\KJ E O f Y u f' Y' wr/\
  ((∃(m:Nat) (xs:List Value) (Mk:List Tm),Mk.length=k/\(m:Int)=(n:Int)-1-Ah Mk/\JO Mt w F O s u #[zA m,sv] wr/\Cp wr (O+1) 61 (λ_=>False) u Mk xs/\(f'=false->Mk=Do lk (l.take k)))∨
   (JO Mt w F O s u #[zA (-1),sv] wr/\(∃a9 l9 c9,u=.slice a9 l9 c9)/\(f'=false->n<1+Ah (Do lk l))))
theorem Zo {E:Ev} (c:Gv E Mt) {f1:Bool} {a:Nat->Prop} {i:Obj} {n9:Nat} {x:Value} (q:∀b,Y b->b<O) (h:KJ E O f Y u f' d wr) (hu:∀k,u.ownBlock=some k->k<wr.heap.size) (hOr:O<wr.heap.size) (al:wr.heap.size<=w1.heap.size)
  (j:E f1 a w1) (l:∀b,a b->d b∨wr.heap.size<=b) (r:f'=true->f1=true) (s:(w1.alloc i).grownBy w3 u.ownBlock) (t:u.ownBlock=some g∨g=(w1.alloc i).heap.size):
  KJ E O f Y (.slice (some (zD g 0)) n9 cap) f1 a (w3.setCell (zD O 1) x):=by
 obtain⟨h1,h2,h3,v⟩:=h;have m:=c.inY _ _ _ j;have n:∀b,a b->some b≠u.ownBlock:=λb hb e=>by
  rcases l b hb with h|h
  ·exact h3 b h e
  ·have:=hu b e.symm; omega
 have o:∀b,a b->Y b∨O+1<=b:=λb hb=>by
  rcases l b hb with h|h
  ·exact h2 b h
  ·right; omega
 refine⟨c.keep _ _ _ _ j λb hb=>?_,o,λb hb e=>?_,λh=>r (v h)⟩
 ·have y:b≠O:=λe=>by
   rcases o b hb with h|h
   ·have:=q b h; omega
   ·omega
  have z:=m b hb;rw[Ak _ _ _ _ (by simpa using y),s.block b (by simp; omega) (n b hb),BL _ _ _ z]
 ·have e2:b=g:=by simpa [Value.ownBlock] using e
  subst e2;rcases t with h|h
  ·exact n b hb h.symm
  ·have:=m b hb; simp at h; omega
theorem Ov {E:Ev} (e:Gv E Mt) {s:ByteArray} {c:Tm} {g:Nat->Prop} {d:Option Addr} {l':Nat} {m:Int} (hF:F<w.heap.size) (i:∀b,Y b->b<w.heap.size) (hO:w.heap.size+2<=O)
  (h1:JO Mt w F O s u #[zA m,a] wr) (h2:KJ E O f Y u f' g wr) (hc:I8 w c n f' s d l' m 2 wr):
  Hr E Mt F a c n f Y w (.returned (.agg #[.string s,.slice d l' c'])) ((wr.setCell (zD (w.heap.size+1) 0) v0).setCell (zD (w.heap.size+1) 1) v1):=
 JM e hF i h1.2.2.2.1 h1.1 h2.1 (λb hb=>(h2.2.1 b hb).imp id λh=>by omega) h2.2.2.2 hc
theorem Zr {E:Ev} (c:Gv E Mt) {b:Tm} (h:Hr E Mt F a b n f Y w e w') (o:Obj):Hr E Mt F a b n f Y w e (w'.alloc o):=by
 obtain⟨s',d,l',c',m,f',g,he,h1,h2,h3,i,h5,h6⟩:=h;refine⟨s',d,l',c',m,f',g,he,h1.alloc o,h2.alloc o,c.below h3 ((Ac _ _).alloc (Af _) o),i,h5,?_⟩;rcases h6 with ⟨y,e1,e2,e3,j,e5,k⟩|h6
 ·exact Ad ⟨y,e1,e2,e3,j,e5.later ((Ac _ _).alloc (Af _) o),k⟩
 ·exact Ae h6
theorem TL {l:List Tm} (h:k<l.length) (ho:Ay nm [l[k]]):Ay nm l:=by
 have:l=l.take k++(l[k]::l.drop (k+1)):=by rw[List.getElem_cons_drop,FH]
 rw[this,Mm,Cm];exact Ae (Ad ho)
theorem Zs {E:Ev} (B:Gv E Mt) (F S:Nat) (r:ByteArray->Option Tm) (t:Tm):∀(n:Nat) (v:Value) (w:World) (X Y:Nat->Prop) (f:Bool),TV w X v t->(∀b,X b->b≠F/\¬Mt b)->n<=1000000->Ab w F #[zA n,sV S] 144->E f Y w->¬Y F->(∀nm,Ay nm t.args->Av nm=true->GT E Mt S (r nm) nm)->
  Calls prog 122 #[zC F,v,.func (.func 107) #[zC F] #[]] w λe w'=>Hr E Mt F (sV S) ⟨t.name,Do r t.args⟩ n f Y w e w':=by
 induction t using Tm.ind with
 |h s l ih=>
  intro n v w X Y f L aD hn hF V aE hL;obtain⟨a,c,rfl,hs⟩:=L;(try dsimp only[zG]);(try dsimp only[zH]);(try dsimp only[zE]);(try dsimp only);have H:Hid (∀b,Y b->b<w.heap.size):=B.inY _ _ _ V;have ay:Hid (∀b,Mt b->b<w.heap.size):=λb hb=>H.o b (B.mt _ _ _ V b hb);have HL:=Aa hL;have aU:=Aa V;clear hL V;generalize aV:sV S=W at *;have IH:=Aa ih;clear ih;obtain⟨i0,aW,aX,aY,aZ⟩:=Dw Tryz.infoTerm;have f0:∀o,(w.alloc o).cell? (zD F 0)=some (zA n):=λo=>(hF.alloc o).cell 0;have ff:∀o,(w.alloc o).frozen? (zD F 0)=false:=λo=>(hF.alloc o).frozen 0;have Z:F<w.heap.size:=hF.lt;go_in;go_wp2_with fail;have E3:Hid (JO Mt w F (w.heap.size+1+1) s zB #[zA ((n:Int)-1),W] ((((w.setCell (zD F 0) (zA ((n:Int)-1))).alloc (zp #[.string s,.slice a l.length c] 61)).alloc zd).alloc (zp #[.string s,zB] 61))):=by
   refine⟨((((Al.refl _ w).set (Ad rfl) 0 _).alloc _).alloc _).alloc _,?_,?_,(((hF.set 0 _).alloc _).alloc _).alloc _,by simp[World.setCell]⟩
   ·have h:=(Ab.new ((w.setCell (zD F 0) (zA ((n:Int)-1))).alloc (zp #[.string s,.slice a l.length c] 61)) ze 61).alloc (zp #[.string s,zB] 61);simpa [World.setCell] using h
   ·have h:=Ab.new (((w.setCell (zD F 0) (zA ((n:Int)-1))).alloc (zp #[.string s,.slice a l.length c] 61)).alloc zd) #[.string s,zB] 61;simpa [World.setCell] using h
  have ba:Hid (KJ E (w.heap.size+1+1) f Y zB f Y ((((w.setCell (zD F 0) (zA ((n:Int)-1))).alloc (zp #[.string s,.slice a l.length c] 61)).alloc zd).alloc (zp #[.string s,zB] 61))):=(by refine⟨B.keep _ _ _ _ aU.o λb hb=>?_,λb hb=>Ad hb,λb _ e=>by simp[Value.ownBlock] at e,λh=>h⟩;have h1:=H.o b hb;rw[BL _ _ _ (by simp[World.setCell]; omega),BL _ _ _ (by simp[World.setCell]; omega),BL _ _ _ (by simpa [World.setCell] using h1),Ak _ _ _ _ (by simp; intro e; subst e; exact aE hb)]);generalize ((((w.setCell (zD F 0) (zA ((n:Int)-1))).alloc (zp #[.string s,.slice a l.length c] 61)).alloc zd).alloc (zp #[.string s,zB] 61))=w3 at *;generalize bb:w.heap.size+1+1=O at *;have hO:w.heap.size+2<=O:=by omega
  clear bb;clear f0 ff;have HS:=Aa hs;have hl:=hs.1;have I:=Aa aD;clear hs aD;have HQ:Hid (∀b,w.heap.size<=b->¬(b=F∨Mt b)):=λb hb h=>by
   rcases h with h|h
   ·omega
   ·have:=ay.o b h; omega
  go_loopw [23] (λi wr=>Zn E Mt r w F O s W l n f Y i wr) (λi wr=>l.length-(intOf i).toNat);case atStart=>
   refine⟨0,zB,f,Y,Bp _,rfl,ba.o,?_⟩;by_cases bc:n=0
   ·subst bc;exact Ae ⟨E3.o,⟨none,0,0,rfl⟩,λ_=>by omega⟩
   ·refine Ad ⟨n-1,[],[],rfl,by simp[Ah]; omega,?_,Cp.start _ _ _ _,λ_=>by simp[Do]⟩;rw[show((n-1:Nat):Int)=(n:Int)-1 by omega];exact E3.o
  case round=>
   obtain⟨k,u,f',Y',hk,rfl,aF,aj⟩:=hrel;have J:=Aa aF;clear aF;rcases aj with ⟨m,xs,q,M,hm,N,al,aG⟩|⟨N,⟨a9,l9,c9,rfl⟩,an⟩
   ·have d:=Aa N;have D:=Aa al;have az:=Aa hm;have ax:=Aa aG;clear N al aG;by_cases G:k<l.length
    ·obtain⟨b,o,A,c',rfl,d0,d1,hx⟩:=(HS.o.exq d.o.1 (λb hb h=>by rcases h with h|h; exact(I.o b hb).1 h; exact(I.o b hb).2 h)).get (Ac _ _) (λ_ _ h=>h) k G;obtain⟨av,cv,ev,bd⟩:=hx;simp at ev;obtain⟨rfl,rfl⟩:=ev;have aH:m<=1000000:=(by omega);have a6:¬(O=F∨Mt O):=HQ.o O (by omega);have aI:Hid (∀b,(b=F∨Mt b)->b<O):=λb h=>by
      rcases h with h|h
      ·omega
      ·have:=ay.o b h; omega
     have bz:k<=1000000:=by have h1:=Ie q; rw[M] at h1; omega
     have aJ:Hid (q.length+1<=maxLen/\(q.length+1)*40<=140737488355328):=Aa (by rw[M];exact⟨by unfold maxLen; omega,by omega⟩);have a7:¬Y' F:=λh=>by
      rcases J.o.2.1 F h with h1|h1
      ·exact aE h1
      ·omega
     have bf:Hid (Calls prog 107 #[zC F,.agg (zG l[k] A c')] (wr.alloc (zh l[k] A c')).drew λe bg=>Hr E Mt F W (Du r l[k]) m f' Y' (wr.alloc (zh l[k] A c')).drew e bg):=by
      have aK:Below wr.heap.size wr (wr.alloc (zh l[k] A c')).drew:=((Ac _ _).alloc (Af _) _).drew;have bh:E f' Y' (wr.alloc (zh l[k] A c')).drew:=B.below J.o.1 aK;have bj:Ab (wr.alloc (zh l[k] A c')).drew F #[zA m,W] 144:=(d.o.2.2.2.1.alloc _).drewN 1;have bk:Sl (wr.alloc (zh l[k] A c')).drew X A l[k].args:=bd.later aK;have bl:=IH.o l[k] (Bv G) m;clear az d D;subst aV;refine TD B F S r l[k] m A c' _ X Y' f' aH I.o a7 bk bj bh (λL=>HL.o _ (TL G ?_) L) (λw' f2 Y2 h1 h2 h3 h4=>bl _ w' X Y2 f2 ⟨A,c',rfl,h1⟩ I.o aH h2 h3 h4 (λnm ho L=>HL.o nm (TL G ?_) L))
      ·generalize l[k]=y;obtain⟨n1,k1⟩:=y;exact Dz.2 (Ad rfl)
      ·generalize l[k]=y at ho ⊢;obtain⟨n1,k1⟩:=y;exact Dz.2 (Ae (Ad ho))
     have f0:∀o,(wr.alloc o).cell? (zD F 0)=some (zA m):=λo=>(d.o.2.2.2.1.alloc o).cell 0;have o1:∀o,(wr.alloc o).cell? (zD O 1)=some u:=λo=>(d.o.2.2.1.alloc o).cell 1;have b0:¬(m:Int)<0:=(by omega);go_wp2_with fail;go_region_law (first
      | (go_simp; go_at_call 107; refine bf.o.mono ?_; rintro e w1 ⟨s1,P,l1,c1,m1,f1,Y1,rfl,aL,aM,aN,ae,ao,aO⟩; have C:=(((Al.refl (λb=>b=F∨Mt b) wr).alloc (zh l[k] A c')).drew).trans aM; have a8:=Aa ae; have aP:=Aa ao; have bm:=Aa aO; have bn:=Aa aN; clear aM ae ao aO aN; have bo:∀o,(w1.alloc o).cell? (zD O 1)=some u:=λo=>((Ab.exq d.o.2.2.1 C a6).alloc o).cell 1; have bp:w1.cell? (zD O 1)=some u:=(Ab.exq d.o.2.2.1 C a6).cell 1)
      | (refine step_append_lies _ rfl _ _ 59 rfl (O+1) 61 i0 _ 2 40 underlying59 aW aX aY aZ rfl (by decide) u q.length xs rfl (by exact(Cp.exq D.o C (λb hb=>by have:=aI.o b hb; omega) (λ_ _ h=>h)).own.alloc _) (zD w1.heap.size 0) 1 1 [.string s1,.slice P l1 c1] rfl rfl (cell_two_new _ _ _ _) (λx hx=>by simp at hx; rcases hx with rfl|rfl<;>rfl) (by decide) aJ.o.1 aJ.o.2 (by have:=C.size; have:=d.o.2.2.2.2; simp; omega) _ rfl ?_; intro g cap w3 af R ag aA; have aB:=Aa (((Ab.exq d.o.2.2.1 C a6).alloc _).grown R (D.o.ne (DC _))); have bq:w3.cell? (zD O 1)=some u:=aB.o.cell 1; have br:=aB.o.frozen 1))
     all_goals
      have HK:=Aa (Zl (v:=.slice (some (zD g 0)) (q.length+1) cap) Z ay.o hO d.o (λj hj=>(D.o.own.lt j hj).1) C aL R);have aC:=Aa (Zo (n9:=q.length+1) (cap:=cap) (x:=.slice (some (zD g 0)) (q.length+1) cap) B (λb hb=>by have:=H.o b hb; omega) J.o (λj hj=>(D.o.own.lt j hj).2) d.o.2.2.2.2 C.size bn.o (λb hb=>(a8.o b hb).imp id λh=>by simp at h; omega) aP.o R ag);have bs:Hid (∀y:Tm,TV w1 (λb=>wr.heap.size<=b) (.agg #[.string s1,.slice P l1 c1]) y->Cp (w3.setCell (zD O 1) (.slice (some (zD g 0)) (q.length+1) cap)) (O+1) 61 (λ_=>False) (.slice (some (zD g 0)) (q.length+1) cap) (q++[y]) (xs++[.string s1,.slice P l1 c1])):=λy hy=>Zm aI.o d.o.2.2.2.2 D.o C hy af R ag;clear af R ag bo bp bq br aB aL C aA;go_wp2_with fail;go_roundw
      case rel=>
       have h1:=HK.o;have h2:=bs.o;have h3:=aC.o;have bt:=az.o;simp only[M] at h1 h2 h3;refine⟨k+1,.slice (some (zD g 0)) (k+1) cap,f1,Y1,by omega,by go_num,h3,?_⟩;have aQ:Do r (l.take (k+1))=Do r (l.take k)++[Du r l[k]]:=by rw[CI G,Tz]; simp[MN]
       have aR:f1=false->f'=false:=λz=>by
        cases h:f' with
        |false=>rfl
        |true=>have:=aP.o h; rw[z] at this; cases this
       rcases bm.o with ⟨y,rfl,rfl,rfl,e4,e5,e6⟩|⟨rfl,e2⟩
       ·refine Ad ⟨m-Ah [y],xs++[.string y.name,.slice P y.args.length c1],q++[y],by simp[M],by rw[Gf]; omega,?_,h2 y ⟨P,c1,rfl,e5.mono λb hb _=>by simp at hb; omega⟩,λz=>by rw[aQ,ax.o (aR z),e6 z]⟩;rw[show((m-Ah [y]:Nat):Int)=(m:Int)-Ah [y] by omega];exact h1
       ·refine Ae ⟨h1,⟨_,_,_,rfl⟩,λz=>?_⟩;have h4:=e2 z;have h5:=ax.o (aR z);have h6:Ah (Do r (l.take (k+1)))=Ah q+Ah [Du r l[k]]:=(by rw[aQ,Gf,h5]);have h7:Do r l=Do r (l.take (k+1))++Do r (l.drop (k+1)):=(by rw[<-Tz,FH]);rw[h7,Gf];omega
      case measure=>simp[intOf]; omega
    ·have bu:l.take k=l:=Bz (by omega);rw[bu]at ax;obtain⟨a9,c9,bw,aq⟩:=D.o.sl;subst bw;have S9:=Aa aq;clear aq;have T:=d.o.2.1.c0;have U:=d.o.2.1.c1;have rf:=d.o.2.1.frozen;have o0:=d.o.2.2.1.c0;have o1:=d.o.2.2.1.c1;go_wp2_with fail;refine Ao (v:=.agg #[.string s,.slice a9 q.length c9]) (by simp[results,results122,go_sem,AL,AE,T,U,M]) rfl ?_;have bt:=az.o;have aS:Ah [(⟨s,q⟩:Tm)]=1+Ah q:=(by simp[Ah]);refine Ov B Z H.o hO d.o J.o (Ad ⟨⟨s,q⟩,rfl,rfl,by rw[aS]; omega,by rw[aS]; omega,S9.o.mono λb hb _=>?_,λz=>by rw[ax.o z]⟩);have b1:O+1<=b:=hb.elim False.elim id;omega
   ·have d:=Aa N;have ar:=Aa an;clear N an;have aT:Ah [(⟨s,Do r l⟩:Tm)]=1+Ah (Do r l):=(by simp[Ah]);have f0:∀o,(wr.alloc o).cell? (zD F 0)=some (zA (-1)):=λo=>(d.o.2.2.2.1.alloc o).cell 0;by_cases G:k<l.length
    ·obtain⟨b,o,A,c',rfl,d0,d1,hx⟩:=(HS.o.exq d.o.1 (λb hb h=>by rcases h with h|h; exact(I.o b hb).1 h; exact(I.o b hb).2 h)).get (Ac _ _) (λ_ _ h=>h) k G;clear hx;have o0:∀o,(wr.alloc o).cell? (zD O 0)=some (.string s):=λo=>(d.o.2.2.1.alloc o).cell 0;have o1:∀o,(wr.alloc o).cell? (zD O 1)=some (.slice a9 l9 c9):=λo=>(d.o.2.2.1.alloc o).cell 1;have T:=d.o.2.1.c0;have U:=d.o.2.1.c1;have rf:=d.o.2.1.frozen;have bx:w.heap.size+1<wr.heap.size:=d.o.2.1.lt;go_wp2_with fail;refine Ao (v:=.agg #[.string s,.slice a9 l9 c9]) (by simp[results,results122,go_sem,AL,AE,T,U,bx,EI]) rfl ?_;exact Zr B (Ov B Z H.o hO d.o J.o (Ae ⟨rfl,λz=>by rw[aT]; exact ar.o z⟩)) _
    ·have T:=d.o.2.1.c0;have U:=d.o.2.1.c1;have rf:=d.o.2.1.frozen;have o0:=d.o.2.2.1.c0;have o1:=d.o.2.2.1.c1;go_wp2_with fail;refine Ao (v:=.agg #[.string s,.slice a9 l9 c9]) (by simp[results,results122,go_sem,AL,AE,T,U]) rfl ?_;exact Ov B Z H.o hO d.o J.o (Ae ⟨rfl,λz=>by rw[aT]; exact ar.o z⟩)
theorem Zt {E:Ev} (h:Gv E Mt) (F S:Nat) (d:ByteArray->Option Tm) (t:Tm) (n:Nat) (a:Option Addr) (c:Nat) (w:World) (X Y:Nat->Prop) (f:Bool) (i:n<=1000000) (j:∀b,X b->b≠F/\¬Mt b) (m:¬Y F) (o:Sl w X a t.args) (hF:Ab w F #[zA n,sV S] 144) (q:E f Y w)
  (k:∀nm,Ay nm [t]->Av nm=true->GT E Mt S (d nm) nm):
  Calls prog 107 #[zC F,.agg (zG t a c)] w λe w'=>Hr E Mt F (sV S) (Du d t) n f Y w e w':=
 TD h F S d t n a c w X Y f i j m o hF q (λg=>k _ (by obtain⟨s,l⟩:=t; exact Dz.2 (Ad rfl)) g)
  (λw' f' r h1 h2 h3 u=>Zs h F S d t n _ w' X r f' ⟨a,c,rfl,h1⟩ j i h2 h3 u (λnm ho g=>k nm (by obtain⟨s,l⟩:=t; exact Dz.2 (Ae (Ad ho))) g))
def TM (E:Ev) (Mt:Nat->Prop) (tgt:Tm) (n:Nat) (f:Bool) (Y:Nat->Prop) (w:World) (e:Ending) (w':World):Prop:=
 ∃(s':ByteArray) (a':Option Addr) (l' c':Nat) (ok:Bool) (f':Bool) (Y':Nat->Prop),e=.returned (.tuple #[.agg #[.string s',.slice a' l' c'],.bool ok])/\E f' Y' w'/\(∀b,Y' b->Y b∨w.heap.size<=b)/\(f=true->f'=true)/\Al Mt w w'/\
  ((ok=true/\∃y:Tm,s'=y.name/\l'=y.args.length/\Ah [y]<=n/\Sl w' (λb=>w.heap.size<=b) a' y.args/\(f'=false->y=tgt))∨(ok=false/\s'=⟨#[]⟩/\a'=none/\l'=0/\c'=0/\(f'=false->n<Ah [tgt])))
theorem Zu {E:Ev} (d:Gv E Mt) (S:Nat) (s:ByteArray->Option Tm) (t:Tm) (n:Nat) (a:Option Addr) (c:Nat) (w:World) (X Y:Nat->Prop) (f:Bool) (hn:n<=1000000) (A:∀b,X b->¬Mt b) (B:Sl w X a t.args) (l:E f Y w)
  (C:∀nm,Ay nm [t]->Av nm=true->GT E Mt S (s nm) nm):
  Calls prog 87 #[.agg (zG t a c),zA n,sV S] w λe w'=>TM E Mt (Du s t) n f Y w e w':=by
 have aA:=@hmq prog;have HS:=Aa (B.mono (Y:=λb=>X b/\b<w.heap.size) λb h1 h2=>⟨h1,h2⟩);have HE:=Aa l;have HL:=Aa C;have a6:=Aa A;have u:Hid (∀b,Y b->b<w.heap.size):=d.inY _ _ _ l;have a7:Hid (∀b,Mt b->b<w.heap.size):=λb hb=>u.o b (d.mt _ _ _ l b hb);clear B l C A;have D:Hid (sV S=.func (.func 147) #[zC S] #[]):=rfl;rw[D.o];go_in;go_wp2_with fail;rw[<-D.o];have x:Hid (Below w.heap.size w (((w.alloc (zh t a c)).alloc zd).alloc (zp #[zA n,sV S] 144))):=((((Ac w.heap.size w).alloc (Af _) _).alloc (by simp) _).alloc (by simp; omega) _);have F3:Hid (Ab (((w.alloc (zh t a c)).alloc zd).alloc (zp #[zA n,sV S] 144)) (w.heap.size+1+1) #[zA n,sV S] 144):=Aa (by have h:=Ab.new ((w.alloc (zh t a c)).alloc zd) #[zA n,sV S] 144;simpa using h);have R3:Hid (Ab (((w.alloc (zh t a c)).alloc zd).alloc (zp #[zA n,sV S] 144)) (w.heap.size+1) ze 61):=Aa (by have h:=(Ab.new (w.alloc (zh t a c)) ze 61).alloc (zp #[zA n,sV S] 144);simpa using h);have z3:(((w.alloc (zh t a c)).alloc zd).alloc (zp #[zA n,sV S] 144)).heap.size=w.heap.size+3:=by simp
 generalize (((w.alloc (zh t a c)).alloc zd).alloc (zp #[zA n,sV S] 144))=w3 at *;refine(Zt d (w.heap.size+1+1) S s t n a c w3 (λb=>X b/\b<w.heap.size) Y f hn (λb hb=>⟨by have:=hb.2; omega,a6.o b hb.1⟩) (λh=>by have:=u.o _ h; omega) (HS.o.later x.o) F3.o (d.below HE.o x.o) HL.o).mono ?_;rintro e g ⟨s',F,l',c',m,f',j,rfl,G,q,H,I,J,ar⟩;have L:=Aa G;have r:=Aa (R3.o.exq q (λh=>by rcases h with h|h; omega; have:=a7.o _ h; omega));have aB:=q.size;have M:Hid (Al Mt w g):=(Al.ofBelow x.o).transN q (λi hi N=>by rcases hi with h|h; omega; exact h);have O:=Aa H;have P:Hid (∀b,j b->Y b∨w.heap.size+3<=b):=λb hb=>(I b hb).imp id λh=>by omega
 have R:=Aa J;have HC:=Aa ar;clear G q H I J ar;have T:=r.o.c0;have U:=r.o.c1;have rf:=r.o.frozen;have V:w.heap.size+1<g.heap.size:=r.o.lt;have W:Hid (∀v0 v1 o,E f' j (((g.setCell (zD (w.heap.size+1) 0) v0).setCell (zD (w.heap.size+1) 1) v1).alloc o)):=λv0 v1 o=>d.keep _ _ _ _ O.o λb hb=>by
  have Z:b≠w.heap.size+1:=λe=>by
   rcases P.o b hb with h|h
   ·have:=u.o b h; omega
   ·omega
  have N:=d.inY _ _ _ O.o b hb;rw[BL _ _ _ (by simpa [World.setCell] using N),Ak _ _ _ _ (by simpa using Z),Ak _ _ _ _ (by simpa using Z)]
 have ab:Hid (∀b,j b->Y b∨w.heap.size<=b):=λb hb=>(P.o b hb).imp id λh=>by omega
 rcases HC.o with ⟨y,rfl,rfl,rfl,hle,a1,k⟩|⟨rfl,k⟩
 ·have a8:=Aa a1;have z:=Aa k;clear a1 k;have f0:∀o,(g.alloc o).cell? (zD (w.heap.size+1+1) 0)=some (zA ((n:Int)-Ah [y])):=λo=>(L.o.alloc o).cell 0;have hlt:¬((n:Int)-Ah [y])<0:=by omega
  go_wp2_with fail;refine Ao (v:=.tuple #[.agg (zG y F c'),.bool true]) (by simp[results,results87,go_sem,AL,AE,T,U,V,EI]) rfl ?_;refine⟨y.name,F,y.args.length,c',true,f',j,rfl,W.o _ _ _,ab.o,R.o,((M.o.setNew (by omega) _ _).setNew (by omega) _ _).alloc _,Ad ⟨rfl,y,rfl,rfl,hle,((a8.o.kept λb hb=>?_).later ((Ac _ _).alloc (Af _) _)).mono λb hb _=>by omega,z.o⟩⟩;rw[Ak _ _ _ _ (by simp; omega),Ak _ _ _ _ (by simp; omega)]
 ·have z:=Aa k;clear k;have f0:∀o,(g.alloc o).cell? (zD (w.heap.size+1+1) 0)=some (zA (-1)):=λo=>(L.o.alloc o).cell 0;go_wp2_with fail;refine Ao (v:=.tuple #[.agg ze,.bool false]) (by simp[results,results87,go_sem,AL,AE,T,U,V,EI]) rfl ?_;exact⟨⟨#[]⟩,none,0,0,false,f',j,rfl,W.o _ _ _,ab.o,R.o,((M.o.setNew (by omega) _ _).setNew (by omega) _ _).alloc _,Ae ⟨rfl,rfl,rfl,rfl,rfl,z.o⟩⟩
def Ow (S q:Nat) (td:Value) (h:List (ByteArray×Tm)) (tgt:Tm) (f:Bool) (Y:Nat->Prop) (w:World) (e:Ending) (w':World):Prop:=
 ∃(y:Tm) (a':Option Addr) (c':Nat) (ok:Bool) (f':Bool) (Y':Nat->Prop),e=.returned (.tuple #[.agg (zG y a' c'),.bool ok])/\Cv S q td h f' Y' w'/\(∀b,Y' b->Y b∨w.heap.size<=b)/\(f=true->f'=true)/\Al (Cw S q) w w'/\Sl w' (λb=>w.heap.size<=b) a' y.args/\
  (ok=true->f'=false/\y=tgt/\Ah [y]<=2000)/\(ok=false->f'=true∨2000<Ah [tgt])
theorem Ox {c:Nat->Prop} {o:Obj} {d:Tm} {g:Option Addr} {ok:Bool} (i:Cv S q a h f' c w1) (l:∀b,Y b->b<w.heap.size) (j:∀b,c b->Y b∨w.heap.size+2<=b) (m:f=true->f'=true) (hx:Al (Cw S q) w w1) (n:Sl w1 (λb=>w.heap.size+2<=b) g y.args)
  (h1:ok=true->f'=false/\y=d/\Ah [y]<=2000) (h2:ok=false->f'=true∨2000<Ah [d]):
  Ow S q a h d f Y w (.returned (.tuple #[.agg (zG y g c'),.bool ok])) (((w1.alloc o).setCell (zD (w.heap.size+1) 0) v0).setCell (zD (w.heap.size+1) 1) v1).drew:=by
 have hk:∀b,b<w1.heap.size->b≠w.heap.size+1->((((w1.alloc o).setCell (zD (w.heap.size+1) 0) v0).setCell (zD (w.heap.size+1) 1) v1).drew).heap[b]? = w1.heap[b]? := λb hb k=>by
  show(((w1.alloc o).setCell (zD (w.heap.size+1) 0) v0).setCell (zD (w.heap.size+1) 1) v1).heap[b]? = _;rw[Ak _ _ _ _ (by simpa using k),Ak _ _ _ _ (by simpa using k),BL _ _ _ hb]
 refine⟨y,g,c',ok,f',c,rfl,(DA S q a h).keep _ _ _ _ i λb hb=>hk b (i.2.2.2.1 b hb) λe=>?_,λb hb=>(j b hb).imp id λh=>by omega,m,(((hx.alloc o).setNew (by omega) _ _).setNew (by omega) _ _).drew,((n.mono (Y:=λb=>w.heap.size+2<=b/\b<w1.heap.size) λb h1 h2=>⟨h1,h2⟩).kept λb hb=>hk b hb.2 (by omega)).mono λb hb _=>by omega,h1,h2⟩;rcases j b hb with h|h
 ·have:=l b h; omega
 ·omega
theorem TN (S q:Nat) (d:Value) (h:List (ByteArray×Tm)) (t:Tm) (a:Option Addr) (c:Nat) (w:World) (X Y:Nat->Prop) (f:Bool) (B:∀b,X b->¬Cw S q b) (C:Sl w X a t.args) (j:Cv S q d h f Y w)
  (D:∀nm,Ay nm [t]->Av nm=true->GT (Cv S q d h) (Cw S q) S (AF (Aj h) nm) nm):
  Calls prog 140 #[zC S,.agg (zG t a c)] w λe w'=>Ow S q d h (Du (AF (Aj h)) t) f Y w e w':=by
 have ax:=@hmq prog;have N:=Aa C;have m:=Aa j;have O:=Aa D;have P:=Aa B;have ay:S<w.heap.size:=j.2.2.2.1 S j.2.1;clear C j D B;have k:Hid (∀b,Y b->b<w.heap.size):=m.o.2.2.2.1;have R:Hid (∀b,Cw S q b->b<w.heap.size):=λb hb=>k.o b ((DA S q d h).mt _ _ _ m.o b hb);have E:Hid (∀w',Below w.heap.size w w'->Calls prog 87 #[.agg (zG t a c),zA 2000,.func (.func 147) #[zC S] #[]] w' λe T=>TM (Cv S q d h) (Cw S q) (Du (AF (Aj h)) t) 2000 f Y w' e T):=λw' hb=>
  Zu (DA S q d h) S (AF (Aj h)) t 2000 a c w' X Y f (by omega) P.o (N.o.later hb) ((DA S q d h).below m.o hb) O.o
 have F:Hid (Below w.heap.size w ((w.alloc (zh t a c)).alloc zd)):=EJ _ _;have U:Hid (Ab ((w.alloc (zh t a c)).alloc zd) (w.heap.size+1) ze 61):=Aa (by have h:=Ab.new (w.alloc (zh t a c)) ze 61;simpa using h);have z2:((w.alloc (zh t a c)).alloc zd).heap.size=w.heap.size+2:=by simp
 go_in;go_wp2_with fail;generalize ((w.alloc (zh t a c)).alloc zd)=w2 at *;refine(E.o _ F.o).mono ?_;rintro e w1 ⟨s',n,l',c',ok,f',V,rfl,G,H,I,hx,hc⟩;have r:=Aa G;have s:Hid (∀b,V b->Y b∨w.heap.size+2<=b):=λb hb=>(H b hb).imp id λh=>by omega
 have J:=Aa I;have u:Hid (Al (Cw S q) w w1):=(Al.ofBelow F.o).trans hx;have g:=Aa (U.o.exq hx (λh=>by have:=R.o _ h; omega));have az:Hid (w.heap.size+2<=w1.heap.size):=Aa (by have:=hx.size;omega);have W:=Aa hc;obtain⟨⟨L,M,_,_⟩,_⟩:=G;have b2:∀o,(w1.alloc o).cell? (zD S 2)=some (.bool f'):=λo=>(M.alloc o).cell 2;have x:∀o,(w1.alloc o).cell? (zD (w.heap.size+1) 0)=some (.string ⟨#[]⟩):=λo=>(g.o.alloc o).cell 0;have z:∀o,(w1.alloc o).cell? (zD (w.heap.size+1) 1)=some (zB):=λo=>(g.o.alloc o).cell 1;have rf:=g.o.frozen;clear M H I hx hc E;go_wp2_with fail;have p0:∀o,(w1.alloc o).frozen? (zD (w.heap.size+1) 0)=false:=λo=>(g.o.alloc o).frozen 0;have p1:∀o,(w1.alloc o).frozen? (zD (w.heap.size+1) 1)=false:=λo=>(g.o.alloc o).frozen 1;rcases W.o with ⟨rfl,y,rfl,rfl,hz,ar,i⟩|⟨rfl,rfl,rfl,rfl,rfl,i⟩
 ·have l:Hid (Sl w1 (λb=>w.heap.size+2<=b) n y.args):=ar.mono λb hb _=>by omega
  have A:=Aa i;have Z:=Aa hz;clear ar i hz;cases f' with
  |true=>
   go_region
   all_goals
    go_wp2_with fail;refine Ao (v:=.tuple #[.agg (zG y n c'),.bool false]) (by simp[results,results140,go_sem,AL,AE,x,z]) rfl ?_;exact Ox r.o k.o s.o (λ_=>rfl) u.o l.o (λh=>by cases h) (λ_=>Ad rfl)
  |false=>
   go_region
   all_goals
    go_wp2_with fail;refine Ao (v:=.tuple #[.agg (zG y n c'),.bool true]) (by simp[results,results140,go_sem,AL,AE,x,z]) rfl ?_;exact Ox r.o k.o s.o J.o u.o l.o (λ_=>⟨rfl,A.o trivial,Z.o⟩) (λh=>by cases h)
 ·have A:=Aa i;clear i;have l:Hid (Sl w1 (λb=>w.heap.size+2<=b) none (⟨⟨#[]⟩,[]⟩:Tm).args):=⟨by simp,Ad rfl⟩;go_region
  all_goals
   go_wp2_with fail;refine Ao (v:=.tuple #[.agg #[.string (⟨⟨#[]⟩,[]⟩:Tm).name,.slice none (⟨⟨#[]⟩,[]⟩:Tm).args.length 0],.bool false]) (by simp[results,results140,go_sem,AL,AE,x,z]) rfl ?_;exact Ox r.o k.o s.o J.o u.o l.o (λh=>by cases h) (λ_=>by
    cases hf:f' with
    |true=>exact Ad rfl
    |false=>exact Ae (A.o hf))
theorem TO {hi:i<h.length} (e:I9 w Y h i hi v):∃(T:Tm) (j:Nat) (a:Option Addr) (c:Nat),T=stood h i (max j (i+1)) hi/\j<=h.length/\v=.agg #[.string T.name,.slice a T.args.length c,zA j]/\Sl w Y a T.args:=by
 obtain⟨j,a,c,h1,h2,h3⟩:=e;exact⟨_,j,a,c,rfl,h1,h2,h3⟩
theorem KK {P:Program} {T a b:TypeId} {r:Nat} (hm:P.underlying T=some (.map a b)) (h:BI w r L) (ty:TypeId):(Builtin.len_ #[T] ty #[.map (some r)]).run P w=.ok (zA (L.length:Int)) w:=by
 obtain⟨es,aa,hb,he,_⟩:=h;have c:es.size=L.length:=by have:=Dt List.length he; simpa using this
 simp[Builtin.len_,Fr hm,Gz hb,goInt,Result.andThen,c]
theorem TR (S q:Nat) (d:Value) (h:List (ByteArray×Tm)) (g:Cn h) (nm:ByteArray) (e:∀i (hi:i<h.length),h[i].1≠nm):GT (Cv S q d h) (Cw S q) S (AF (Aj h) nm) nm:=by
 intro f Y w j;have l:=Aa j;obtain⟨⟨L,a,c,k⟩,ad,ae,hY,m⟩:=j;have hz:∀w',(zeroValue 193).run prog w'=.ok (.agg #[.string ⟨#[]⟩,zB,zA 0]) w':=λw'=>zeroValue193 w';have n:=c.lt;have af:=a.lt;have r:=Aa (Zj g e);have b1:∀o,(w.alloc o).cell? (zD S 1)=some (.map (some q)):=λo=>(a.alloc o).cell 1;have ag:∀o,(Instr.lookup 159 (.map (some q)) (.string nm) true).run prog (w.alloc o)=.ok (.tuple #[.agg #[.string ⟨#[]⟩,zB,zA 0],.bool false]) (w.alloc o):=λo=>by
  rw[Ii (P:=prog) underlying159 underlying9 (hz _) (c.kept (BL _ _ _ n)) nm,k.none e]; rfl
 have HB:=Aa a;clear a c k m;go_in;go_wp2_with fail;go_region
 all_goals go_wp2_with fail
 all_goals
  refine Ao (v:=.tuple #[.agg ze,.bool false]) (by simp[results,results147,go_sem]) rfl ?_;exact⟨⟨#[]⟩,none,0,0,false,f,Y,rfl,(DA S q d h).below l.o (((Ac _ _).alloc (Af _) _).alloc (by simp) _).drew,λb hb=>Ad hb,λh=>h,(((Al.refl _ _).alloc _).alloc _).drew,Ae ⟨rfl,λ_=>r.o⟩⟩
theorem Zv {j:Value} (g:Cn h) (hi:i<h.length) (s:Cv S q j h f' d w1) (hk:∀b,d b->WS.heap[b]? = w1.heap[b]?) {f:Option Addr} (hy:y=stood h i h.length hi) (n:∀b,Z b->b<WS.heap.size/\b≠S/\b≠q) (t:Sl WS Z f y.args) (u:h[i].1=nm):
  ∃c,(Instr.mapUpdate 159 (.map (some q)) (.string nm) (.agg #[.string y.name,.slice f y.args.length c',zA (h.length:Int)])).run prog WS=.ok () c/\Cv S q j h f' (λb=>d b∨Z b) c/\c.heap.size=WS.heap.size/\c.os=WS.os/\c.tape=WS.tape/\c.output=WS.output/\∀b,b≠q->c.heap[b]? = WS.heap[b]? := by
 have v:=(DA S q j h).keep _ _ _ _ s hk;obtain⟨⟨L,e1,e2,e3⟩,x,e5,z,A⟩:=v;obtain⟨v0,B,_⟩:=e3.get g hi;have C:S≠q:=λe=>by
  obtain⟨es,ag,h1,_⟩:=e2;subst e;unfold Ab at e1;rw[h1]at e1; cases e1
 obtain⟨c,h1,h2,h3,D,h5,h6,k⟩:=XZ (P:=prog) underlying159 underlying9 e2 h[i].1 (.agg #[.string y.name,.slice f y.args.length c',zA (h.length:Int)]) v0 B;refine⟨c,by rw[<-u]; exact h1,⟨⟨_,?_,h2,?_⟩,Ad x,Ad e5,λb hb=>?_,A⟩,h3,D,h5,h6,k⟩
 ·unfold Ab at *; rw[k S C]; exact e1
 ·have o:∀(X:Nat->Prop) a l,(∀b,X b->(d b∨Z b)/\b≠S/\b≠q)->Sl WS X a l->Sl c (λb=>(d b∨Z b)/\b≠S/\b≠q) a l:=λX a l r m=>(m.kept λb hb=>k b (r b hb).2.2).mono λb hb _=>r b hb;refine(e3.imp λa l m=>o _ a l (λb hb=>⟨Ad hb.1,hb.2⟩) m).set g hi ⟨h.length,f,c',Af _,?_,?_⟩
  ·rw[Nat.max_eq_left (by omega),<-hy]
  ·rw[Nat.max_eq_left (by omega),<-hy];exact o _ _ _ (λb hb=>⟨Ae hb,(n b hb).2⟩) t
 ·rw[h3];rcases hb with hb|hb
  ·exact z b hb
  ·exact(n b hb).1
theorem Zw {c:Value} (g:Cv S q c h f' d w1) (hk:∀b,d b->WS.heap[b]? = w1.heap[b]?) (i:AV (Aj h)=true) (j:∀b,Z b->b<WS.heap.size/\b≠S/\b≠q):Cv S q c h true (λb=>d b∨Z b) (WS.setCell (zD S 2) (.bool true)):=by
 have k:=(DA S q c h).keep _ _ _ _ g hk;obtain⟨⟨L,e1,e2,e3⟩,m,e5,n,e7⟩:=k;have o:S≠q:=λe=>by
  obtain⟨es,af,h1,_⟩:=e2;subst e;unfold Ab at e1;rw[h1]at e1; cases e1
 have f:∀b,b≠S->(WS.setCell (zD S 2) (.bool true)).heap[b]? = WS.heap[b]? := λb hb=>Ak _ _ _ _ (by simpa using hb);refine⟨⟨L,?_,e2.kept (f q (Ne.symm o)),e3.imp λa l r=>(r.kept λb hb=>f b hb.2.1).mono λb hb _=>⟨Ad hb.1,hb.2⟩⟩,Ad m,Ad e5,λb hb=>?_,λ_=>i⟩
 ·have:=e1.set 2 (.bool true);simpa using this
 ·have hz:(WS.setCell (zD S 2) (.bool true)).heap.size=WS.heap.size:=by simp[World.setCell]
  rw[hz];rcases hb with hb|hb
  ·exact n b hb
  ·exact(j b hb).1
theorem Zx (S q:Nat) (l:Value) (h:List (ByteArray×Tm)) (g:Cn h) (hN:Gw h) (i:Nat) (hi:i<h.length)
  (aq:∀k (hk:k<h.length),i<k->GT (Cv S q l h) (Cw S q) S (AF (Aj h) h[k].1) h[k].1):GT (Cv S q l h) (Cw S q) S (AF (Aj h) h[i].1) h[i].1:=by
 intro f Y w hE;have I:=Aa hE;obtain⟨⟨L,m,z,E⟩,bg,bh,hY,hg⟩:=hE;obtain⟨v,F,aC⟩:=E.get g hi;obtain⟨T,j,a,c,hT,hj,rfl,aD⟩:=TO aC;have bj:=Aa E;have ar:=Aa aD;have aR:=Aa F;have aS:=Aa z;have HG:=Aa hg;have HY:=Aa hY;have hz:∀w',(zeroValue 193).run prog w'=.ok (.agg #[.string ⟨#[]⟩,zB,zA 0]) w':=λw'=>zeroValue193 w';have J:=z.lt;have aT:=m.lt;have hF:=JN g hi;obtain⟨nm,M⟩:∃nm,h[i].1=nm:=⟨_,rfl⟩;rw[M]at F hF aR ⊢;have HF:=Aa hF;clear hF;have aU:=Aa M;have HT:=Aa hT;have bk:S≠q:=λe=>by
  obtain⟨es,bl,h1,_⟩:=z;subst e;unfold Ab at m;rw[h1]at m; cases m
 have HB:=Aa m;have b1:∀o o',((w.alloc o).alloc o').cell? (zD S 1)=some (.map (some q)):=λo o'=>((m.alloc o).alloc o').cell 1;have bm:∀o,(w.alloc o).cell? (zD S 1)=some (.map (some q)):=λo=>(m.alloc o).cell 1;have b2:∀o o',((w.alloc o).alloc o').cell? (zD S 2)=some (.bool f):=λo o'=>((m.alloc o).alloc o').cell 2;have bn:∀o,(Instr.lookup 159 (.map (some q)) (.string nm) true).run prog (w.alloc o)=.ok (.tuple #[.agg #[.string T.name,.slice a T.args.length c,zA j],.bool true]) (w.alloc o):=λo=>by
  rw[Ii (P:=prog) underlying159 underlying9 (hz _) (z.kept (BL _ _ _ J)) nm,F]; rfl
 have aV:Hid (L.length=h.length):=E.1;have hlen:∀o o',Sem.run prog (Builtin.len_ #[159] 3 #[.map (some q)]) ((w.alloc o).alloc o').drew=.ok (zA (h.length:Int)) ((w.alloc o).alloc o').drew:=λo o'=>by
  have h1:BI ((w.alloc o).alloc o').drew q L:=aS.o.below ((((Ac w.heap.size w).alloc (Af _) o).alloc (by simp) o').drew) J;rw[KK underlying159 h1,aV.o]
 clear m E hg hY aD F aC M hT z;cases f with
 |true=>
  go_in;go_wp2_with fail;go_region
  all_goals go_wp2_with fail
  all_goals
   refine Ao (v:=.tuple #[.agg (zG T a c),.bool true]) (by simp[results,results147,go_sem]) rfl ?_;exact⟨T.name,a,T.args.length,c,true,true,Y,rfl,(DA S q l h).below I.o (((Ac _ _).alloc (Af _) _).alloc (by simp) _).drew,λb hb=>Ad hb,λh=>h,(((Al.refl _ _).alloc _).alloc _).drew,Ad ⟨rfl,T,rfl,rfl,(ar.o.later (((Ac _ _).alloc (Af _) _).alloc (by simp) _).drew).mono λb hb _=>hb.1,λh=>by cases h⟩⟩
 |false=>
  by_cases t:j=h.length
  ·have HJ:=Aa t;have aW:Hid (AF (Aj h) nm=some T):=Aa (by rw[HF.o,HT.o,t,Nat.max_eq_left (by omega)]);have aX:((j:Int)==(h.length:Int))=true:=by rw[t]; simp
   clear t;go_in;go_wp2_with fail;go_region
   all_goals go_wp2_with fail
   all_goals
    refine Ao (v:=.tuple #[.agg (zG T a c),.bool true]) (by simp[results,results147,go_sem]) rfl ?_;exact⟨T.name,a,T.args.length,c,true,false,Y,rfl,(DA S q l h).below I.o (((Ac _ _).alloc (Af _) _).alloc (by simp) _).drew,λb hb=>Ad hb,λh=>h,(((Al.refl _ _).alloc _).alloc _).drew,Ad ⟨rfl,T,rfl,rfl,(ar.o.later (((Ac _ _).alloc (Af _) _).alloc (by simp) _).drew).mono λb hb _=>hb.1,λ_=>aW.o⟩⟩
  ·have HJ:=Aa t;have aX:((j:Int)==(h.length:Int))=false:=Dx.2 (by omega);clear t;go_in;go_wp2_with fail;go_region
   go_wp2_with fail;have N:Hid (Below w.heap.size w ((w.alloc zd).alloc (zp #[.string T.name,.slice a T.args.length c,zA (h.length:Int)] 193)).drew):=(((Ac _ _).alloc (Af _) _).alloc (by simp) _).drew;have R0:Hid (Ab ((w.alloc zd).alloc (zp #[.string T.name,.slice a T.args.length c,zA (h.length:Int)] 193)).drew w.heap.size ze 61):=((Ab.new w _ _).alloc _).drewN 1;have X0:Hid (Ab ((w.alloc zd).alloc (zp #[.string T.name,.slice a T.args.length c,zA (h.length:Int)] 193)).drew (w.heap.size+1) #[.string T.name,.slice a T.args.length c,zA (h.length:Int)] 193):=by
    have h1:=Ab.new (w.alloc zd) #[.string T.name,.slice a T.args.length c,zA (h.length:Int)] 193;rw[Ca]at h1;exact h1
   have z0:((w.alloc zd).alloc (zp #[.string T.name,.slice a T.args.length c,zA (h.length:Int)] 193)).drew.heap.size=w.heap.size+2:=(by simp);generalize ((w.alloc zd).alloc (zp #[.string T.name,.slice a T.args.length c,zA (h.length:Int)] 193)).drew=w0 at *;have aY:Hid (Du (AF (Aj h)) T=stood h i h.length hi):=Aa (by rw[HT.o];exact Zk g hN hi (Nat.max_le.2 ⟨hj,hi⟩));have O:=TN S q l h T a c w0 (λb=>Y b/\b≠S/\b≠q) Y false (λb hb hm=>by rcases hm with h|h; exact hb.2.1 h; exact hb.2.2 h) (ar.o.later N.o) ((DA S q l h).below I.o N.o) (λn2 ho hv=>by
    by_cases aE:∃k,∃hk:k<h.length,h[k].1=n2
    ·obtain⟨k,hk,rfl⟩:=aE;rw[HT.o]at ho;have h1:=Ze g hi (Nat.max_le.2 ⟨hj,hi⟩) (hN i hi) hk ho;exact aq k hk (by omega)
    ·exact TR S q l h g n2 λk hk e=>aE ⟨k,hk,e⟩)
   rw[aY.o]at O;refine O.mono ?_;clear O;rintro e w1 ⟨y,d,c',ok,f',Y',rfl,aF,ag,aZ,hx,aG,aH,aI⟩;have aJ:Hid (Al (Cw S q) w w1):=(Al.ofBelow N.o).trans hx;have R:∀b,Cw S q b->b<w.heap.size:=λb hb=>by rcases hb with rfl|rfl; exact aT; exact J
   have U:=Aa (R0.o.exq hx (λh=>by have:=R _ h; omega));have n:=Aa (X0.o.exq hx (λh=>by have:=R _ h; omega));have bo:Hid (w.heap.size+2<=w1.heap.size):=Aa (by have:=hx.size;omega);have V:Hid (∀b,Y' b->Y b∨w.heap.size+2<=b):=λb hb=>(ag b hb).imp id λh=>by omega
   have W:Hid (Sl w1 (λb=>w.heap.size+2<=b/\b<w1.heap.size) d y.args):=aG.mono λb hb h2=>⟨by omega,h2⟩;have A:=Aa aF;have G:Hid (∀b,Y' b->b≠w.heap.size/\b≠w.heap.size+1):=λb hb=>by
    rcases V.o b hb with h1|h1
    ·have:=HY.o b h1; omega
    ·omega
   have x0:=n.o.c0;have x1:=n.o.c1;have x2:=n.o.c2;have xf:=n.o.frozen;have aK:=Aa aH;have az:=Aa aI;clear ag hx aG aH aI aF aZ R;cases ok with
   |true=>
    obtain⟨rfl,aL,ba⟩:=aK.o rfl;have aM:=Aa aL;clear aL ba aK az;have r:∀b,b≠w.heap.size+1->((w1.setCell (zD (w.heap.size+1) 0) (.string y.name)).setCell (zD (w.heap.size+1) 1) (.slice d y.args.length c')).drew.heap[b]? = w1.heap[b]? := λb hb=>by
     show((w1.setCell (zD (w.heap.size+1) 0) (.string y.name)).setCell (zD (w.heap.size+1) 1) (.slice d y.args.length c')).heap[b]? = _;rw[Ak _ _ _ _ (by simpa using hb),Ak _ _ _ _ (by simpa using hb)]
    have u:((w1.setCell (zD (w.heap.size+1) 0) (.string y.name)).setCell (zD (w.heap.size+1) 1) (.slice d y.args.length c')).drew.heap.size=w1.heap.size:=(by simp[World.setCell]);obtain⟨s,bb,aN,a1,aO,aP,aQ,B⟩:=Zv (WS:=((w1.setCell (zD (w.heap.size+1) 0) (.string y.name)).setCell (zD (w.heap.size+1) 1) (.slice d y.args.length c')).drew) (Z:=λb=>w.heap.size+2<=b/\b<w1.heap.size) (c':=c') g hi A.o (λb hb=>r b (G.o b hb).2) aM.o (λb hb=>⟨by rw[u]; exact hb.2,by omega,by omega⟩) (W.o.kept λb hb=>r b (by omega)) aU.o;have a6:=Aa aN;have C:Hid (Ab s (w.heap.size+1) #[.string y.name,.slice d y.args.length c',zA (h.length:Int)] 193):=Aa (by have h1:=(n.o.set 0 (.string y.name)).set 1 (.slice d y.args.length c');unfold Ab;rw[B _ (by omega)];show((w1.setCell (zD (w.heap.size+1) 0) (.string y.name)).setCell (zD (w.heap.size+1) 1) (.slice d y.args.length c')).heap[w.heap.size+1]? = _;unfold Ab at h1;rw[h1];simp);have x:Hid (Ab s w.heap.size ze 61):=Aa (by unfold Ab;rw[B _ (by omega),r _ (by omega)];exact U.o);have a7:Hid (Al (Cw S q) w s):=(by have h1:=((aJ.o.setNew (b:=w.heap.size+1) (by omega) 0 (.string y.name)).setNew (b:=w.heap.size+1) (by omega) 1 (.slice d y.args.length c')).drew;exact⟨aO.trans h1.os,aP.trans h1.tape,aQ.trans h1.output,by rw[a1]; exact h1.size,λb hb hn=>(B b (λe=>hn (Ae e))).trans (h1.block b hb hn)⟩);have s1:((w1.setCell (zD (w.heap.size+1) 0) (.string y.name)).setCell (zD (w.heap.size+1) 1) (.slice d y.args.length c')).cell? (zD S 1)=some (.map (some q)):=(by obtain⟨⟨L1,H,_⟩,_⟩:=A.o;exact((H.setOther _ _ (by omega)).setOther _ _ (by omega)).cell 1);have y0:((w1.setCell (zD (w.heap.size+1) 0) (.string y.name)).setCell (zD (w.heap.size+1) 1) (.slice d y.args.length c')).cell? (zD (w.heap.size+1) 0)=some (.string y.name):=(by have:=((n.o.set 0 (.string y.name)).set 1 (.slice d y.args.length c')).cell 0;simpa using this);have y1:((w1.setCell (zD (w.heap.size+1) 0) (.string y.name)).setCell (zD (w.heap.size+1) 1) (.slice d y.args.length c')).cell? (zD (w.heap.size+1) 1)=some (.slice d y.args.length c'):=(by have:=((n.o.set 0 (.string y.name)).set 1 (.slice d y.args.length c')).cell 1;simpa using this);have y2:((w1.setCell (zD (w.heap.size+1) 0) (.string y.name)).setCell (zD (w.heap.size+1) 1) (.slice d y.args.length c')).cell? (zD (w.heap.size+1) 2)=some (zA (h.length:Int)):=(by have:=((n.o.set 0 (.string y.name)).set 1 (.slice d y.args.length c')).cell 2;simpa using this);have q0:=C.o.c0;have q1:=C.o.c1;have r0:=x.o.c0;have r1:=x.o.c1;have rf:=x.o.frozen;have bp:Hid (s.heap.size=w1.heap.size):=Aa (by rw[a1,u]);have a8:Hid (Sl s (λb=>w.heap.size+2<=b/\b<w1.heap.size) d y.args):=(W.o.kept λb hb=>r b (by omega)).kept λb hb=>B b (by omega);clear aN a1 aO aP aQ B u r;go_wp2_with fail;go_region
    all_goals go_wp2_with fail
    all_goals
     refine Ao (v:=.tuple #[.agg (zG y d c'),.bool true]) (by simp[results,results147,go_sem,AL,AE,r0,r1]) rfl ?_;have D:∀b,b≠w.heap.size->((s.setCell (zD w.heap.size 0) (.string y.name)).setCell (zD w.heap.size 1) (.slice d y.args.length c')).heap[b]? = s.heap[b]? := λb hb=>by
      rw[Ak _ _ _ _ (by simpa using hb),Ak _ _ _ _ (by simpa using hb)]
     refine⟨y.name,d,y.args.length,c',true,false,_,rfl,(DA S q l h).keep _ _ _ _ a6.o (λb hb=>D b ?_),λb hb=>?_,λh=>h,(a7.o.setNew (by omega) _ _).setNew (by omega) _ _,Ad ⟨rfl,y,rfl,rfl,(a8.o.kept λb hb=>D b (by omega)).mono λb hb _=>Ae hb,λ_=>by rw[HF.o,aM.o]⟩⟩
     ·rcases hb with hb|hb
      ·exact(G.o b hb).1
      ·omega
     ·rcases hb with hb|hb
      ·exact(V.o b hb).imp id λh=>by omega
      ·right; omega
   |false=>
    have bc:Hid (AV (Aj h)=true):=by
     rcases az.o rfl with h1|h1
     ·exact A.o.2.2.2.2 h1
     ·exact TJ g hi h1
    have r:∀b,b≠w.heap.size+1->((w1.setCell (zD (w.heap.size+1) 0) (.string y.name)).setCell (zD (w.heap.size+1) 1) (.slice d y.args.length c')).heap[b]? = w1.heap[b]? := λb hb=>by
     rw[Ak _ _ _ _ (by simpa using hb),Ak _ _ _ _ (by simpa using hb)]
    have u:((w1.setCell (zD (w.heap.size+1) 0) (.string y.name)).setCell (zD (w.heap.size+1) 1) (.slice d y.args.length c')).heap.size=w1.heap.size:=(by simp[World.setCell]);have a6:=Aa (Zw (WS:=((w1.setCell (zD (w.heap.size+1) 0) (.string y.name)).setCell (zD (w.heap.size+1) 1) (.slice d y.args.length c'))) (Z:=λb=>w.heap.size+2<=b/\b<w1.heap.size) A.o (λb hb=>r b (G.o b hb).2) bc.o (λb hb=>⟨by rw[u]; exact hb.2,by omega,by omega⟩));obtain⟨⟨L1,H,bd,aA⟩,aB,ad⟩:=A.o;have BS:=Aa ((H.setOther (b':=w.heap.size+1) 0 (.string y.name) (by omega)).setOther (b':=w.heap.size+1) 1 (.slice d y.args.length c') (by omega));have C:=Aa ((n.o.set 0 (.string y.name)).set 1 (.slice d y.args.length c'));have x:=Aa ((U.o.setOther (b':=w.heap.size+1) 0 (.string y.name) (by omega)).setOther (b':=w.heap.size+1) 1 (.slice d y.args.length c') (by omega));have a7:=Aa ((aJ.o.setNew (b:=w.heap.size+1) (by omega) 0 (.string y.name)).setNew (b:=w.heap.size+1) (by omega) 1 (.slice d y.args.length c'));have a8:Hid (Sl ((w1.setCell (zD (w.heap.size+1) 0) (.string y.name)).setCell (zD (w.heap.size+1) 1) (.slice d y.args.length c')) (λb=>w.heap.size+2<=b/\b<w1.heap.size) d y.args):=W.o.kept λb hb=>r b (by omega);have s2:((w1.setCell (zD (w.heap.size+1) 0) (.string y.name)).setCell (zD (w.heap.size+1) 1) (.slice d y.args.length c')).cell? (zD S 2)=some (.bool f'):=BS.o.cell 2;have sf:=BS.o.frozen 2;have y0:(((w1.setCell (zD (w.heap.size+1) 0) (.string y.name)).setCell (zD (w.heap.size+1) 1) (.slice d y.args.length c')).setCell (zD S 2) (.bool true)).cell? (zD (w.heap.size+1) 0)=some (.string y.name):=(by have:=(C.o.setOther (b':=S) 2 (.bool true) (by omega)).cell 0;simpa using this);have y1:(((w1.setCell (zD (w.heap.size+1) 0) (.string y.name)).setCell (zD (w.heap.size+1) 1) (.slice d y.args.length c')).setCell (zD S 2) (.bool true)).cell? (zD (w.heap.size+1) 1)=some (.slice d y.args.length c'):=(by have:=(C.o.setOther (b':=S) 2 (.bool true) (by omega)).cell 1;simpa using this);have r0:(((w1.setCell (zD (w.heap.size+1) 0) (.string y.name)).setCell (zD (w.heap.size+1) 1) (.slice d y.args.length c')).setCell (zD S 2) (.bool true)).cell? (zD w.heap.size 0)=some (.string ⟨#[]⟩):=(x.o.setOther (b':=S) 2 (.bool true) (by omega)).cell 0;have r1:(((w1.setCell (zD (w.heap.size+1) 0) (.string y.name)).setCell (zD (w.heap.size+1) 1) (.slice d y.args.length c')).setCell (zD S 2) (.bool true)).cell? (zD w.heap.size 1)=some (zB):=(x.o.setOther (b':=S) 2 (.bool true) (by omega)).cell 1;have rf:=U.o.frozen;have bq:w.heap.size+1≠S:=(by omega);have bf:w.heap.size≠S:=(by omega);clear H bd aA aB ad az r u;go_wp2_with fail;refine Ao (v:=.tuple #[.agg (zG y d c'),.bool true]) (by simp[results,results147,go_sem,AL,AE,r0,r1]) rfl ?_;have D:∀b,b≠w.heap.size->(((((w1.setCell (zD (w.heap.size+1) 0) (.string y.name)).setCell (zD (w.heap.size+1) 1) (.slice d y.args.length c')).setCell (zD S 2) (.bool true)).setCell (zD w.heap.size 0) (.string y.name)).setCell (zD w.heap.size 1) (.slice d y.args.length c')).heap[b]? = (((w1.setCell (zD (w.heap.size+1) 0) (.string y.name)).setCell (zD (w.heap.size+1) 1) (.slice d y.args.length c')).setCell (zD S 2) (.bool true)).heap[b]? := λb hb=>by
     rw[Ak _ _ _ _ (by simpa using hb),Ak _ _ _ _ (by simpa using hb)]
    refine⟨y.name,d,y.args.length,c',true,true,_,rfl,(DA S q l h).keep _ _ _ _ a6.o (λb hb=>D b ?_),λb hb=>?_,λh=>rfl,((a7.o.set (Ad rfl) _ _).setNew (by omega) _ _).setNew (by omega) _ _,Ad ⟨rfl,y,rfl,rfl,((a8.o.kept λb hb=>Ak _ _ _ _ (by simp; omega)).kept λb hb=>D b (by omega)).mono λb hb _=>Ae hb,λh=>by cases h⟩⟩
    ·rcases hb with hb|hb
     ·exact(G.o b hb).1
     ·omega
    ·rcases hb with hb|hb
     ·exact(V.o b hb).imp id λh=>by omega
     ·right; omega
theorem TT (S q:Nat) (a:Value) (h:List (ByteArray×Tm)) (g:Cn h) (b:Gw h):∀(d i:Nat) (hi:i<h.length),h.length-i<=d->GT (Cv S q a h) (Cw S q) S (AF (Aj h) h[i].1) h[i].1
 |0,i,hi,hd=>by omega
 |d+1,i,hi,hd=>Zx S q a h g b i hi λk hk aa=>TT S q a h g b d k hk (by omega)
theorem Zy (S q:Nat) (a:Value) (h:List (ByteArray×Tm)) (g:Cn h) (c:Gw h) (nm:ByteArray):GT (Cv S q a h) (Cw S q) S (AF (Aj h) nm) nm:=by
 by_cases b:∃k,∃hk:k<h.length,h[k].1=nm
 ·obtain⟨k,hk,rfl⟩:=b;exact TT S q a h g c _ k hk (Af _)
 ·exact TR S q a h g nm λk hk e=>b ⟨k,hk,e⟩
theorem Oy (S q:Nat) (d:Value) (h:List (ByteArray×Tm)) (g:Cn h) (i:Gw h) (t:Tm) (he:As [t]=0) (a:Option Addr) (c:Nat) (w:World) (X Y:Nat->Prop) (f:Bool) (j:∀b,X b->¬Cw S q b) (k:Sl w X a t.args) (l:Cv S q d h f Y w):
  Calls prog 140 #[zC S,.agg (zG t a c)] w λe w'=>Ow S q d h (Ag (Aj h) t) f Y w e w':=by
 have h1:=TN S q d h t a c w X Y f j k l λnm _ _=>Zy S q d h g i nm;rw[TE g.all.vars he]at h1;exact h1
theorem TU {α:Type}:∀(l V:List α),l.Nodup->(∀x∈l,x∈V)->l.length<=V.length
 | [],V,_,_=>by simp
 |a::l,V,h,b=>by
  classical
  obtain⟨h1,h2⟩:=List.nodup_cons.1 h;have ih:=TU l (V.filter λx=>decide (x≠a)) h2 λx hx=>List.mem_filter.2 ⟨b x (by simp[hx]),by simp; rintro rfl; exact h1 hx⟩;have c:=Oq (p:=λ_=>true) (q:=λx=>decide (x≠a)) V (λ_ _ _=>rfl) ⟨a,b a (by simp),rfl,by simp⟩;have e:V.filter (λ_=>true)=V:=List.filter_eq_self.2 (by simp);rw[e]at c;simp only[Cl];omega
structure UI (V:List ByteArray) (h:List (ByteArray×Tm)) (l:List Pr):Prop where
 good:Cn h
 names:Gw h
 inV:∀i (hi:i<h.length),h[i].1∈V
 err:As (AO l)=0
 vars:∀y,Av y=true->Ay y (An (Aj h) (AO l))->y∈V
 size:∀p∈l,Ah [p.l]<=2000/\Ah [p.r]<=2000
 len:∃l1 l2,l=l1++l2/\(∀p∈l1,Ag (Aj h) p.l=p.l/\Ag (Aj h) p.r=p.r)/\Ah (l1.map (·.l))<=2000/\l2.length<=40+2000*h.length
theorem UI.hlen (u:UI V h l):h.length<=V.length:=by
 have h1:=TU (h.map (·.1)) V ?_ ?_
 ·simpa using h1
 ·rw[Pp,Ib,Lt];intro i j hi a aa e;have:=u.good.once hi a e;omega
 ·intro x hx;obtain⟨p,hp,rfl⟩:=Cx.1 hx;obtain⟨i,hi,rfl⟩:=Jg hp;exact u.inV i hi
theorem Oz:∀l:List Pr,l.length<=Ah (l.map (·.l))
 | []=>by simp
 |p::l=>by
  have:=Oz l;rw[CB,Fm];have:=LN p.l;simp only[Cl];omega
theorem UI.llen (u:UI V h l):l.length<=2040+2000*V.length:=by
 obtain⟨l1,l2,rfl,_,h2,h3⟩:=u.len;have h4:=Oz l1;have h5:=u.hlen;rw[Ej];have:2000*h.length<=2000*V.length:=Nat.mul_le_mul_left _ h5;omega
theorem UI.start (he:As (AO l)=0) (a:∀p∈l,Ah [p.l]<=2000/\Ah [p.r]<=2000) (b:l.length<=40):UI ((Aw (An [] (AO l))).map (·.name)) [] l:=
 ⟨Zc,λi hi=>by simp at hi,λi hi=>by simp at hi,he,λy _ ho=>by obtain⟨k,hk,e⟩:=ho; exact Cx.2 ⟨k,hk,e⟩,a,[],l,rfl,by simp,by simp[Ah],by simpa using b⟩
theorem UI.drop (u:UI V h (p::l)):UI V h l:=by
 obtain⟨g1,g2,g3,g4,g5,g6,l1,l2,e,g7,g8,g9⟩:=u;rw[AO]at g4 g5;refine⟨g1,g2,g3,(C9.1 (C9.1 g4).2).2,λy hy ho=>g5 y hy ?_,λq hq=>g6 q (by simp[hq]),?_⟩
 ·rw[Bs,Bs];exact Cm.2 (Ae (Cm.2 (Ae ho)))
 ·cases l1 with
  |nil=>
   cases l2 with
   |nil=>cases e
   |cons q l2=>simp only[Gy,Gd] at e;obtain⟨rfl,rfl⟩:=e;simp only[Cl] at g9;exact⟨[],l,rfl,by simp,by simp[Ah],by omega⟩
  |cons q l1=>simp only[Dj,Gd] at e;obtain⟨rfl,rfl⟩:=e;rw[CB,Fm]at g8;exact⟨l1,l2,rfl,λq hq=>g7 q (by simp[hq]),by omega,g9⟩
theorem UI.head (u:UI V h (p::l)):As [p.l]=0/\As [p.r]=0:=by
 have g:=u.err;rw[AO]at g;exact⟨(C9.1 g).1,(C9.1 (C9.1 g).2).1⟩
theorem Ir (u:Tm):Ay u.name [u]:=by obtain⟨n,k⟩:=u; exact Dz.2 (Ad rfl)
theorem GU {u:Tm} {y:ByteArray} (h:Ay y u.args):Ay y [u]:=by obtain⟨n,k⟩:=u; exact Dz.2 (Ae (Ad h))
theorem FV {u:Tm} (h:As [u]=0):As u.args=0:=by obtain⟨n,k⟩:=u; exact(GP h).2.1
theorem JP (u:Tm):Ah [u]=1+Ah u.args:=by obtain⟨n,k⟩:=u; simp[Ah]
theorem TW {u:Tm} (h:As [u]=0):Ff u.name=true:=by obtain⟨n,k⟩:=u; exact Rk h
theorem UI.bindV (u:UI V h (p::l)) (hx:Av x=true) (n:(x=(Ag (Aj h) p.l).name/\t=Ag (Aj h) p.r)∨(x=(Ag (Aj h) p.r).name/\t=Ag (Aj h) p.l)) (ho:¬Ch x (AU [] (Aw [t]))=true):
  Gt (Aj h) x t/\UI V (h++[(x,t)]) l:=by
 have ok:=u.good.all;obtain⟨e1,e2⟩:=u.head;have b:=EZ ok e1;have c:=EZ ok e2;have f:=ok.goneT e1;have g:=ok.goneT e2;have a:=u.vars;rw[AO,Bs,Bs]at a;have e3:As (AO l)=0:=u.drop.err;have both:(∀d∈Aj h,d.nm≠x)/\As [t]=0/\(∀e∈Aj h,¬Ay e.nm [t])/\Ff x=true/\x∈V/\(∀y,Ay y [t]->Ay y (Ag (Aj h) p.l::Ag (Aj h) p.r::An (Aj h) (AO l))):=by
  rcases n with ⟨rfl,rfl⟩|⟨rfl,rfl⟩
  ·exact⟨λd hd e=>f d hd (by rw[e]; exact Ir _),c,g,TW b,a _ hx (Cm.2 (Ad (Ir _))),λy hy=>Cm.2 (Ae (Cm.2 (Ad hy)))⟩
  ·exact⟨λd hd e=>g d hd (by rw[e]; exact Ir _),b,f,TW c,a _ hx (Cm.2 (Ae (Cm.2 (Ad (Ir _))))),λy hy=>Cm.2 (Ad hy)⟩
 obtain⟨j,k,m,o,q,s⟩:=both;have hoc:=KI hx ho;have may:Gt (Aj h) x t:=⟨hx,j,k,m,hoc⟩;obtain⟨f1,f2,f3⟩:=Ot (L:=AO l) ok hx j k m hoc e3;refine⟨may,u.good.snoc may,λi hi=>?_,λi hi=>?_,e3,λy hy hoc=>?_,u.drop.size,[],l,rfl,by simp,by simp[Ah],?_⟩
 ·by_cases e:i<h.length
  ·rw[Ls e]; exact u.names i e
  ·have:i=h.length:=by simp at hi; omega
   subst this;simpa using o
 ·by_cases e:i<h.length
  ·rw[Ls e]; exact u.inV i e
  ·have:i=h.length:=by simp at hi; omega
   subst this;simpa using q
 ·rw[Fo]at hoc;rcases f2 y hy hoc with h1|h1
  ·exact a y hy (Cm.2 (Ae (Cm.2 (Ae h1))))
  ·exact a y hy (s y h1)
 ·obtain⟨l1,l2,e,g7,g8,g9⟩:=u.len;have h4:=Oz l1;have h5:l.length+1=l1.length+l2.length:=by rw[<-Ej,<-e]; simp
  simp only[Ej,Cl,Ek];omega
theorem MO:∀ {a b:List Tm} {p:Pr},p∈AD a b->p.l∈a/\p.r∈b
 | [],_,p,h=>by simp[AD] at h
 |_::_,[],p,h=>by simp[AD] at h
 |t::a,u::b,p,h=>by
  rw[AD]at h;rcases Ct.1 h with rfl|h
  ·exact⟨by simp,by simp⟩
  ·have:=MO h;exact⟨by simp[this.1],by simp[this.2]⟩
theorem OC:∀ {a b:List Tm},a.length=b.length->(AD a b).map (·.l)=a
 | [],[],_=>rfl
 | [],_::_,h=>by simp at h
 |_::_,[],h=>by simp at h
 |t::a,u::b,h=>by rw[AD,CB,OC (by simpa using h)]
theorem TX {l:List Tm} (h:t∈l):Ah [t]<=Ah l:=by
 induction l with
 |nil=>cases h
 |cons a r b=>
  have hc:=Fm a r;rcases Ct.1 h with rfl|h
  ·omega
  ·have:=b h; omega
theorem JQ (h:∀e∈s,¬Ay e.nm [t]):Ag s t=t:=by
 have h1:=Qb [t] h;rw[Bs]at h1;simpa [An] using h1
theorem TZ {y:ByteArray} {l:List Tm} (h:t∈l) (ho:Ay y [t]):Ay y l:=by
 induction l with
 |nil=>cases h
 |cons a r b=>
  rcases Ct.1 h with rfl|h
  ·exact Cm.2 (Ad ho)
  ·exact Cm.2 (Ae (b h))
theorem UI.deep (u:UI V h (p::l)) (ha:Ah [Ag (Aj h) p.l]<=2000) (hb:Ah [Ag (Aj h) p.r]<=2000) (c:(Ag (Aj h) p.l).args.length=(Ag (Aj h) p.r).args.length):
  UI V h (AD (Ag (Aj h) p.l).args (Ag (Aj h) p.r).args++l)/\∀q∈AD (Ag (Aj h) p.l).args (Ag (Aj h) p.r).args,Ag (Aj h) q.l=q.l/\Ag (Aj h) q.r=q.r:=by
 have ok:=u.good.all;obtain⟨e1,e2⟩:=u.head;have g:=EZ ok e1;have i:=EZ ok e2;have d:=ok.goneT e1;have f:=ok.goneT e2;have a:=u.vars;rw[AO,Bs,Bs]at a;have b:∀q∈AD (Ag (Aj h) p.l).args (Ag (Aj h) p.r).args,Ag (Aj h) q.l=q.l/\Ag (Aj h) q.r=q.r:=λq hq=>by
  obtain⟨m1,m2⟩:=MO hq;exact⟨JQ λe he ho=>d e he (GU (TZ m1 ho)),JQ λe he ho=>f e he (GU (TZ m2 ho))⟩
 have j:=JP (Ag (Aj h) p.l);have sb:=JP (Ag (Aj h) p.r);refine⟨⟨u.good,u.names,u.inV,?_,λy hy ho=>?_,λq hq=>?_,?_⟩,b⟩
 ·rw[Hq];exact JK.2 ⟨JL (FV g) (FV i),u.drop.err⟩
 ·rw[Hq,IG]at ho;rcases Mm.1 ho with ho|ho
  ·rw[Qb]at ho
   ·rcases I6 ho with ho|ho
    ·exact a y hy (Cm.2 (Ad (GU ho)))
    ·exact a y hy (Cm.2 (Ae (Cm.2 (Ad (GU ho)))))
   ·intro e he hoc;rcases I6 hoc with hoc|hoc
    ·exact d e he (GU hoc)
    ·exact f e he (GU hoc)
  ·exact a y hy (Cm.2 (Ae (Cm.2 (Ae ho))))
 ·rcases BN.1 hq with hq|hq
  ·obtain⟨m1,m2⟩:=MO hq;have:=TX m1;have:=TX m2;omega
  ·exact u.size q (by simp[hq])
 ·obtain⟨l1,l2,e,g7,g8,g9⟩:=u.len;cases l1 with
  |nil=>
   cases l2 with
   |nil=>cases e
   |cons q l2=>simp only[Gy,Gd] at e;obtain⟨rfl,rfl⟩:=e;simp only[Cl] at g9;exact⟨_,l,rfl,b,by rw[OC c]; omega,by omega⟩
  |cons q l1=>
   simp only[Dj,Gd] at e;obtain⟨rfl,rfl⟩:=e;rw[CB,Fm]at g8;have hp:=(g7 p (by simp)).1;refine⟨AD (Ag (Aj h) p.l).args (Ag (Aj h) p.r).args++l1,l2,by rw[Jh],λq hq=>?_,?_,g9⟩
   ·rcases BN.1 hq with hq|hq
    ·exact b q hq
    ·exact g7 q (by simp[hq])
   ·rw[Db,Gf,OC c];rw[hp]at j ⊢;omega
def OD:Prop:=∀(q:Nat) (L:List (ByteArray×Value)) (w:World),BI w q L->(L.map (·.1)).Pairwise (·≠·)->(∀p∈L,p.1.size<=8)->L.length<=1000000->
 (Calls prog 139 #[.map (some q)] w λe w'=>e=.returned (.func (.func 146) #[] #[zC w.heap.size])/\w'=w.alloc (zp #[.map (some q)] 159))/\
 (Calls prog 138 #[.func (.func 146) #[] #[zC w.heap.size]] (w.alloc (zp #[.map (some q)] 159)) λe w'=>∃(v:Value) (nl:List ByteArray),e=.returned v/\nl.Perm (L.map (·.1))/\(nl.Pairwise λa b=>CC b a=false)/\LV Value.string w' (λb=>w.heap.size+1<=b) v nl/\Below (w.heap.size+1) (w.alloc (zp #[.map (some q)] 159)) w')
theorem Zz (a b c:Value) (w:World):Sem.run prog (Instr.field 193 (.agg #[a,b,c]) 0) w=.ok (.agg #[a,b]) w:=by
 rfl
theorem ZB {cs:List Bc} (h:Cs w N Y v cs) (d:N<=w.heap.size) (f:∀b,Y b->b<N) (hb:Below w.heap.size w w1) (x:Bc) (ht:Sl w1 (λb=>Y b∨w.heap.size<=b) x.2.1 x.1.t.args) (hn:cs.length<=1000000) (A:Nat) (i:w1.heap.size=A):
  ∃v2 w3,(Builtin.append_ #[63,63] 63 #[v,.slice (some (zD A 0)) 1 1]).run prog (w1.alloc (zp #[.string x.1.nm,.string x.1.t.name,.slice x.2.1 x.1.t.args.length x.2.2] 93))=.ok v2 w3/\Cs w3 N Y v2 (cs++[x])/\
   (w1.alloc (zp #[.string x.1.nm,.string x.1.t.name,.slice x.2.1 x.1.t.args.length x.2.2] 93)).grownBy w3 v.ownBlock/\∀k,v2.ownBlock=some k->v.ownBlock=some k∨w1.heap.size<=k:=by
 subst i;obtain⟨i0,hi,j,l,m⟩:=Dw Tryz.infoBind;have hs:=hb.size;obtain⟨g,cap,w3,n,ho,a,c,hlt⟩:=run_append_lies (P:=prog) (w:=w1.alloc (zp #[.string x.1.nm,.string x.1.t.name,.slice x.2.1 x.1.t.args.length x.2.2] 93)) 63 63 N 93 i0 _ 3 56 underlying63 hi j l m rfl (by decide) v cs.length (DE cs) ((h.below hb).own.alloc _)
  (zD w1.heap.size 0) 1 1 (D5 x) rfl (Ms _ _ _ _ _) (λy hy=>by simp[D5] at hy; rcases hy with rfl|rfl|rfl<;>rfl) (by decide) (by unfold maxLen; omega) (by omega) (by simp; omega) _ rfl
 refine⟨_,w3,n,h.push d f hb ht _ rfl ho a c,a,λk hk=>?_⟩;have e:g=k:=by simpa [Value.ownBlock] using hk
 rcases c with h1|h1
 ·exact Ad (by rw[h1,e])
 ·right; simp at h1; omega
def Hs (s:List Bd) (n:ByteArray):Bd:=⟨n,(AF s n).getD ⟨n,[]⟩⟩
def ZC (S q:Nat) (td:Value) (h:List (ByteArray×Tm)) (nl:List ByteArray) (Y:Nat->Prop) (w2:World) (u i:Value) (wr:World):Prop:=
 ∃(k:Nat) (f':Bool) (Y':Nat->Prop) (cs:List Bc),k<=nl.length/\i=zA k/\Cs wr w2.heap.size (λ_=>False) u cs/\cs.map (·.1)=(nl.take k).map (Hs (Aj h))/\(∀x∈cs,Ah [x.1.t]<=2000)/\Cv S q td h f' Y' wr/\(∀b,Y' b->Y b∨w2.heap.size<=b)/\(∀b,Y' b->some b≠u.ownBlock)/\Al (Cw S q) w2 wr
def ZD (h:List (ByteArray×Tm)) (S q:Nat) (w:World) (e:Ending) (w':World):Prop:=
 Al (Cw S q) w w'/\((AV (Aj h)=true/\e=.returned (.tuple #[zB,.bool false]))∨(AV (Aj h)=false/\∃v,e=.returned (.tuple #[v,.bool true])/\BV w' (λb=>w.heap.size<=b) v (Aj h)))
theorem ZE:∀ {h:List (ByteArray×Tm)},Cn h->Fu (Aj h):=fun {h} g=>by
 rcases List.eq_nil_or_concat h with rfl|⟨k,p,rfl⟩
 ·simp[Aj,Fu]
 ·rw[List.concat_eq_append]at g ⊢;rw[Fo];have hk:k.length<(k++[p]).length:=by simp
  have m:=g k.length hk;rw[J7 (Af _),G8]at m;have gk:=g.ok k.length (by simp);rw[J7 (Af _),G8]at gk;have m2:∀d∈Aj k,d.nm≠p.1:=λd hd=>by
   have:=m.2.1 d hd;simpa using this
  exact LM _ (Kx gk.1 m2)
theorem ZF (g:Cn h) {nl:List ByteArray} (hp:nl.Perm (h.map (·.1))) (ho:nl.Pairwise λa b=>CC b a=false):nl.map (Hs (Aj h))=Aj h:=by
 have ok:=g.all;have f:(h.map (·.1)).Nodup:=(by rw[Pp,Ib,Lt];intro i j hi l ag e;have:=g.once hi l e;omega);have ah:nl.Nodup:=hp.symm.nodup f;have k:(nl.map (Hs (Aj h))).Perm (Aj h):=by
  have h1:((h.map (·.1)).map (Hs (Aj h))).Perm (Aj h):=by
   refine(List.perm_ext_iff_of_nodup ?_ ?_).2 λd=>?_
   ·rw[Pp,Ib];refine(Pp.1 f).imp fun {a b} c e=>c ?_;have:=Dt Bd.nm e;exact this
   ·exact(List.Pairwise.imp (fun {a b} c e=>c (by rw[e])) ok.1:(Aj h).Pairwise (·≠·))
   ·constructor
    ·intro hd;obtain⟨n,m,rfl⟩:=Cx.1 hd;obtain⟨p,o,rfl⟩:=Cx.1 m;obtain⟨i,hi,rfl⟩:=Jg o;obtain⟨d,q,e1,e2⟩:=Fv (JN g hi);have:Hs (Aj h) h[i].1=d:=by
      unfold Hs;rw[JN g hi,Option.getD_some,<-e2,<-e1]
     rw[this]; exact q
    ·intro hd;have h2:=(g.bound h.length (Af _) d.nm).1 ⟨d,by rw[G8]; exact hd,rfl⟩;obtain⟨i,hi,_,e⟩:=h2;refine Cx.2 ⟨d.nm,Cx.2 ⟨h[i],Bv hi,e⟩,?_⟩;unfold Hs;rw[Kv ok.1 hd,Option.getD_some]
  exact(hp.map _).trans h1
 refine NL k (NM (ok.1.perm k) ?_) (ZE g);rw[Ib];exact ho
theorem T8 (bd:Hid OD) (S q:Nat) (a:Value) (h:List (ByteArray×Tm)) (g:Cn h) (z:Gw h) (hh:h.length<=1000000) (w:World) (Y:Nat->Prop) (f:Bool) (hE:Cv S q a h f Y w):
  Calls prog 121 #[zC S] w λe w'=>ZD h S q w e w':=by
 have HE:=Aa hE;obtain⟨⟨L,J,M,A⟩,bB,bC,hY,hg⟩:=hE;have bD:=J.lt;have bE:=M.lt;have bf:=A.1;have HY:=Aa hY;have aD:Hid (L.map (·.1)=h.map (·.1)):=(by refine List.ext_getElem (by simp[bf]) λi h1 h2=>?_;simp only[List.getElem_map];exact(A.2 i (by simpa using h2) (by simpa using h1)).1);have B:=bd.o q L w M (by
   rw[aD.o,Ib,Lt];intro i j hi C bF e;have:=g.once hi C e;omega) (λp hp=>by
   obtain⟨i,hi,rfl⟩:=Jg hp;rw[(A.2 i (by omega) hi).1];have h1:=z i (by omega);simp[Ff]at h1;omega) (by omega)
 rw[aD.o]at B;have s1:w.cell? (zD S 1)=some (.map (some q)):=J.cell 1;clear J M A hg hY;go_in;go_wp2_with (first
  | (go_at_call 139; refine B.1.mono ?_; rintro e w1 ⟨rfl,rfl⟩)
  | (go_at_call 138; refine B.2.mono ?_; rintro e w2 ⟨v2,nl,rfl,N,aE,aF,O⟩; have bg:=Aa aF; obtain⟨na,nc,rfl,bh,bj⟩:=aF; clear bj))
 have HP:=Aa N;have HO:=Aa aE;have ar:Hid (Below w.heap.size w w2):=((Ac _ _).alloc (Af _) _).trans (O.mono (by omega));have bG:w.heap.size+1<=w2.heap.size:=by have:=O.size; simp at this; omega
 have bk:=Aa ((DA S q a h).below HE.o ar.o);have aG:nl.length<=1000000:=by have:=N.length_eq; simp at this; omega
 obtain⟨bl,bm⟩:=bh;clear N aE O B s1;go_wp2_with fail;go_loopw [4,16] (λu i wr=>ZC S q a h nl Y w2 u i wr) (λu i wr=>nl.length-(intOf i).toNat);case atStart=>exact⟨0,f,Y,[],Bp _,rfl,Cs.start _ _ _,by simp,by simp,bk.o,λb hb=>Ad hb,λb _ e=>by simp[Value.ownBlock] at e,Al.refl _ _⟩
 case round=>
  obtain⟨k,f',Y',cs,hk,rfl,hR,hC,hZ,R,ad,ae,hx⟩:=hrel;have D:=Aa hR;have m:=Aa hC;have HZ:=Aa hZ;have bo:=Aa R;have av:=Aa ad;have aw:=Aa ae;have U:=Aa hx;have bH:=hx.size;clear hR hC hZ ad ae hx;by_cases n:k<nl.length
  ·have bp:(k:Int)<(nl.length:Int):=(by omega);have bq:LV Value.string wr (λb=>w.heap.size+1<=b/\b<w2.heap.size) (.slice na nl.length nc) nl:=(bg.o.mono (Y:=λb=>w.heap.size+1<=b/\b<w2.heap.size) λb h1 h2=>⟨h1,h2⟩).kept λb hb=>U.o.block b hb.2 (λhm=>by rcases hm with e|e<;>omega);obtain⟨bI,bJ,e0,_,E⟩:=bq;obtain⟨bn,on,rfl,bK,E⟩:=E.resolve_left (λe=>by rw[e] at n; simp at n);simp at e0;obtain⟨rfl,rfl⟩:=e0;have nk:=E k n;obtain⟨i,hi,F⟩:∃i,∃hi:i<h.length,h[i].1=nl[k]:=(by have h1:=HP.o.subset (Bv n);obtain⟨p,hp,e⟩:=Cx.1 h1;obtain⟨i,hi,rfl⟩:=Jg hp;exact⟨i,hi,e⟩);have r:nl.take (k+1)=nl.take k++[nl[k]]:=CI n;have br:=Aa r;obtain⟨⟨L',aH,aI,ag⟩,ax,ay,aJ,bs⟩:=R;obtain⟨v,V,aK⟩:=ag.get g hi;obtain⟨T,j,ta,G,hT,C,rfl,aL⟩:=TO aK;have bt:=Aa aL;have HT:=Aa hT;have bL:=Aa aJ;have hz:∀w',(zeroValue 193).run prog w'=.ok (.agg #[.string ⟨#[]⟩,zB,zA 0]) w':=λw'=>zeroValue193 w';have bM:=Aa F;rw[F]at V;have bu:Hid (Hs (Aj h) nl[k]=⟨nl[k],stood h i h.length hi⟩):=Aa (by unfold Hs;rw[<-F,JN g hi,Option.getD_some]);generalize nl[k]=nm at *;have bw:(Instr.lookup 159 (.map (some q)) (.string nm) false).run prog wr=.ok (.agg #[.string T.name,.slice ta T.args.length G,zA j]) wr:=(by rw[XY (P:=prog) underlying159 underlying9 (hz _) aI nm,V]; rfl);have bN:Sem.run prog (Instr.field 193 (.agg #[.string T.name,.slice ta T.args.length G,zA j]) 0) wr=.ok (.agg (zG T ta G)) wr:=Zz _ _ _ _;have s1:wr.cell? (zD S 1)=some (.map (some q)):=aH.cell 1;have bx:Hid (Ag (Aj h) T=stood h i h.length hi):=Aa (by rw[HT.o];exact Tx g hi (Nat.max_le.2 ⟨C,hi⟩) (z i hi));have bz:Hid (As [T]=0):=Aa (by rw[HT.o];exact TI g z hi (Nat.max_le.2 ⟨C,hi⟩));have W:=Oy S q a h g z T bz.o ta G wr (λb=>Y' b/\b≠S/\b≠q) Y' f' (λb hb hm=>by rcases hm with e|e; exact hb.2.1 e; exact hb.2.2 e) bt.o bo.o;rw[bx.o]at W;have b0:Hid (cs.length<=1000000):=Aa (by have h1:=Dt List.length m.o;simp at h1;omega);clear aH aI ag ax ay aJ bs V aK aL hT r E F HT;go_wp2_with fail;refine W.mono ?_;clear W;rintro e c ⟨y,s,t,ok,f2,l,rfl,aM,ab,a1,H,ah,aN,aO⟩;have Z:=Aa aM;have aP:Hid (Al (Cw S q) w2 c):=U.o.trans H;have a7:=Aa H;have a8:=Aa ah;have aQ:=Aa ab;have aA:=Aa aN;have aB:=Aa aO;have bO:=H.size;clear aM ab a1 H ah aN aO bw s1 nk;cases ok with
   |false=>
    have b1:Hid (AV (Aj h)=true):=by
     rcases aB.o rfl with h1|h1
     ·exact Z.o.2.2.2.2 h1
     ·exact TJ g hi h1
    clear aA aB;go_wp2_with fail;refine Ao (v:=.tuple #[zB,.bool false]) (by simp[results,results121,go_sem]) rfl ?_;exact⟨((Al.ofBelow ar.o).trans aP.o).alloc _,Ad ⟨b1.o,rfl⟩⟩
   |true=>
    obtain⟨rfl,aR,aS⟩:=aA.o rfl;have b2:=Aa aR;have b3:=Aa aS;clear aR aS aA aB;obtain⟨wm,aT,bP,aU⟩:=a7.o.mid;have aV:=D.o.exq aU (λb hb=>by rcases hb with rfl|rfl<;>omega) (λ_ _ h=>h);have b4:(c.alloc (zh y s t)).heap.size=c.heap.size+1:=(by simp);have aW:Below wm.heap.size wm (c.alloc (zh y s t)):=aT.alloc (by omega) _;obtain⟨v6,w6,ai,aX,I,aY⟩:=ZB aV (by omega) (λ_ h=>h.elim) aW (⟨nm,y⟩,s,t) ((a8.o.later ((Ac _ _).alloc (Af _) _)).mono λb hb _=>Ae (by omega)) b0.o (c.heap.size+1) b4;have aC:=Aa ai;have b5:=Aa aX;have aZ:=I.size;simp at aZ;have b6:Hid (Al (Cw S q) w2 w6):=((aP.o.alloc _).alloc _).grown I (λb hb=>Ad (D.o.own.lt b hb).1);have b7:Hid (∀b,l b->Y b∨w2.heap.size<=b):=λb hb=>by
     rcases aQ.o b hb with h1|h1
     ·exact av.o b h1
     ·right; omega
    have ba:Hid (∀b,l b->some b≠u4.ownBlock):=λb hb e=>by
     rcases aQ.o b hb with h1|h1
     ·exact aw.o b h1 e
     ·have:=(D.o.own.lt b e.symm).2; omega
    have bb:Hid (∀b,l b->b<c.heap.size):=Z.o.2.2.2.1;have b8:Hid (Cv S q a h false l w6):=(DA S q a h).keep _ _ _ _ Z.o λb hb=>by
     have h1:=bb.o b hb;rw[I.block b (by simp; omega) (ba.o b hb),BL _ _ _ (by simp; omega),BL _ _ _ h1]
    have b9:Hid (∀b,l b->some b≠v6.ownBlock):=λb hb e=>by
     rcases aY b e.symm with h1|h1
     ·exact ba.o b hb h1.symm
     ·have:=bb.o b hb; omega
    clear aT aU aV aW ai aX I aY aZ;go_wp2_with (at_builtin; refine IB rfl _ _ _ _ rfl rfl rfl aC.o ?_);go_roundw
    case rel=>
     refine⟨k+1,false,l,cs++[(⟨nm,y⟩,s,t)],by omega,by go_num,b5.o,?_,λx hx=>?_,b8.o,b7.o,b9.o,b6.o⟩
     ·rw[br.o,Db,Db,m.o];simp only[CB,H4];rw[bu.o,b2.o]
     ·rcases BN.1 hx with hx|hx
      ·exact HZ.o x hx
      ·have e:x=(⟨nm,y⟩,s,t):=(by simpa using hx);rw[e]; exact b3.o
    case measure=>simp[intOf]; omega
  ·have r:nl.take k=nl:=Bz (by omega);rw[r]at m;have bc:=Aa (ZF g HP.o HO.o);have bA:Hid (AV (Aj h)=false):=Aa (by rw[<-bc.o,<-m.o];unfold AV;rw[List.any_eq_false];intro d hd;obtain⟨x,hx,rfl⟩:=Cx.1 hd;have:=HZ.o x hx;simp;omega);clear R r;go_wp2_with fail;refine Ao (v:=.tuple #[u4,.bool true]) (by simp[results,results121,go_sem]) rfl ?_;refine⟨(Al.ofBelow ar.o).trans U.o,Ae ⟨bA.o,u4,rfl,?_⟩⟩;have h1:=D.o.bv;rw[m.o,bc.o]at h1;exact h1.mono λb hb _=>by rcases hb with hb|hb; exact hb.elim; omega
theorem T9 {p:ByteArray} {l:List Tm} (h:k<l.length):CN p (l.take (k+1))=(CN p (l.take k)||CN p [l[k]]):=by
 unfold CN;rw[Px l k h,List.any_append]
theorem ZG {p:ByteArray} {l:List Tm} (h:k<l.length) (h0:CN p [l[k]]=true):CN p l=true:=by
 have e:l=l.take (k+1)++l.drop (k+1):=(FH _ _).symm;have h1:=T9 (p:=p) h;rw[h0,Bool.or_true]at h1;unfold CN at h1 ⊢;rw[e,Lw,List.any_append,h1];rfl
theorem ZH (s:ByteArray) (l:List Tm) (p:ByteArray):CN p [⟨s,l⟩]=((s.toList==p.toList)||CN p l):=by
 unfold CN;simp[Aw]
def ZI (p:ByteArray) (l:List Tm) (w:World) (v:Value) (wr:World):Prop:=∃k:Nat,k<=l.length/\v=zA k/\CN p (l.take k)=false/\Below w.heap.size w wr
theorem ZJ (P:Nat) (p:ByteArray) (l:List Tm) (a:Option Addr) (c:Nat) (w:World) (X:Nat->Prop) (g:Sl w X a l)
  (n:∀x∈l,∀d c' w',Below w.heap.size w w'->Sl w' X d x.args->Calls prog 153 #[.agg (zG x d c'),zC P] w' λe z=>e=.returned (.bool (CN p [x]))/\Below w'.heap.size w' z):
  Calls prog 162 #[.slice a l.length c,.func (.func 153) #[] #[zC P]] w λe w'=>(∃i:Int,e=.returned (zA i)/\decide (0<=i)=CN p l)/\Below w.heap.size w w':=by
 have A:=Aa g;have B:=Aa n;have hl:=g.1;clear g n;go_in;go_wp2_with fail;go_loopw [8] (λv wr=>ZI p l w v wr) (λv wr=>l.length-(intOf v).toNat);case atStart=>exact⟨0,Bp _,rfl,by simp[CN,Aw],Ac _ _⟩
 case round=>
  obtain⟨k,hk,rfl,hT,hb⟩:=hrel;have HT:=Aa hT;have j:=Aa hb;clear hT;by_cases f:k<l.length
  ·have ai:(k:Int)<(l.length:Int):=(by omega);obtain⟨b,o,d,c',rfl,d0,d1,hx⟩:=A.o.get hb (λ_ _ h=>h) k f;obtain⟨av,cv,q,r⟩:=hx;simp at q;obtain⟨rfl,rfl⟩:=q;have C:=Aa (B.o l[k] (Bv f) d c' wr hb r);have s:=Aa (T9 (p:=p) f);have D:=Aa (ZG (p:=p) f);clear r hb;generalize l[k]=y at *;go_wp2_with fail;refine C.o.mono ?_;rintro e w1 ⟨rfl,t⟩;have u:=Aa (j.o.trans (t.mono j.o.size));clear t;cases hm:CN p [y] with
   |true=>have m:=Aa (D.o hm);go_wp2_with fail;go_ret;exact⟨⟨_,rfl,by rw[m.o]; simp⟩,u.o⟩
   |false=>
    rw[hm]at s;go_wp2_with fail;go_roundw
    case rel=>exact⟨k+1,by omega,by go_num,by rw[s.o,HT.o]; rfl,u.o⟩
    case measure=>simp[intOf]; omega
  ·have m:Hid (false=CN p l):=Aa (by rw[<-HT.o,Bz (by omega)]);go_wp2_with fail;go_ret;exact⟨⟨-1,rfl,by rw[<-m.o]; decide⟩,j.o⟩
theorem ZK (P:Nat) (p:ByteArray) (l:List Tm) (a:Option Addr) (c:Nat) (w:World) (X:Nat->Prop) (b:Sl w X a l)
  (d:∀x∈l,∀f c' w',Below w.heap.size w w'->Sl w' X f x.args->Calls prog 153 #[.agg (zG x f c'),zC P] w' λe h=>e=.returned (.bool (CN p [x]))/\Below w'.heap.size w' h):
  Calls prog 152 #[.slice a l.length c,.func (.func 153) #[] #[zC P]] w λe w'=>e=.returned (.bool (CN p l))/\Below w.heap.size w w':=by
 have j:=Aa (ZJ P p l a c w X b d);clear b d;go_in;go_wp2_with fail;refine j.o.mono ?_;rintro e w1 ⟨⟨i,rfl,hi⟩,g⟩;have k:=Aa hi;have m:=Aa g;clear hi g;go_wp2_with fail;go_ret;exact⟨El (by rw[<-k.o]),m.o⟩
theorem ZL (n:ByteArray) (t:Tm):∀(d:Value) (w:World) (X:Nat->Prop),TV w X d t->
  Calls prog 143 #[d,.string n] w λe w'=>e=.returned (.bool (CN n [t]))/\Below w.heap.size w w':=by
 induction t using Tm.ind with
 |h s l g=>
  intro d w X ht;obtain⟨a,c,rfl,i⟩:=ht;have y:=Aa g;have z:=Aa i;have j:=Aa (ZH s l n);clear g i;(try dsimp only[zG]);(try dsimp only[zH]);(try dsimp only[zE]);(try dsimp only);have b:Hid (Below w.heap.size w ((w.alloc (zp #[.string s,.slice a l.length c] 61)).alloc (zp #[.string n] 9))):=EJ _ _;have PA:=Aa ((Ab.new w #[.string s,.slice a l.length c] 61).alloc (zp #[.string n] 9));have k:Hid (Ab ((w.alloc (zp #[.string s,.slice a l.length c] 61)).alloc (zp #[.string n] 9)) (w.heap.size+1) #[.string n] 9):=by
   have h:=Ab.new (w.alloc (zp #[.string s,.slice a l.length c] 61)) #[.string n] 9;unfold Hid;simpa using h
  have al:=@hmq prog;cases hm:(s.toList==n.toList) with
  |true=>have f:Hid (true=CN n [⟨s,l⟩]):=Aa (by rw[j.o,hm];rfl);go_in;go_wp2_with fail;go_ret;exact⟨El f.o,b.o⟩
  |false=>
   have f:Hid (CN n l=CN n [⟨s,l⟩]):=Aa (by rw[j.o,hm];rfl);go_in;go_wp2_with fail;generalize (w.alloc (zp #[.string s,.slice a l.length c] 61)).alloc (zp #[.string n] 9)=w3 at *;have A:=Aa (ZK (w.heap.size+1) n l a c w3 X (z.o.later b.o) (λx hx m c' w' q r=>by
    have B:=Aa (k.o.below q k.o.lt);have b0:∀o,(w'.alloc o).cell? (zD (w.heap.size+1) 0)=some (.string n):=λo=>(B.o.alloc o).cell 0;have C:=Aa (y.o x hx (.agg (zG x m c')) (w'.alloc (zh x m c')) X ⟨_,_,rfl,r.later ((Ac _ _).alloc (Af _) _)⟩);clear r q;go_in;go_wp2_with fail;refine C.o.mono ?_;rintro e w1 ⟨rfl,u⟩;have D:=Aa (((Ac w'.heap.size w').alloc (Af _) _).trans (u.mono (by simp)));clear u;go_wp2_with fail;go_ret;exact⟨rfl,D.o⟩))
   refine A.o.mono ?_;rintro e w4 ⟨rfl,v⟩;have E:=Aa (b.o.trans (v.mono b.o.size));clear v;go_wp2_with fail;go_ret;exact⟨El f.o,E.o⟩
def Ua (ta tb:Tm) (s1:ByteArray) (a1:Option Addr) (n1:Nat) (s2:ByteArray) (a2:Option Addr) (n2:Nat) (ok f':Bool) (Z:Nat->Prop) (w':World):Prop:=
 (ok=true/\f'=false/\s1=ta.name/\n1=ta.args.length/\s2=tb.name/\n2=tb.args.length/\Ah [ta]<=2000/\Ah [tb]<=2000/\Sl w' Z a1 ta.args/\Sl w' Z a2 tb.args)∨(ok=false/\(f'=true∨2000<Ah [ta]∨2000<Ah [tb]))
def ZM (S q:Nat) (td:Value) (h:List (ByteArray×Tm)) (ta tb:Tm) (X Y:Nat->Prop) (w:World) (e:Ending) (w':World):Prop:=
 ∃(s1:ByteArray) (a1:Option Addr) (n1 c1:Nat) (s2:ByteArray) (a2:Option Addr) (n2 c2:Nat) (ok f':Bool) (Y':Nat->Prop),e=.returned (.tuple #[.agg #[.string s1,.slice a1 n1 c1],.agg #[.string s2,.slice a2 n2 c2],.bool ok])/\Cv S q td h f' Y' w'/\(∀b,Y' b->Y b∨w.heap.size<=b)/\Al (Cw S q) w w'/\Ua ta tb s1 a1 n1 s2 a2 n2 ok f' (λb=>(X b/\b<w.heap.size)∨w.heap.size<=b) w'
theorem ZN (w:World):w.drew.heap=w.heap:=rfl
theorem MP {a d e f h:Nat} (h1:b≠c1) (h2:b≠c2) (h3:b≠c3) (j:b≠a) (h5:b≠c5) (h6:b≠c):
  ((((((w.setCell (zD c1 d) v1).setCell (zD c2 e) v2).setCell (zD c3 f) v3).setCell (zD a g) v4).setCell (zD c5 h) v5).setCell (zD c i) v6).drew.heap[b]? = w.heap[b]? := by
 rw[ZN];rw[Ak _ _ _ _ (by simpa using h6),Ak _ _ _ _ (by simpa using h5),Ak _ _ _ _ (by simpa using j),Ak _ _ _ _ (by simpa using h3),Ak _ _ _ _ (by simpa using h2),Ak _ _ _ _ (by simpa using h1)]
theorem Ub {a:World} {d e f:Nat} (h:Al Q a w) (h1:a.heap.size<=c1) (h2:a.heap.size<=c2) (h3:a.heap.size<=c3) (k:a.heap.size<=b) (h5:a.heap.size<=c5) (h6:a.heap.size<=c):
  Al Q a ((((((w.setCell (zD c1 d) v1).setCell (zD c2 e) v2).setCell (zD c3 f) v3).setCell (zD b g) v4).setCell (zD c5 i) v5).setCell (zD c j) v6).drew:=
 ((((((h.setNew h1 _ _).setNew h2 _ _).setNew h3 _ _).setNew k _ _).setNew h5 _ _).setNew h6 _ _).drew
theorem ZO (S q:Nat) (m:Value) (h:List (ByteArray×Tm)) (g:Cn h) (hN:Gw h) (p:Pr) (he:As [p.l]=0/\As [p.r]=0) (j:Nat) (hj:j<=h.length) (hid:j=h.length->(Ag (Aj h) p.l=p.l/\Ag (Aj h) p.r=p.r)) (aJ:Ah [p.l]<=2000/\Ah [p.r]<=2000) (d:Option Addr) (c1:Nat) (a2:Option Addr) (c2:Nat) (w:World) (X Y:Nat->Prop) (aK:∀b,X b->¬Cw S q b) (aL:Sl w X d p.l.args) (aM:Sl w X a2 p.r.args) (aN:Cv S q m h false Y w):
  Calls prog 135 #[zC S,.agg #[.string p.l.name,.slice d p.l.args.length c1,.string p.r.name,.slice a2 p.r.args.length c2,zA j]] w λe w'=>ZM S q m h (Ag (Aj h) p.l) (Ag (Aj h) p.r) X Y w e w':=by
 have aO:=Aa aL;have aP:=Aa aM;have HE:=Aa aN;have ax:=Aa aK;have aQ:=Aa hid;have aR:=Aa aJ;obtain⟨⟨L,N,hM,aS⟩,bn,bo,hY,hg⟩:=aN;have bd:=N.lt;have aT:=hM.lt;have HY:=Aa hY;have bf:Hid (L.length=h.length):=aS.1;have bg:=Aa hM;have HB:=Aa N;clear aL aM aK hid aJ aS hg hY hM;have s1:∀o o' n,(((w.alloc o).alloc o').alloc n).cell? (zD S 1)=some (.map (some q)):=λo o' n=>(((N.alloc o).alloc o').alloc n).cell 1;have hlen:∀o o' n,Sem.run prog (Builtin.len_ #[159] 3 #[.map (some q)]) (((w.alloc o).alloc o').alloc n).drew=.ok (zA (h.length:Int)) (((w.alloc o).alloc o').alloc n).drew:=λo o' n=>by
  have h1:BI (((w.alloc o).alloc o').alloc n).drew q L:=bg.o.below (((((Ac w.heap.size w).alloc (Af _) o).alloc (by simp) o').alloc (by simp; omega) n).drew) aT;rw[KK underlying159 h1,bf.o]
 clear N;by_cases x:j=h.length
 ·have bh:((j:Int)==(h.length:Int))=true:=by rw[x]; simp
  have t:=Aa (aQ.o x);have HJ:=Aa x;clear x;go_in;go_wp2_with fail;go_region
  go_wp2_with fail;go_region
  all_goals go_wp2_with fail
  all_goals
   refine Ao (v:=.tuple #[.agg (zG p.l d c1),.agg (zG p.r a2 c2),.bool true]) (by simp[results,results135,go_sem]) rfl ?_;have O:Below w.heap.size w (((w.alloc (zp #[.string p.l.name,.slice d p.l.args.length c1,.string p.r.name,.slice a2 p.r.args.length c2,zA j] 167)).alloc (zh p.l d c1)).alloc (zh p.r a2 c2)).drew.drew:=(((((Ac w.heap.size w).alloc (Af _) _).alloc (by simp) _).alloc (by simp; omega) _).drew).drew;exact⟨p.l.name,d,p.l.args.length,c1,p.r.name,a2,p.r.args.length,c2,true,false,Y,rfl,(DA S q m h).below HE.o O,λb hb=>Ad hb,Al.ofBelow O,Ad ⟨rfl,rfl,by rw[t.o.1],by rw[t.o.1],by rw[t.o.2],by rw[t.o.2],by rw[t.o.1]; exact aR.o.1,by rw[t.o.2]; exact aR.o.2,by rw[t.o.1]; exact(aO.o.mono (Y:=λb=>X b/\b<w.heap.size) λb h1 h2=>⟨h1,h2⟩).later O |>.mono λb hb _=>Ad hb,by rw[t.o.2]; exact(aP.o.mono (Y:=λb=>X b/\b<w.heap.size) λb h1 h2=>⟨h1,h2⟩).later O |>.mono λb hb _=>Ad hb⟩⟩
 ·have bh:((j:Int)==(h.length:Int))=false:=Dx.2 (by omega);clear x aQ;have ay:=Aa (aO.o.mono (Y:=λb=>X b/\b<w.heap.size) λb h1 h2=>⟨h1,h2⟩);have az:=Aa (aP.o.mono (Y:=λb=>X b/\b<w.heap.size) λb h1 h2=>⟨h1,h2⟩);have a6:Hid (Below w.heap.size w (((w.alloc (zp #[.string p.l.name,.slice d p.l.args.length c1,.string p.r.name,.slice a2 p.r.args.length c2,zA j] 167)).alloc zd).alloc zd).drew):=((((Ac w.heap.size w).alloc (Af _) _).alloc (by simp) _).alloc (by simp; omega) _).drew;have Q3:Hid (Ab (((w.alloc (zp #[.string p.l.name,.slice d p.l.args.length c1,.string p.r.name,.slice a2 p.r.args.length c2,zA j] 167)).alloc zd).alloc zd).drew w.heap.size #[.string p.l.name,.slice d p.l.args.length c1,.string p.r.name,.slice a2 p.r.args.length c2,zA j] 167):=((Ab.new w _ _).alloc _).alloc _;have A3:Hid (Ab (((w.alloc (zp #[.string p.l.name,.slice d p.l.args.length c1,.string p.r.name,.slice a2 p.r.args.length c2,zA j] 167)).alloc zd).alloc zd).drew (w.heap.size+1) ze 61):=(by have h1:=(Ab.new (w.alloc (zp #[.string p.l.name,.slice d p.l.args.length c1,.string p.r.name,.slice a2 p.r.args.length c2,zA j] 167)) ze 61).alloc zd;rw[Ca]at h1;exact h1);have B3:Hid (Ab (((w.alloc (zp #[.string p.l.name,.slice d p.l.args.length c1,.string p.r.name,.slice a2 p.r.args.length c2,zA j] 167)).alloc zd).alloc zd).drew (w.heap.size+1+1) ze 61):=(by have h1:=Ab.new ((w.alloc (zp #[.string p.l.name,.slice d p.l.args.length c1,.string p.r.name,.slice a2 p.r.args.length c2,zA j] 167)).alloc zd) ze 61;rw[Ca,Ca]at h1;exact h1);have z3:(((w.alloc (zp #[.string p.l.name,.slice d p.l.args.length c1,.string p.r.name,.slice a2 p.r.args.length c2,zA j] 167)).alloc zd).alloc zd).drew.heap.size=w.heap.size+3:=by simp
  go_in;go_wp2_with fail;go_region
  go_wp2_with fail;generalize (((w.alloc (zp #[.string p.l.name,.slice d p.l.args.length c1,.string p.r.name,.slice a2 p.r.args.length c2,zA j] 167)).alloc zd).alloc zd).drew=w3 at *;refine(Oy S q m h g hN p.l he.1 d c1 w3 _ Y false (λb hb=>ax.o b hb.1) (ay.o.later a6.o) ((DA S q m h).below HE.o a6.o)).mono ?_;rintro e k ⟨y,a,c,ok,f',P,rfl,aU,z,a7,hx,A,B,C⟩;have D:∀b,Cw S q b->b<w.heap.size:=λb hb=>by rcases hb with rfl|rfl; exact bd; exact aT
  have aV:Hid (Al (Cw S q) w k):=(Al.ofBelow a6.o).trans hx;have Q4:=Aa (Q3.o.exq hx (λh=>by have:=D _ h; omega));have E:=Aa (A3.o.exq hx (λh=>by have:=D _ h; omega));have F:=Aa (B3.o.exq hx (λh=>by have:=D _ h; omega));have aW:Hid (w.heap.size+3<=k.heap.size):=Aa (by have:=hx.size;omega);have R:Hid (∀b,P b->Y b∨w.heap.size+3<=b):=λb hb=>(z b hb).imp id λh=>by omega
  have aX:=Aa aU;have a8:Hid (Sl k (λb=>w.heap.size+3<=b/\b<k.heap.size) a y.args):=A.mono λb hb h2=>⟨by omega,h2⟩;have aA:=Aa B;have aB:=Aa C;have aC:=Aa D;clear z hx A B C aU a7 D;have q2:=Q4.o.c2;have q3:=Q4.o.c3;have x0:=E.o.c0;have x1:=E.o.c1;have xf:=E.o.frozen;have y0:=F.o.c0;have y1:=F.o.c1;cases ok with
  |true=>
   obtain⟨rfl,aY,aZ⟩:=aA.o rfl;have T:=Aa aY;have bj:=Aa aZ;clear aY aZ aA aB;have aD:∀b,b≠w.heap.size+1->((k.setCell (zD (w.heap.size+1) 0) (.string y.name)).setCell (zD (w.heap.size+1) 1) (.slice a y.args.length c)).heap[b]? = k.heap[b]? := λb hb=>by
    rw[Ak _ _ _ _ (by simpa using hb),Ak _ _ _ _ (by simpa using hb)]
   have A5:Hid (Ab ((k.setCell (zD (w.heap.size+1) 0) (.string y.name)).setCell (zD (w.heap.size+1) 1) (.slice a y.args.length c)) (w.heap.size+1) (zG y a c) 61):=Aa (by have:=(E.o.set 0 (.string y.name)).set 1 (.slice a y.args.length c);simpa using this);have B5:=Aa ((F.o.setOther (b':=w.heap.size+1) 0 (.string y.name) (by omega)).setOther (b':=w.heap.size+1) 1 (.slice a y.args.length c) (by omega));have bk:=Aa ((DA S q m h).keep _ _ _ _ aX.o λb hb=>aD b (λe=>by rcases R.o b hb with h1|h1; have:=HY.o b h1; omega; omega));have ba:=Aa ((aV.o.setNew (b:=w.heap.size+1) (by omega) 0 (.string y.name)).setNew (b:=w.heap.size+1) (by omega) 1 (.slice a y.args.length c));have aE:=Aa (a8.o.kept λb hb=>aD b (by omega));have aF:Hid (Sl ((k.setCell (zD (w.heap.size+1) 0) (.string y.name)).setCell (zD (w.heap.size+1) 1) (.slice a y.args.length c)) (λb=>X b/\b<w.heap.size) a2 p.r.args):=az.o.exq ba.o (λb hb=>ax.o b hb.1);have bp:((k.setCell (zD (w.heap.size+1) 0) (.string y.name)).setCell (zD (w.heap.size+1) 1) (.slice a y.args.length c)).heap.size=k.heap.size:=(by simp[World.setCell]);go_wp2_with fail;clear x0 x1 y0 y1 q2 q3 aD xf;generalize ((k.setCell (zD (w.heap.size+1) 0) (.string y.name)).setCell (zD (w.heap.size+1) 1) (.slice a y.args.length c))=w5 at *;refine(Oy S q m h g hN p.r he.2 a2 c2 w5 _ P false (λb hb=>ax.o b hb.1) aF.o bk.o).mono ?_;rintro e U ⟨f,s,u,ok,f',Y2,rfl,bb,z,a7,hx,A,B,C⟩;have bl:Hid (Al (Cw S q) w U):=ba.o.trans hx;have V:=Aa (A5.o.exq hx (λh=>by have:=aC.o _ h; omega));have Z:=Aa (B5.o.exq hx (λh=>by have:=aC.o _ h; omega));have bq:Hid (k.heap.size<=U.heap.size):=Aa (by have:=hx.size;omega);have ag:Hid (∀b,Y2 b->Y b∨w.heap.size+3<=b):=λb hb=>by
    rcases z b hb with h1|h1
    ·exact R.o b h1
    ·have:=aW.o; right; omega
   have bm:=Aa bb;have aG:Hid (Sl U (λb=>w.heap.size+3<=b) a y.args):=(aE.o.exq hx (λb hb h=>by have:=aC.o _ h; omega)).mono λb hb _=>hb.1;have aH:Hid (Sl U (λb=>w.heap.size+3<=b) s f.args):=A.mono λb hb h2=>by have:=aW.o; omega
   have aI:Hid (∀W:World,Sl W (λb=>w.heap.size+3<=b) a y.args->Sl W (λb=>w.heap.size+3<=b) s f.args->Ua (Ag (Aj h) p.l) (Ag (Aj h) p.r) y.name a y.args.length f.name s f.args.length ok f' (λb=>(X b/\b<w.heap.size)∨w.heap.size<=b) W):=λW g1 g2=>by
    cases ok with
    |true=>obtain⟨e1,e2,e3⟩:=B rfl;exact Ad ⟨rfl,e1,by rw[T.o],by rw[T.o],by rw[e2],by rw[e2],by rw[<-T.o]; exact bj.o,by rw[<-e2]; exact e3,by rw[<-T.o]; exact g1.mono λb hb _=>Ae (by omega),by rw[<-e2]; exact g2.mono λb hb _=>Ae (by omega)⟩
    |false=>
     rcases C rfl with h1|h1
     ·exact Ae ⟨rfl,Ad h1⟩
     ·exact Ae ⟨rfl,Ae (Ae h1)⟩
   clear z hx A B C bb a7;have x0:=V.o.c0;have x1:=V.o.c1;have xf:=V.o.frozen;have y0:=Z.o.c0;have y1:=Z.o.c1;have yf:=Z.o.frozen;have bc:∀b,(Y2 b∨w.heap.size+3<=b)->b≠w.heap.size+1/\b≠w.heap.size+1+1:=λb hb=>by
    have h1:Y b∨w.heap.size+3<=b:=hb.elim (ag.o b) Ae;rcases h1 with h1|h1
    ·have:=HY.o b h1; omega
    ·omega
   have i:=Aa bc;clear bc;have G:=Aa ((((((V.o.setOther (b':=w.heap.size+1+1) 0 (.string f.name) (by omega)).setOther (b':=w.heap.size+1+1) 1 (.slice s f.args.length u) (by omega)).set 0 (.string y.name)).set 1 (.slice a y.args.length c)).setOther (b':=w.heap.size+1+1) 0 (.string f.name) (by omega)).setOther (b':=w.heap.size+1+1) 1 (.slice s f.args.length u) (by omega));have H:=Aa ((((((Z.o.set 0 (.string f.name)).set 1 (.slice s f.args.length u)).setOther (b':=w.heap.size+1) 0 (.string y.name) (by omega)).setOther (b':=w.heap.size+1) 1 (.slice a y.args.length c) (by omega)).set 0 (.string f.name)).set 1 (.slice s f.args.length u));have I:=G.o.cell 0;have J:=G.o.cell 1;have ar:=H.o.cell 0;have M:=H.o.cell 1;simp only[Pn,List.set_cons_zero,Nt,BP,BU,BQ] at I J ar M;go_wp2_with fail;go_region
   all_goals go_wp2_with fail
   all_goals
    refine Ao (v:=.tuple #[.agg (zG y a c),.agg (zG f s u),.bool ok]) (by simp[results,results135,go_sem,I,J,ar,M]) rfl ?_;refine⟨y.name,a,y.args.length,c,f.name,s,f.args.length,u,ok,f',Y2,rfl,(DA S q m h).keep _ _ _ _ bm.o (λb hb=>MP (i.o b (Ad hb)).2 (i.o b (Ad hb)).2 (i.o b (Ad hb)).1 (i.o b (Ad hb)).1 (i.o b (Ad hb)).2 (i.o b (Ad hb)).2),λb hb=>(ag.o b hb).imp id λh=>by omega,Ub bl.o (by omega) (by omega) (by omega) (by omega) (by omega) (by omega),aI.o _ (aG.o.kept λb hb=>MP (by omega) (by omega) (by omega) (by omega) (by omega) (by omega)) (aH.o.kept λb hb=>MP (by omega) (by omega) (by omega) (by omega) (by omega) (by omega))⟩
  |false=>
   have yf:=F.o.frozen;have i:Hid (∀b,P b->b≠w.heap.size+1/\b≠w.heap.size+1+1):=λb hb=>by
    rcases R.o b hb with h1|h1
    ·have:=HY.o b h1; omega
    ·omega
   have aI:Hid (f'=true∨2000<Ah [Ag (Aj h) p.l]):=aB.o rfl;clear aA aB;have G:=Aa ((((((E.o.set 0 (.string y.name)).set 1 (.slice a y.args.length c)).set 0 (.string y.name)).set 1 (.slice a y.args.length c)).setOther (b':=w.heap.size+1+1) 0 (.string ⟨#[]⟩) (by omega)).setOther (b':=w.heap.size+1+1) 1 zB (by omega));have H:=Aa ((((((F.o.setOther (b':=w.heap.size+1) 0 (.string y.name) (by omega)).setOther (b':=w.heap.size+1) 1 (.slice a y.args.length c) (by omega)).setOther (b':=w.heap.size+1) 0 (.string y.name) (by omega)).setOther (b':=w.heap.size+1) 1 (.slice a y.args.length c) (by omega)).set 0 (.string ⟨#[]⟩)).set 1 zB);have I:=G.o.cell 0;have J:=G.o.cell 1;have ar:=H.o.cell 0;have M:=H.o.cell 1;simp only[Pn,List.set_cons_zero,Nt,BP,BU,BQ] at I J ar M;go_wp2_with fail;go_region
   all_goals go_wp2_with fail
   all_goals
    refine Ao (v:=.tuple #[.agg (zG y a c),.agg ze,.bool false]) (by simp only[results,results135]; simp[go_sem,I,J,ar,M]) rfl ?_;refine⟨y.name,a,y.args.length,c,⟨#[]⟩,none,0,0,false,f',P,rfl,(DA S q m h).keep _ _ _ _ aX.o (λb hb=>MP (i.o b hb).1 (i.o b hb).1 (i.o b hb).1 (i.o b hb).1 (i.o b hb).2 (i.o b hb).2),λb hb=>(R.o b hb).imp id λh=>by omega,Ub aV.o (by omega) (by omega) (by omega) (by omega) (by omega) (by omega),Ae ⟨rfl,?_⟩⟩;rcases aI.o with h1|h1
    ·exact Ad h1
    ·exact Ae (Ad h1)
theorem Uc {p:ByteArray×Tm} (hi:i<h.length) (a:i<(h++[p]).length) (b:j<=h.length):stood (h++[p]) i j a=stood h i j hi:=by
 unfold stood;rw[J7 b,Ls hi]
theorem ZP (g:Cn h) (m:Gt (Aj h) x t) (hi:h.length<(h++[(x,t)]).length):stood (h++[(x,t)]) h.length (h.length+1) hi=t:=by
 have g2:=g.snoc m;have h1:=JN g2 hi;have e1:(h++[(x,t)])[h.length].1=x:=by simp
 rw[e1]at h1;have h2:(h++[(x,t)]).length=h.length+1:=by simp
 unfold stood;rw[e1,show(h++[(x,t)]).take (h.length+1)=h++[(x,t)] from Bz (by omega),Fo,Mn g.all.1 m.2.1 x];have h3:AF (Aj h) x=none:=by
  cases a:AF (Aj h) x with
  |none=>rfl
  |some u=>obtain⟨d,hd,e,_⟩:=Fv a;exact absurd e (m.2.1 d hd)
 rw[FN (Aj h),h3];show Ag [⟨x,t⟩] ⟨x,[]⟩=t;exact IJ (by simp[AF])
theorem ED.snoc (g:Cn h) (e:ED w Z h L) (m:Gt (Aj h) x t) {a:Option Addr} (n:Sl w Z a t.args):ED w Z (h++[(x,t)]) (L++[(x,.agg #[.string t.name,.slice a t.args.length c,zA (h.length:Int)])]):=by
 have d:=e.1;refine⟨by simp[d],λi hi af=>?_⟩;by_cases b:i<h.length
 ·have f:i<L.length:=by omega
  rw[Ls b,Ls f];obtain⟨e1,j,o,c1,e2,e3,q⟩:=e.2 i b f;have k:max j (i+1)<=h.length:=Nat.max_le.2 ⟨e2,b⟩;refine⟨e1,j,o,c1,by simp; omega,?_,?_⟩
  ·rw[Uc b hi k]; exact e3
  ·rw[Uc b hi k]; exact q
 ·have r:i=h.length:=by simp at hi; omega
  subst r;have e1:(h++[(x,t)])[h.length]=(x,t):=by simp
  have e2:(L++[(x,Value.agg #[.string t.name,.slice a t.args.length c,zA (h.length:Int)])])[h.length]=(x,.agg #[.string t.name,.slice a t.args.length c,zA (h.length:Int)]):=by simp[<-d]
  rw[e1,e2];have l:=ZP g m hi;refine⟨rfl,h.length,a,c,by simp,?_,?_⟩
  ·rw[Nat.max_eq_right (by omega),l]
  ·rw[Nat.max_eq_right (by omega),l]; exact n
def ZQ (S q:Nat) (td:Value) (h:List (ByteArray×Tm)) (nm:ByteArray) (t:Tm) (X Y:Nat->Prop) (w:World) (e:Ending) (w':World):Prop:=
 Al (Cw S q) w w'/\((t.name=nm/\e=.returned (zA 0)/\Cv S q td h false Y w')∨(t.name≠nm/\CN nm [t]=true/\e=.returned (zA 6)/\Cv S q td h false Y w')∨
  (t.name≠nm/\CN nm [t]=false/\e=.returned (zA 0)/\Cv S q td (h++[(nm,t)]) false (λb=>Y b∨(X b/\b<w.heap.size)) w'))
theorem Ud (S q:Nat) (k:Value) (h:List (ByteArray×Tm)) (g:Cn h) (nm:ByteArray) (t:Tm) (D:t.name≠nm->CN nm [t]=false->Gt (Aj h) nm t) (a:Option Addr) (c:Nat) (w:World) (X Y:Nat->Prop) (E:∀b,X b->¬Cw S q b) (F:Sl w X a t.args) (ar:Cv S q k h false Y w):
  Calls prog 136 #[zC S,.string nm,.agg (zG t a c)] w λe w'=>ZQ S q k h nm t X Y w e w':=by
 have G:=Aa ar;have H:=Aa F;have I:=Aa E;have ai:=Aa D;obtain⟨⟨L,J,s,u⟩,a6,a7,M,hg⟩:=ar;have a8:=J.lt;have aA:=s.lt;have N:=Aa M;have aB:Hid (L.length=h.length):=u.1;have O:=Aa u;have R:=Aa s;have T:=Aa J;clear F E u hg M s D;by_cases f:t.name=nm
 ·have aC:=IE f;have m:=Aa f;clear f;go_in;go_wp2_with fail;go_ret;exact⟨(Al.refl _ _).alloc _,Ad ⟨m.o,rfl,(DA S q k h).below G.o ((Ac _ _).alloc (Af _) _)⟩⟩
 ·have aC:=Kk f;have m:=Aa f;clear f;have U:Below w.heap.size w (w.alloc (zh t a c)):=(Ac _ _).alloc (Af _) _;have v:=Aa U;have T1:=Aa (Ab.new w (zG t a c) 61);have aJ:(w.alloc (zh t a c)).heap.size=w.heap.size+1:=by simp
  clear U;go_in;go_wp2_with fail;generalize (w.alloc (zh t a c))=w1 at *;refine(ZL nm t _ w1 X ⟨a,c,rfl,H.o.later v.o⟩).mono ?_;rintro e w2 ⟨rfl,n⟩;have j:=Aa (v.o.trans (n.mono v.o.size));have V:=Aa (T1.o.below n (by omega));have aD:Hid (w.heap.size+1<=w2.heap.size):=Aa (by have:=n.size;omega);clear n;cases ho:CN nm [t] with
  |true=>go_wp2_with fail;go_ret;exact⟨Al.ofBelow j.o,Ae (Ad ⟨m.o,ho,rfl,(DA S q k h).below G.o j.o⟩)⟩
  |false=>
   have HO:=Aa ho;have x:=ai.o m.o ho;have aE:=Aa x;have W:=Aa (T.o.below j.o a8);have s1:w2.cell? (zD S 1)=some (.map (some q)):=W.o.cell 1;have t0:=V.o.c0;have t1:=V.o.c1;have y:BI w2.drew q L:=R.o.below (j.o.drew) aA;have hlen:Sem.run prog (Builtin.len_ #[159] 3 #[.map (some q)]) w2.drew=.ok (zA (h.length:Int)) w2.drew:=(by rw[KK underlying159 y,aB.o]);have ab:BK L nm=none:=O.o.none λi hi e=>by
    obtain⟨d,hd,e1⟩:=(g.bound h.length (Af _) h[i].1).2 ⟨i,hi,hi,rfl⟩;rw[G8]at hd;exact x.2.1 d hd (e1.trans e)
   obtain⟨z,aF,ax,A,ay,az,a1,r⟩:=LE (P:=prog) underlying159 underlying9 y nm (.agg #[.string t.name,.slice a t.args.length c,zA (h.length:Int)]) ab;have aG:Hid (Al (Cw S q) w z):=by
    have h1:Al (Cw S q) w w2.drew:=Al.ofBelow j.o.drew;exact⟨ay.trans h1.os,az.trans h1.tape,a1.trans h1.output,by rw[A]; exact h1.size,λb hb f=>(r b (λe=>f (Ae e))).trans (h1.block b hb f)⟩
   have aH:Hid (Cv S q k (h++[(nm,t)]) false (λb=>Y b∨(X b/\b<w.heap.size)) z):=by
    have aI:S≠q:=λe=>by
     obtain⟨es,aK,h1,_⟩:=R.o;have h2:=T.o;subst e;unfold Ab at h2;rw[h1]at h2; cases h2
    have keep:∀(Z:Nat->Prop) a l,(∀b,Z b->((Y b∨(X b/\b<w.heap.size))/\b≠S/\b≠q)/\b<w.heap.size)->Sl w Z a l->Sl z (λb=>(Y b∨(X b/\b<w.heap.size))/\b≠S/\b≠q) a l:=λZ a l B C=>(C.kept λb hb=>(r b (B b hb).1.2.2).trans (j.o.drew.block b (B b hb).2)).mono λb hb _=>(B b hb).1;refine⟨⟨_,?_,ax,?_⟩,Ad a6,Ad a7,λb hb=>?_,λhf=>by cases hf⟩
    ·have h1:=W.o;unfold Ab at *;rw[r S aI];exact h1
    ·exact ED.snoc g (O.o.imp λa l C=>keep _ a l (λb hb=>⟨⟨Ad hb.1,hb.2⟩,N.o b hb.1⟩) C) aE.o (keep (λb=>X b/\b<w.heap.size) a t.args (λb hb=>⟨⟨Ae hb,λe=>I.o b hb.1 (Ad e),λe=>I.o b hb.1 (Ae e)⟩,hb.2⟩) (H.o.mono λb h1 h2=>⟨h1,h2⟩))
    ·rw[A];show b<w2.heap.size;have n:b<w.heap.size:=by
      rcases hb with hb|hb
      ·exact N.o b hb
      ·exact hb.2
     have:=aD.o;omega
   clear ax A ay az a1 r y ab x ho;go_wp2_with fail;go_region
   all_goals go_wp2_with fail
   all_goals go_ret
   all_goals exact⟨aG.o,Ae (Ae ⟨m.o,HO.o,rfl,aH.o⟩)⟩
abbrev Ec:=Pc×Nat
def E9 (x:Ec):List Value:=[.string x.1.1.l.name,.slice x.1.2.1.1 x.1.1.l.args.length x.1.2.1.2,.string x.1.1.r.name,.slice x.1.2.2.1 x.1.1.r.args.length x.1.2.2.2,zA (x.2:Int)]
def Di:List Ec->List Value
 | []=>[]
 |x::r=>E9 x++Di r
theorem KL (b:List Ec):∀a,Di (a++b)=Di a++Di b
 | []=>rfl
 |x::r=>by rw[Dj,Di,Di,KL b r,Jh]
theorem MQ:∀a:List Ec,(Di a).length=a.length*5
 | []=>rfl
 |x::r=>by rw[Di,Ej,MQ r]; simp[E9]; omega
theorem Ue:∀(a:List Ec) (i:Nat) (h:i<a.length) (j:Nat),j<5->(Di a)[i*5+j]? = (E9 a[i])[j]?
 | [],i,h,j,b=>by simp at h
 |x::r,0,h,j,b=>by
  rw[Di,Nq (by simp[E9]; omega)]; simp
 |x::r,i+1,h,j,b=>by
  rw[Di,Po (by simp[E9]; omega)];have e:(i+1)*5+j-(E9 x).length=i*5+j:=by simp[E9]; omega
  rw[e,Ue r i (by simpa using h) j b];simp
structure Dp (w:World) (N:Nat) (Y:Nat->Prop) (v:Value) (cs:List Ec):Prop where
 own:w.ownsRow N 167 5 v cs.length (Di cs)
 row:∀x∈cs,Sl w (λb=>Y b∨(N<=b/\some b≠v.ownBlock)) x.1.2.1.1 x.1.1.l.args/\Sl w (λb=>Y b∨(N<=b/\some b≠v.ownBlock)) x.1.2.2.1 x.1.1.r.args
theorem Dp.start (w:World) (N:Nat) (Y:Nat->Prop):Dp w N Y zB []:=⟨H5 w N _ 5,by simp⟩
theorem Dp.below {cs:List Ec} (h:Dp w N Y v cs) (hb:Below w.heap.size w w'):Dp w' N Y v cs:=
 ⟨h.own.kept (w' := w') (row := none) ⟨hb.os, hb.tape, hb.output, hb.size, λj a _ => hb.block j a⟩ (by rcases Je (Value.ownBlock v) with h | ⟨x, h⟩; exact Ad h; exact Ae (by rw [h]; simp)),
  λx hx=>⟨(h.row x hx).1.later hb,(h.row x hx).2.later hb⟩⟩
theorem Dp.ne {cs:List Ec} (h:Dp w N Y v cs) (hb:b<N):some b≠v.ownBlock:=λe=>by
 have:=(h.own.lt b e.symm).1; omega
theorem Dp.push {w2:World} {cs:List Ec} (h:Dp w N Y v cs) (hN:N<=w.heap.size) (i:∀b,Y b->b<N) (hb:Below w.heap.size w w1) {x:Ec}
  (ht:Sl w1 (λb=>Y b∨w.heap.size<=b) x.1.2.1.1 x.1.1.l.args/\Sl w1 (λb=>Y b∨w.heap.size<=b) x.1.2.2.1 x.1.1.r.args) (o:Obj) (m:w2=w1.alloc o) 
  (n:w3.ownsRow N 167 5 (.slice (some (zD g 0)) (cs.length+1) cap) (cs.length+1) (Di cs++E9 x)) (j:w2.grownBy w3 v.ownBlock) (c:v.ownBlock=some g∨g=w2.heap.size):
  Dp w3 N Y (.slice (some (zD g 0)) (cs.length+1) cap) (cs++[x]):=by
 subst m;have d:=h.own.lt;have af:w1.heap.size<=(w1.alloc o).heap.size:=by simp
 have ag:=hb.size;have ah:N<=g:=by
  rcases c with e|e
  ·exact(d g e).1
  ·simp at e; omega
 have k:∀(a:Option Addr) (l:List Tm),Sl w (λb=>Y b∨(N<=b/\some b≠v.ownBlock)) a l->Sl w3 (λb=>Y b∨(N<=b/\some b≠(Value.slice (some (zD g 0)) (cs.length+1) cap).ownBlock)) a l:=λa l h0=>by
  have h1:Sl w (λb=>(Y b∨(N<=b/\some b≠v.ownBlock))/\b<w.heap.size) a l:=h0.mono λb h1 h2=>⟨h1,h2⟩;have h2:Sl w3 (λb=>(Y b∨(N<=b/\some b≠v.ownBlock))/\b<w.heap.size) a l:=h1.kept λb hx=>by
   have f:some b≠v.ownBlock:=by
    rcases hx.1 with hy|hy
    ·exact h.ne (i b hy)
    ·exact hy.2
   rw[j.block b (by simp; omega) f,BL _ _ _ (by omega),hb.block b hx.2]
  refine h2.mono λb hx _=>?_;rcases hx.1 with hy|hy
  ·exact Ad hy
  ·refine Ae ⟨hy.1,λe=>?_⟩;simp[Value.ownBlock]at e;rcases c with e'|e'
   ·exact hy.2 (by rw[e',e])
   ·simp at e'; omega
 have new:∀(a:Option Addr) (l:List Tm),Sl w1 (λb=>Y b∨w.heap.size<=b) a l->Sl w3 (λb=>Y b∨(N<=b/\some b≠(Value.slice (some (zD g 0)) (cs.length+1) cap).ownBlock)) a l:=λa l h0=>by
  have h1:Sl w1 (λb=>(Y b∨w.heap.size<=b)/\b<w1.heap.size) a l:=h0.mono λb h1 h2=>⟨h1,h2⟩;have h2:Sl w3 (λb=>(Y b∨w.heap.size<=b)/\b<w1.heap.size) a l:=h1.kept λb hx=>by
   have f:some b≠v.ownBlock:=by
    rcases hx.1 with hy|hy
    ·exact h.ne (i b hy)
    ·intro e; have:=(d b e.symm).2; omega
   rw[j.block b (by simp; omega) f,BL _ _ _ hx.2]
  refine h2.mono λb hx _=>?_;rcases hx.1 with hy|hy
  ·exact Ad hy
  ·refine Ae ⟨by omega,λe=>?_⟩;simp[Value.ownBlock]at e;rcases c with e'|e'
   ·have:=(d g e').2; omega
   ·simp at e'; omega
 refine⟨by rw[KL]; simpa [Di] using n,λy hy=>?_⟩;rcases BN.1 hy with hy|hy
 ·exact⟨k _ _ (h.row y hy).1,k _ _ (h.row y hy).2⟩
 ·have e:y=x:=by simpa using hy
  subst e;exact⟨new _ _ ht.1,new _ _ ht.2⟩
theorem Tryz.infoEq:(prog.info? 167).map (λi=>(i.zero,i.size,i.bytes))=some (some (.agg #[.string ByteArray.empty,zB,.string ByteArray.empty,zB,zA 0]),5,88):=by kernel_rfl
theorem OG (w:World) (c0 c1 c2 c3 a:Value) (T:Nat):∀j u,[c0,c1,c2,c3,a][j]? = some u->(w.alloc (zp #[c0,c1,c2,c3,a] T)).cell? (((zD w.heap.size 0):Addr).add j)=some u:=
 World.news_of_block (cs:=#[c0,c1,c2,c3,a]) (IA w _)
theorem Dp.exq {cs:List Ec} (h:Dp w N Y v cs) (he:Al Q w w') (a:∀b,Q b->b<N) (c:∀b,Q b->¬Y b):Dp w' N Y v cs:=
 ⟨Dr h.own λg d => he.block g (h.own.lt g d).2 (λhq => by have := a g hq; have := (h.own.lt g d).1; omega),
  λx hx=>⟨(h.row x hx).1.exq he λb hb hq=>by
   rcases hb with h1|h1
   ·exact c b hq h1
   ·have:=a b hq; omega,
   (h.row x hx).2.exq he λb hb hq=>by
   rcases hb with h1|h1
   ·exact c b hq h1
   ·have:=a b hq; omega⟩⟩
theorem JR {o:Obj} (c:∀b,Y b->some b≠v.ownBlock) (d:(w1.alloc o).grownBy w3 v.ownBlock) (f:v.ownBlock=some g∨g=(w1.alloc o).heap.size) {a:Option Addr} {l:List Tm} (h0:Sl w1 (λb=>Y b∨(N<=b/\some b≠v.ownBlock)) a l):
  Sl w3 (λb=>Y b∨(N<=b/\some b≠(Value.slice (some (zD g 0)) n cap).ownBlock)) a l:=by
 have h1:Sl w1 (λb=>(Y b∨(N<=b/\some b≠v.ownBlock))/\b<w1.heap.size) a l:=h0.mono λb h1 h2=>⟨h1,h2⟩;refine(h1.kept λb hx=>?_).mono λb hx _=>?_
 ·have h:some b≠v.ownBlock:=by
   rcases hx.1 with hy|hy
   ·exact c b hy
   ·exact hy.2
  rw[d.block b (by simp; omega) h,BL _ _ _ hx.2]
 ·rcases hx.1 with hy|hy
  ·exact Ad hy
  ·refine Ae ⟨hy.1,λe=>?_⟩;simp[Value.ownBlock]at e;rcases f with e'|e'
   ·exact hy.2 (by rw[e',e])
   ·simp at e'; omega
theorem Dp.push2 {cs:List Ec} (h:Dp w N Y v cs) (f:∀b,Y b->b<N) (hb:Below w.heap.size w w1) {x:Ec}
  (ht:Sl w1 (λb=>Y b∨(N<=b/\some b≠v.ownBlock)) x.1.2.1.1 x.1.1.l.args/\Sl w1 (λb=>Y b∨(N<=b/\some b≠v.ownBlock)) x.1.2.2.1 x.1.1.r.args) (o:Obj) 
  (i:w3.ownsRow N 167 5 (.slice (some (zD g 0)) (cs.length+1) cap) (cs.length+1) (Di cs++E9 x)) (a:(w1.alloc o).grownBy w3 v.ownBlock) (c:v.ownBlock=some g∨g=(w1.alloc o).heap.size):
  Dp w3 N Y (.slice (some (zD g 0)) (cs.length+1) cap) (cs++[x]):=by
 have d:∀b,Y b->some b≠v.ownBlock:=λb hb=>h.ne (f b hb);refine⟨by rw[KL]; simpa [Di] using i,λy hy=>?_⟩;rcases BN.1 hy with hy|hy
 ·exact⟨JR d a c ((h.row y hy).1.later hb),JR d a c ((h.row y hy).2.later hb)⟩
 ·have e:y=x:=by simpa using hy
  subst e;exact⟨JR d a c ht.1,JR d a c ht.2⟩
theorem Dp.setCell {cs:List Ec} (h:Dp w N Y v cs) (hb:b<N) (a:¬Y b) (u:Value):Dp (w.setCell (zD b i) u) N Y v cs:=
 h.exq (Q:=λc=>c=b) ((Al.refl (λc=>c=b) w).set (B:=b) rfl i u) (λc hc=>by omega) (λc hc=>by rw[hc]; exact a)
theorem Uf {d c:Value} (he:Cv S q d h false Y w) (hk:∀b,Y b->w3.heap[b]? = w.heap[b]?):Cv S q c h false Y (w3.setCell (zD S 0) c):=by
 have g:=(DA S q d h).keep _ _ _ _ he hk;obtain⟨⟨L,e1,e2,e3⟩,i,e5,j,k⟩:=g;have m:S≠q:=λe=>by
  obtain⟨es,ag,h1,_⟩:=e2;subst e;unfold Ab at e1;rw[h1]at e1; cases e1
 have f:∀b,b≠S->(w3.setCell (zD S 0) c).heap[b]? = w3.heap[b]? := λb hb=>Ak _ _ _ _ (by simpa using hb);refine⟨⟨L,?_,e2.kept (f q (Ne.symm m)),e3.imp λa l n=>(n.kept λb hb=>f b hb.2.1)⟩,i,e5,λb hb=>by simpa [World.setCell] using j b hb,k⟩;have:=e1.set 0 c;simpa using this
def Dv (x:Ec):Pr×Nat:=(x.1.1,x.2)
theorem Sl.blk {l:List Tm} (h:Sl w X (some (zD b o)) l) (a:0<l.length):X b:=by
 rcases h.2 with h1|⟨b',o',e,h1⟩
 ·subst h1; simp at a
 ·simp at e;obtain⟨rfl,rfl⟩:=e;exact(Lu _ _ _ h1 0 a).1
theorem MR:∀ {a b:List Tm},a.length=b.length->(AD a b).length=a.length
 | [],[],_=>rfl
 | [],_::_,h=>by simp at h
 |_::_,[],h=>by simp at h
 |t::a,u::b,h=>by rw[AD,Cl,MR (by simpa using h),Cl]
theorem Ug:∀ {a b:List Tm} (k:Nat) (h1:k<a.length) (h2:k<b.length) (h3:k<(AD a b).length),(AD a b)[k]=⟨a[k],b[k]⟩
 | [],_,k,h1,_,_=>by simp at h1
 |_::_,[],k,_,h2,_=>by simp at h2
 |t::a,u::b,0,_,_,_=>rfl
 |t::a,u::b,k+1,h1,h2,h3=>by
  simp only[AD,FG];exact Ug k (by simpa using h1) (by simpa using h2) _
def KO (S q N:Nat) (h:List (ByteArray×Tm)) (cs:List Ec) (w:World):Prop:=
 ∃(td:Value) (Y:Nat->Prop),Cv S q td h false Y w/\Dp w N (λb=>b<N/\b≠S/\b≠q) td cs/\(∀b,Y b->some b≠td.ownBlock)/\S<N/\q<N/\N<=w.heap.size
def OH (S q N:Nat) (h:List (ByteArray×Tm)) (cs:List Ec) (Y:Nat->Prop) (td0:Value) (w:World) (lA lB:List Tm) (a1 a2:Option Addr) (i:Value) (wr:World):Prop:=
 ∃(k:Nat) (td:Value) (cs':List Ec),k<=lA.length/\i=zA ((k:Int)-1)/\Cv S q td h false Y wr/\Dp wr N (λb=>b<N/\b≠S/\b≠q) td cs'/\(∀b,Y b->some b≠td.ownBlock)/\cs'.map Dv=cs.map Dv++((AD lA lB).drop k).reverse.map (λp=>(p,h.length))/\
  Sl wr (λb=>(b<N/\b≠S/\b≠q)∨(N<=b/\some b≠td.ownBlock)) a1 lA/\Sl wr (λb=>(b<N/\b≠S/\b≠q)∨(N<=b/\some b≠td.ownBlock)) a2 lB/\Al (λb=>b=S∨some b=td0.ownBlock) w wr/\N<=wr.heap.size/\∀k,td.ownBlock=some k->td0.ownBlock=some k∨w.heap.size<=k
theorem ZR {cs f:List Ec} {c d:List Tm} {t a2:Option Addr} {r:Value} (C:S<N) (av:q<N) (D:c.length=d.length) (hk:k<c.length) (u:Cv S q a h false Y wr) (v:Dp wr N (λb=>b<N/\b≠S/\b≠q) a f) (y:∀b,Y b->some b≠a.ownBlock) (E:f.map Dv=cs.map Dv++((AD c d).drop (k+1)).reverse.map (λp=>(p,h.length)))
  (F:Sl wr (λb=>(b<N/\b≠S/\b≠q)∨(N<=b/\some b≠a.ownBlock)) t c) (G:Sl wr (λb=>(b<N/\b≠S/\b≠q)∨(N<=b/\some b≠a.ownBlock)) a2 d) (hx:Al (λb=>b=S∨some b=r.ownBlock) w wr) (hN:N<=wr.heap.size) (aw:N<=w.heap.size) (z:∀k,a.ownBlock=some k->r.ownBlock=some k∨w.heap.size<=k)
  {m n:Option Addr} {d1 d2:Nat} (H:Sl wr (λb=>(b<N/\b≠S/\b≠q)∨(N<=b/\some b≠a.ownBlock)) m (c[k]'hk).args) (I:Sl wr (λb=>(b<N/\b≠S/\b≠q)∨(N<=b/\some b≠a.ownBlock)) n (d[k]'(by omega)).args) {o:Obj} 
  (J:w3.ownsRow N 167 5 (.slice (some (zD g 0)) (f.length+1) cap) (f.length+1) (Di f++E9 ((⟨c[k]'hk,d[k]'(by omega)⟩,(m,d1),(n,d2)),h.length))) (i:(wr.drew.alloc o).grownBy w3 a.ownBlock) (j:a.ownBlock=some g∨g=(wr.drew.alloc o).heap.size):
  OH S q N h cs Y r w c d t a2 (zA ((k:Int)-1)) (w3.setCell (zD S 0) (.slice (some (zD g 0)) (f.length+1) cap)):=by
 have l:Below wr.heap.size wr wr.drew:=(Ac _ _).drew;have A:∀b,(b<N/\b≠S/\b≠q)->some b≠a.ownBlock:=λb hb=>v.ne hb.1;have s:=u.2.2.2.1;have ar:=i.size;simp at ar;refine⟨k,.slice (some (zD g 0)) (f.length+1) cap,f++[((⟨c[k]'hk,d[k]'(by omega)⟩,(m,d1),(n,d2)),h.length)],by omega,rfl,Uf u (λb hb=>?_),?_,λb hb e=>?_,?_,?_,?_,?_,by simp[World.setCell]; omega,λL M=>?_⟩
 ·rw[i.block b (by have:=s b hb; simp; omega) (y b hb),BL _ _ _ (by have:=s b hb; simpa using this)];rfl
 ·exact(v.push2 (λb hb=>hb.1) l (x:=((⟨c[k]'hk,d[k]'(by omega)⟩,(m,d1),(n,d2)),h.length)) ⟨H.later l,I.later l⟩ o J i j).setCell C (λhb=>hb.2.1 rfl) _
 ·have e2:b=g:=by simpa [Value.ownBlock] using e
  subst e2;rcases j with h1|h1
  ·exact y b hb h1.symm
  ·have:=s b hb; simp at h1; omega
 ·have B:k<(AD c d).length:=by rw[MR D]; exact hk
  rw[Db,E,List.drop_eq_getElem_cons B,List.reverse_cons,Db,Ug k hk (by omega) B];simp[Dv]
 ·exact(JR A i j (F.later l)).kept λb hb=>Ak _ _ _ _ (by
   simp;rcases hb with hb|hb
   ·exact hb.2.1
   ·omega)
 ·exact(JR A i j (G.later l)).kept λb hb=>Ak _ _ _ _ (by
   simp;rcases hb with hb|hb
   ·exact hb.2.1
   ·omega)
 ·refine((((hx.drew).alloc o).grown i (λb hb=>?_)).set (Ad rfl) _ _);rcases z b hb with h1|h1
  ·exact Ae (Ae h1.symm)
  ·exact Ad h1
 ·have e:g=L:=by simpa [Value.ownBlock] using M
  subst e;rcases j with h1|h1
  ·exact z g h1
  ·right;have:=hx.size;simp at h1;omega
def KU (S q b1 b2 o1 o2:Nat) (tA tB:Tm) (x1 x2:Option Addr) (d1 d2 n:Nat) (w':World):Prop:=
 w'.cell? (zD S 1)=some (.map (some q))/\w'.cell? (zD b1 o1)=some (.string tA.name)/\w'.cell? ⟨b1,o1+1,none⟩=some (.slice x1 tA.args.length d1)/\w'.cell? (zD b2 o2)=some (.string tB.name)/\w'.cell? ⟨b2,o2+1,none⟩=some (.slice x2 tB.args.length d2)/\Sem.run prog (Builtin.len_ #[159] 3 #[.map (some q)]) w'=.ok (zA n) w'
def ZS (S q N:Nat) (h:List (ByteArray×Tm)) (cs:List Ec) (lA lB:List Tm) (td0:Value) (w:World) (e:Ending) (w':World):Prop:=
 e=.returned (.tuple #[])/\∃cs',KO S q N h cs' w'/\cs'.map Dv=cs.map Dv++(AD lA lB).reverse.map (λp=>(p,h.length))/\Al (λb=>b=S∨some b=td0.ownBlock) w w'
theorem ZT (S q N:Nat) (h:List (ByteArray×Tm)) (cs:List Ec) (t y:List Tm) (hl:t.length=y.length) (bx:cs.length+t.length<=1000000000) (J:h.length<=1000000000) (a1 a2:Option Addr) (c1 c2:Nat) (w:World) (C:Value) (Y:Nat->Prop) (hE:Cv S q C h false Y w) (hR:Dp w N (λb=>b<N/\b≠S/\b≠q) C cs) (hY:∀b,Y b->some b≠C.ownBlock) (aE:S<N) (aF:q<N) (bb:N<=w.heap.size)
  (aG:Sl w (λb=>(b<N/\b≠S/\b≠q)∨(N<=b/\some b≠C.ownBlock)) a1 t) (aH:Sl w (λb=>(b<N/\b≠S/\b≠q)∨(N<=b/\some b≠C.ownBlock)) a2 y):
  Calls prog 137 #[zC S,.slice a1 t.length c1,.slice a2 y.length c2] w λe w'=>ZS S q N h cs t y C w e w':=by
 obtain⟨i0,bc,bd,bf,bg⟩:=Dw Tryz.infoEq;have HE:=Aa hE;have HR:=Aa hR;have HY:=Aa hY;have bh:=Aa aG;have bj:=Aa aH;have bz:=aG.1;have b0:=aH.1;have R:=Aa hl;have hle:Hid (t.length<=1000000000):=Aa (by omega);clear hE hR hY aG aH;rw[<-hl];clear hl;go_in;go_wp2_with fail;go_loopw [6] (λi wr=>OH S q N h cs Y C w t y a1 a2 i wr) (λi wr=>((intOf i)+1).toNat);case atStart=>
  refine⟨t.length,C,cs,Af _,?_,HE.o,HR.o,HY.o,?_,bh.o,bj.o,Al.refl _ _,bb,λk hk=>Ad hk⟩
  ·have:=hle.o;go_num
  ·rw[List.drop_eq_nil_of_le (by rw[MR R.o]; exact Af _)];simp
 case round=>
  obtain⟨k,u,D,hk,rfl,aI,aJ,aK,aB,ai,aj,aL,bk,au⟩:=hrel;have aM:=Aa aI;have H:=Aa aJ;have aN:=Aa aK;have aO:=Aa aB;have aP:=Aa aL;have bp:=Aa au;clear au;have ak:=Aa ai;have al:=Aa aj;have aC:Hid (D.length<=1000000000):=by
   have h1:=Dt List.length aB;simp[MR R.o]at h1;unfold Hid;omega
  cases k with
  |zero=>
   clear aI aJ aK aB aL ai aj;go_wp2_with fail;go_end0
   refine⟨rfl,D,⟨u,Y,aM.o,H.o,aN.o,aE,aF,bk⟩,?_,aP.o⟩;have:=aO.o;simpa using this
  |succ k=>
   have bq:((k+1:Nat):Int)-1=k:=(by omega);rw[bq];obtain⟨r,M,A,d1,rfl,p0,p1,br⟩:=ai.get (Ac _ _) (λ_ _ h=>h) k hk;obtain⟨s,O,B,d2,rfl,r0,r1,bs⟩:=aj.get (Ac _ _) (λ_ _ h=>h) k (by have:=R.o; omega);obtain⟨av,cv,T,aw⟩:=br;simp at T;obtain⟨rfl,rfl⟩:=T;obtain⟨av,cv,T,ax⟩:=bs;simp at T;obtain⟨rfl,rfl⟩:=T;obtain⟨⟨L,I,U,aQ⟩,b3,b4,bt,P⟩:=aI;have bl:=Aa aw;have bm:=Aa ax;have HB:=Aa I;have s0:wr.cell? (zD S 0)=some u:=I.cell 0;have b5:∀o,(wr.alloc o).cell? (zD S 0)=some u:=λo=>(I.alloc o).cell 0;have s1:wr.cell? (zD S 1)=some (.map (some q)):=I.cell 1;have hlen:Sem.run prog (Builtin.len_ #[159] 3 #[.map (some q)]) wr.drew=.ok (zA (h.length:Int)) wr.drew:=(by have h1:BI wr.drew q L:=U.below ((Ac wr.heap.size wr).drew) U.lt;rw[KK underlying159 h1,aQ.1]);have b6:(k:Int)<(t.length:Int):=(by omega);have b7:k<y.length:=by have:=R.o; omega
   have ay:=Aa (H.o.below ((Ac wr.heap.size wr).drew)).own;have ao:Hid (some S≠u.ownBlock):=H.o.ne aE;have aR:Hid (BI wr q L/\L.length=h.length):=⟨U,aQ.1⟩;have bu:Hid (q≠S):=λe=>by
    obtain⟨es,b8,h1,_⟩:=U;subst e;unfold Ab at I;rw[h1]at I; cases I
   have bw:Hid (some q≠u.ownBlock):=H.o.ne aF;have aS:Hid (r≠S):=by
    rcases ak.o.blk (by omega) with h1|h1
    ·exact h1.2.1
    ·unfold Hid; omega
   have aT:Hid (s≠S):=by
    rcases al.o.blk (by omega) with h1|h1
    ·exact h1.2.1
    ·unfold Hid; omega
   have aU:Hid (some r≠u.ownBlock):=by
    rcases ak.o.blk (by omega) with h1|h1
    ·exact H.o.ne h1.1
    ·exact h1.2
   have aV:Hid (some s≠u.ownBlock):=by
    rcases al.o.blk (by omega) with h1|h1
    ·exact H.o.ne h1.1
    ·exact h1.2
   clear aJ aK aB aL ai aj aw ax I U aQ P bt;have aD:Hid (∀(g cap:Nat) (w3:World),w3.ownsRow N 167 5 (.slice (some (zD g 0)) (D.length+1) cap) (D.length+1) (Di D++E9 ((⟨t[k],y[k]⟩,(A,d1),(B,d2)),h.length))->(wr.drew.alloc (zp #[.string t[k].name,.slice A t[k].args.length d1,.string y[k].name,.slice B y[k].args.length d2,zA (h.length:Int)] 167)).grownBy w3 u.ownBlock->(u.ownBlock=some g∨g=(wr.drew.alloc (zp #[.string t[k].name,.slice A t[k].args.length d1,.string y[k].name,.slice B y[k].args.length d2,zA (h.length:Int)] 167)).heap.size)->OH S q N h cs Y C w t y (some (zD r M)) (some (zD s O)) (zA ((k:Int)-1)) (w3.setCell (zD S 0) (.slice (some (zD g 0)) (D.length+1) cap))):=λg cap w3 h1 h2 h3=>ZR aE aF R.o hk aM.o H.o aN.o aO.o ak.o al.o aP.o bk bb bp.o bl.o bm.o h1 h2 h3;unfold E9 at aD;generalize t[k]=E at *;generalize y[k]=F at *;generalize Di D=fl at *;dsimp only at aD;clear bl bm aM H aN aO aP ak al HE HR HY bh bj;have bn:KU S q r s (M+k*2) (O+k*2) E F A B d1 d2 h.length wr.drew:=⟨s1,p0,p1,r0,r1,hlen⟩;have aW:∀W:World,W.heap[q]? = wr.heap[q]? -> Sem.run prog (Builtin.len_ #[159] 3 #[.map (some q)]) W=.ok (zA (h.length:Int)) W:=λW hW=>by
    rw[KK underlying159 (aR.o.1.kept hW),aR.o.2]
   have KP:Hid (∀W:World,W.heap[S]? = wr.heap[S]? -> W.heap[r]? = wr.heap[r]? -> W.heap[s]? = wr.heap[s]? -> W.heap[q]? = wr.heap[q]? -> KU S q r s (M+k*2) (O+k*2) E F A B d1 d2 h.length W):=λW h1 h2 h3 h4=>⟨by rw[DI h1]; exact s1,by rw[DI h2]; exact p0,by rw[DI h2]; exact p1,by rw[DI h3]; exact r0,by rw[DI h3]; exact r1,aW W h4⟩;have bo:S<wr.heap.size:=HB.o.lt;have az:r<wr.heap.size:=Es p0;have a6:s<wr.heap.size:=Es r0;have a7:q<wr.heap.size:=aR.o.1.lt;have aX:Hid (∀o,KU S q r s (M+k*2) (O+k*2) E F A B d1 d2 h.length (wr.drew.alloc o)):=λo=>KP.o (wr.drew.alloc o) (BL _ _ _ (by simpa using bo)) (BL _ _ _ (by simpa using az)) (BL _ _ _ (by simpa using a6)) (BL _ _ _ (by simpa using a7));have KG:Hid (∀(o:Obj) (w3:World),(wr.drew.alloc o).grownBy w3 u.ownBlock->w3.heap[S]? = wr.heap[S]? /\ w3.heap[r]? = wr.heap[r]? /\ w3.heap[s]? = wr.heap[s]? /\ w3.heap[q]? = wr.heap[q]?):=λo w3 P=>⟨(P.block S (by simp; omega) ao.o).trans (BL _ _ _ (by simpa using bo)),(P.block r (by simp; omega) aU.o).trans (BL _ _ _ (by simpa using az)),(P.block s (by simp; omega) aV.o).trans (BL _ _ _ (by simpa using a6)),(P.block q (by simp; omega) bw.o).trans (BL _ _ _ (by simpa using a7))⟩;have KS:Hid (∀(w3:World) (v:Value),(w3.heap[S]? = wr.heap[S]? /\ w3.heap[r]? = wr.heap[r]? /\ w3.heap[s]? = wr.heap[s]? /\ w3.heap[q]? = wr.heap[q]?)->KU S q r s (M+k*2) (O+k*2) E F A B d1 d2 h.length (w3.setCell (zD S 0) v)):=λw3 v J=>by
    obtain⟨e1,e2,e3,e4,e5,e6⟩:=KP.o w3 J.1 J.2.1 J.2.2.1 J.2.2.2;have a8:r≠S:=λe=>by have h1:=aS.o; exact h1 e
    have aA:s≠S:=λe=>by have h1:=aT.o; exact h1 e
    refine⟨(AE _ _ _ _ (by simp)).trans e1,(AE _ _ _ _ (λe=>a8 (by injection e with e; exact e.symm))).trans e2,(AE _ _ _ _ (λe=>a8 (by injection e with e; exact e.symm))).trans e3,(AE _ _ _ _ (λe=>aA (by injection e with e; exact e.symm))).trans e4,(AE _ _ _ _ (λe=>aA (by injection e with e; exact e.symm))).trans e5,aW _ ?_⟩;rw[Ak _ _ _ _ (by simpa using bu.o)];exact J.2.2.2
   clear p0 p1 r0 r1 s1 hlen aW;go_wp2_with fail;refine Co (S:=KU S q r s (M+k*2) (O+k*2) E F A B d1 d2 h.length) (by kernel_rfl) bn λhH=>?_;clear bn;refine tkz 0 ?_ (hy:=by intro w' a;obtain⟨d,f,j,l,m,n⟩:=a;go_simp<;>with_reducible rfl);refine tkz 1 ?_ (hy:=by intro w' a;obtain⟨d,f,j,l,m,n⟩:=a;go_simp<;>with_reducible rfl);refine tkz 2 ?_ (hy:=by intro w' a;obtain⟨d,f,j,l,m,n⟩:=a;go_simp<;>with_reducible rfl);refine tkz 3 ?_ (hy:=by intro w' a;obtain⟨d,f,j,l,m,n⟩:=a;go_simp<;>with_reducible rfl);refine tkz 5 ?_ (hy:=by intro w' a;obtain⟨d,f,j,l,m,n⟩:=a;go_simp<;>with_reducible rfl);refine tkz 6 ?_ (hy:=by intro w' a;obtain⟨d,f,j,l,m,n⟩:=a;go_simp<;>with_reducible rfl);refine tkz 7 ?_ (hy:=by intro w' a;obtain⟨d,f,j,l,m,n⟩:=a;go_simp<;>with_reducible rfl);refine tkz 8 ?_ (hy:=by intro w' a;obtain⟨d,f,j,l,m,n⟩:=a;go_simp<;>with_reducible rfl);refine tkz 9 ?_ (hy:=by intro w' a;obtain⟨d,f,j,l,m,n⟩:=a;go_simp<;>with_reducible rfl);refine tkz 10 ?_ (hy:=by intro w' a;obtain⟨d,f,j,l,m,n⟩:=a;go_simp<;>with_reducible rfl);refine tkz 11 ?_ (hy:=by intro w' a;obtain⟨d,f,j,l,m,n⟩:=a;go_simp<;>with_reducible rfl);refine tkz 12 ?_ (hy:=by intro w' a;obtain⟨d,f,j,l,m,n⟩:=a;go_simp<;>with_reducible rfl);refine tkz 13 ?_ (hy:=by intro w' a;obtain⟨d,f,j,l,m,n⟩:=a;go_simp<;>with_reducible rfl);refine tkz 14 ?_ (hy:=by intro w' a;obtain⟨d,f,j,l,m,n⟩:=a;go_simp<;>with_reducible rfl);refine tkz 15 ?_ (hy:=by intro w' a;obtain⟨d,f,j,l,m,n⟩:=a;go_simp<;>with_reducible rfl);refine tkz 16 ?_ (hy:=by intro w' a;obtain⟨d,f,j,l,m,n⟩:=a;go_simp<;>with_reducible rfl);refine tkz 17 ?_ (hy:=by intro w' a;obtain⟨d,f,j,l,m,n⟩:=a;go_simp<;>with_reducible rfl);refine tkz 18 ?_ (hy:=by intro w' a;obtain⟨d,f,j,l,m,n⟩:=a;go_simp<;>with_reducible rfl);refine Bw (rs:=[4,19]) (by kernel_rfl) (by simp) ?_;refine Ax rfl (λK c=>?_) (Ax rfl (λK c=>?_) Bx)
   ·go_simp;refine zo c (by exact hH) λhH=>?_;clear c K;refine rdq 19 rfl λK c=>?_;go_simp;refine zo c (by exact aX.o _) λhH=>?_;clear c K;refine rdq 20 rfl λK c=>?_;refine step_append_lies _ rfl _ _ 160 rfl N 167 i0 _ 5 88 underlying160 bc bd bf bg rfl (by decide) u D.length fl rfl (by exact ay.o.alloc _) (zD wr.heap.size 0) 1 1 [.string E.name,.slice A E.args.length d1,.string F.name,.slice B F.args.length d2,zA (h.length:Int)] rfl rfl (by exact OG _ _ _ _ _ _ _) (λx hx=>by simp at hx; rcases hx with rfl|rfl|rfl|rfl|rfl<;>rfl) (by decide) (by have:=aC.o; unfold maxLen; omega) (by have:=aC.o; omega) (by simp; omega) _ rfl ?_;intro g cap w3 V G Z aq;have ar:=Aa (((HB.o.drewN 1).alloc _).grown G ao.o);have aY:w3.cell? (zD S 0)=some u:=ar.o.cell 0;have aZ:=ar.o.frozen 0;have ba:=Aa (aD.o g cap w3 V G Z);have z:=Aa (KG.o _ _ G);refine c.o _ _ (by exact KP.o w3 z.o.1 z.o.2.1 z.o.2.2.1 z.o.2.2.2) λhH=>?_;clear V G Z ar aq;clear c K;(try simp only[Act.put,sq]);refine tkz 21 ?_ (hy:=by intro w' a;obtain⟨d,f,j,l,m,n⟩:=a;go_simp<;>with_reducible rfl);refine tkz 22 ?_ (hy:=by intro w' a;obtain⟨d,f,j,l,m,n⟩:=a;go_simp<;>with_reducible rfl);refine rdq 23 rfl λK c=>?_;go_simp;refine zo c (by exact KS.o w3 _ z.o) λhH=>?_;clear c K;refine dnq ?_;clear hH aY aZ;go_wp2_with fail;go_roundw
    case rel=>exact ba.o
    case measure=>simp[intOf]
   ·go_simp;refine zo c (by exact aX.o _) λhH=>?_;clear c K;refine rdq 4 rfl λK c=>?_;go_simp;refine zo c (by exact aX.o _) λhH=>?_;clear c K;refine rdq 20 rfl λK c=>?_;refine step_append_lies _ rfl _ _ 160 rfl N 167 i0 _ 5 88 underlying160 bc bd bf bg rfl (by decide) u D.length fl rfl (by exact ay.o.alloc _) (zD wr.heap.size 0) 1 1 [.string E.name,.slice A E.args.length d1,.string F.name,.slice B F.args.length d2,zA (h.length:Int)] rfl rfl (by exact OG _ _ _ _ _ _ _) (λx hx=>by simp at hx; rcases hx with rfl|rfl|rfl|rfl|rfl<;>rfl) (by decide) (by have:=aC.o; unfold maxLen; omega) (by have:=aC.o; omega) (by simp; omega) _ rfl ?_;intro g cap w3 V G Z aq;have ar:=Aa (((HB.o.drewN 1).alloc _).grown G ao.o);have aY:w3.cell? (zD S 0)=some u:=ar.o.cell 0;have aZ:=ar.o.frozen 0;have ba:=Aa (aD.o g cap w3 V G Z);have z:=Aa (KG.o _ _ G);refine c.o _ _ (by exact KP.o w3 z.o.1 z.o.2.1 z.o.2.2.1 z.o.2.2.2) λhH=>?_;clear V G Z ar aq;clear c K;(try simp only[Act.put,sq]);refine tkz 21 ?_ (hy:=by intro w' a;obtain⟨d,f,j,l,m,n⟩:=a;go_simp<;>with_reducible rfl);refine tkz 22 ?_ (hy:=by intro w' a;obtain⟨d,f,j,l,m,n⟩:=a;go_simp<;>with_reducible rfl);refine rdq 23 rfl λK c=>?_;go_simp;refine zo c (by exact KS.o w3 _ z.o) λhH=>?_;clear c K;refine dnq ?_;clear hH aY aZ;go_wp2_with fail;go_roundw
    case rel=>exact ba.o
    case measure=>simp[intOf]
theorem KW (hx:Av x=true):Ch x (AU [] (Aw [t]))=CN x [t]:=by
 rw[Bool.eq_iff_iff,I7];constructor
 ·intro h;unfold Ch at h;rw[Fc]at h;obtain⟨y,hy,e⟩:=h;have e2:y=x:=Gg (by simpa using e);subst e2;rcases Mi _ _ _ hy with h1|⟨k,h1,h2,_⟩
  ·cases h1
  ·exact⟨k,h1,h2⟩
 ·intro h;apply Er;intro a;exact KI hx a h
def Uh (S q N:Nat) (h:List (ByteArray×Tm)) (cs:List Ec) (ta tb:Tm) (code:Int) (w':World):Prop:=
 (code≠0/\∃(f':Bool) (Y':Nat->Prop) (td':Value),Cv S q td' h f' Y' w'/\(f'=true∨∀l,Br false (Aj h) l ta tb=.stop code (Aj h)))∨
 (code=0/\Ah [ta]<=2000/\Ah [tb]<=2000/\∃(h':List (ByteArray×Tm)) (cs':List Ec) (new:List Pr),KO S q N h' cs' w'/\cs'.map Dv=cs.map Dv++new.reverse.map (λp=>(p,h.length))/\(∀l,Br false (Aj h) l ta tb=.go (Aj h') (new++l))/\
  ((new=[]/\h'=h)∨(new=[]/\∃x t,h'=h++[(x,t)]/\Av x=true/\((x=ta.name/\t=tb)∨(x=tb.name/\t=ta))/\¬Ch x (AU [] (Aw [t]))=true)∨(new=AD ta.args tb.args/\h'=h/\ta.args.length=tb.args.length)))
def Ui (S q N:Nat) (h:List (ByteArray×Tm)) (cs:List Ec) (ta tb:Tm) (td0:Value) (w:World) (e:Ending) (w':World):Prop:=
 ∃code:Int,e=.returned (zA code)/\Al (λb=>b=S∨b=q∨some b=td0.ownBlock) w w'/\Uh S q N h cs ta tb code w'
theorem Uj {cs:List Ec} {ta tb:Tm} {c:World} (j:S<N) (k:q<N) (y:N<=w.heap.size) (z:Dp w N (λb=>b<N/\b≠S/\b≠q) a cs) (o:∀b,d b->some b≠a.ownBlock) (A:∀b,X b->some b≠a.ownBlock) (B:Al (Cw S q) w w3) (C:Al (Cw S q) w3 c) (r:Ah [ta]<=2000) (s:Ah [tb]<=2000)
  (m:∀l,Br false (Aj h) l ta tb=if nm=t.name then .go (Aj h) l else Cu false (Aj h) l nm t) (i:Av nm=true) (ar:(nm=ta.name/\t=tb)∨(nm=tb.name/\t=ta))
  (hc:(t.name=nm/\e=.returned (zA 0)/\Cv S q a h false d c)∨(t.name≠nm/\CN nm [t]=true/\e=.returned (zA 6)/\Cv S q a h false d c)∨(t.name≠nm/\CN nm [t]=false/\e=.returned (zA 0)/\Cv S q a (h++[(nm,t)]) false (λb=>d b∨(X b/\b<w3.heap.size)) c)):
  ∃code:Int,e=.returned (zA code)/\Al (λb=>b=S∨b=q∨some b=a.ownBlock) w c/\Uh S q N h cs ta tb code c:=by
 have hx:Al (Cw S q) w c:=B.trans C;have n:Al (λb=>b=S∨b=q∨some b=a.ownBlock) w c:=hx.mono λb hb _=>by
  rcases hb with h1|h1
  ·exact Ad h1
  ·exact Ae (Ad h1)
 have u:Dp c N (λb=>b<N/\b≠S/\b≠q) a cs:=z.exq hx (λb hb=>by rcases hb with rfl|rfl; exact j; exact k) (λb hb v=>by
  rcases hb with h1|h1
  ·exact v.2.1 h1
  ·exact v.2.2 h1)
 have x:N<=c.heap.size:=AJ y hx.size;rcases hc with ⟨f,rfl,g⟩|⟨f,ho,rfl,g⟩|⟨f,ho,rfl,g⟩
 ·exact⟨0,rfl,n,Ae ⟨rfl,r,s,h,cs,[],⟨a,d,g,u,o,j,k,x⟩,by simp,λl=>by rw[m,Aq f.symm]; rfl,Ad ⟨rfl,rfl⟩⟩⟩
 ·refine⟨6,rfl,n,Ad ⟨by decide,false,d,a,g,Ae λl=>?_⟩⟩;rw[m,Am (λe=>f e.symm)];unfold Cu;rw[Aq (by rw[KW i]; exact ho)]
 ·refine⟨0,rfl,n,Ae ⟨rfl,r,s,h++[(nm,t)],cs,[],⟨a,_,g,u,λb hb=>?_,j,k,x⟩,by simp,λl=>?_,Ae (Ad ⟨rfl,nm,t,rfl,i,ar,by rw[KW i,ho]; simp⟩)⟩⟩
  ·rcases hb with hb|hb
   ·exact o b hb
   ·exact A b hb.1
  ·rw[m,Am (λe=>f e.symm)];unfold Cu;rw[Am (by rw[KW i,ho]; simp),Am (by simp),Fo];rfl
theorem ZU (S q N:Nat) (V:List ByteArray) (h:List (ByteArray×Tm)) (cs:List Ec) (p:Pr) (l:List Pr) (hU:UI V h (p::l)) (j:Nat) (hj:j<=h.length) (hid:j=h.length->(Ag (Aj h) p.l=p.l/\Ag (Aj h) p.r=p.r)) (bm:cs.length<=900000000) (hV:V.length<=400000) (B:Option Addr) (c1:Nat) (a2:Option Addr) (c2:Nat) (w:World) (i:Value) (Y:Nat->Prop) (hE:Cv S q i h false Y w) (hR:Dp w N (λb=>b<N/\b≠S/\b≠q) i cs) (hY:∀b,Y b->some b≠i.ownBlock) (L:S<N) (M:q<N) (W:N<=w.heap.size)
  (aJ:Sl w (λb=>(b<N/\b≠S/\b≠q)∨(N<=b/\some b≠i.ownBlock)) B p.l.args) (aK:Sl w (λb=>(b<N/\b≠S/\b≠q)∨(N<=b/\some b≠i.ownBlock)) a2 p.r.args):
  Calls prog 120 #[zC S,.agg #[.string p.l.name,.slice B p.l.args.length c1,.string p.r.name,.slice a2 p.r.args.length c2,zA j]] w λe w'=>Ui S q N h cs (Ag (Aj h) p.l) (Ag (Aj h) p.r) i w e w':=by
 have HE:=Aa hE;have C:=Aa hR;have HY:=Aa hY;have aX:=Aa aJ;have aY:=Aa aK;have n:=Aa hU;have aZ:=Aa hid;have bn:S<w.heap.size:=by omega
 clear hE hR hY aJ aK hU hid;obtain⟨ta,Z⟩:∃ta,Ag (Aj h) p.l=ta:=⟨_,rfl⟩;obtain⟨tb,a7⟩:∃tb,Ag (Aj h) p.r=tb:=⟨_,rfl⟩;have a8:=Aa Z;have aA:=Aa a7;rw[Z,a7];clear Z a7;have O:Hid (Below w.heap.size w (w.alloc (zp #[.string p.l.name,.slice B p.l.args.length c1,.string p.r.name,.slice a2 p.r.args.length c2,zA j] 167))):=(Ac _ _).alloc (Af _) _;have bo:(w.alloc (zp #[.string p.l.name,.slice B p.l.args.length c1,.string p.r.name,.slice a2 p.r.args.length c2,zA j] 167)).heap.size=w.heap.size+1:=by simp
 go_in;go_wp2_with fail;generalize (w.alloc (zp #[.string p.l.name,.slice B p.l.args.length c1,.string p.r.name,.slice a2 p.r.args.length c2,zA j] 167))=w1 at *;have PT:=ZO S q i h n.o.good n.o.names p n.o.head j hj aZ.o (n.o.size p (by simp)) B c1 a2 c2 w1 _ Y (λb hb hm=>by
  rcases hb with hb|hb
  ·rcases hm with e|e
   ·exact hb.2.1 e
   ·exact hb.2.2 e
  ·rcases hm with e|e<;>omega) (aX.o.later O.o) (aY.o.later O.o) ((DA S q i h).below HE.o O.o)
 rw[a8.o,aA.o]at PT;refine PT.mono ?_;clear PT;rintro e w2 ⟨s1,c,t,d,s2,f,u,g,ok,f',v,rfl,aL,ao,hx,hc⟩;have ba:Hid (Al (Cw S q) w w2):=(Al.ofBelow O.o).trans hx;have bb:=Aa aL;have aB:Hid (∀b,v b->some b≠i.ownBlock):=λb hb e=>by
  rcases ao b hb with h1|h1
  ·exact HY.o b h1 e
  ·have:=(C.o.own.lt b e.symm).2; omega
 have bp:w.heap.size+1<=w2.heap.size:=by have:=hx.size; omega
 have HC:=Aa hc;clear aL ao hx hc;have P:Below w2.heap.size w2 ((w2.alloc (zp #[.string s1,.slice c t d] 61)).alloc (zp #[.string s2,.slice f u g] 61)):=EJ _ _;have aC:=Aa P;have D:Hid (Ab ((w2.alloc (zp #[.string s1,.slice c t d] 61)).alloc (zp #[.string s2,.slice f u g] 61)) w2.heap.size #[.string s1,.slice c t d] 61):=(Ab.new w2 _ _).alloc _;have E:Hid (Ab ((w2.alloc (zp #[.string s1,.slice c t d] 61)).alloc (zp #[.string s2,.slice f u g] 61)) (w2.heap.size+1) #[.string s2,.slice f u g] 61):=(by have h1:=Ab.new (w2.alloc (zp #[.string s1,.slice c t d] 61)) #[.string s2,.slice f u g] 61;rw[Ca]at h1;exact h1);have bc:((w2.alloc (zp #[.string s1,.slice c t d] 61)).alloc (zp #[.string s2,.slice f u g] 61)).heap.size=w2.heap.size+2:=by simp
 have x:=Aa ((DA S q i h).below bb.o P);have y:Hid (Al (Cw S q) w ((w2.alloc (zp #[.string s1,.slice c t d] 61)).alloc (zp #[.string s2,.slice f u g] 61))):=ba.o.trans (Al.ofBelow P);clear P;rcases HC.o with ⟨rfl,rfl,rfl,rfl,rfl,rfl,aM,aN,aO,aP⟩|⟨rfl,aq⟩
 ·have ah:∀(a:Option Addr) (l:List Tm),Sl w2 (λb=>(((b<N/\b≠S/\b≠q)∨(N<=b/\some b≠i.ownBlock))/\b<w1.heap.size)∨w1.heap.size<=b) a l->Sl w2 (λb=>(b<N/\b≠S/\b≠q)∨(N<=b/\some b≠i.ownBlock)) a l:=λa l bd=>bd.mono λb hb _=>by
   rcases hb with hb|hb
   ·exact hb.1
   ·refine Ae ⟨by omega,λe=>?_⟩;have:=(C.o.own.lt b e.symm).2; omega
  have aD:=Aa ((ah _ _ aO).later aC.o);have aE:=Aa ((ah _ _ aP).later aC.o);have aQ:Hid (∀b,((b<N/\b≠S/\b≠q)∨(N<=b/\some b≠i.ownBlock))->¬Cw S q b):=λb hb hm=>by
   rcases hb with hb|hb
   ·rcases hm with e|e
    ·exact hb.2.1 e
    ·exact hb.2.2 e
   ·rcases hm with e|e<;>omega
  have aR:Hid (∀b,((b<N/\b≠S/\b≠q)∨(N<=b/\some b≠i.ownBlock))->some b≠i.ownBlock):=λb hb=>by
   rcases hb with hb|hb
   ·exact C.o.ne hb.1
   ·exact hb.2
  have z:=Aa aM;have F:=Aa aN;have a0:((w2.alloc (zh ta c d)).alloc (zh tb f g)).cell? (zD w2.heap.size 0)=some (.string ta.name):=D.o.cell 0;have aS:((w2.alloc (zh ta c d)).alloc (zh tb f g)).cell? (zD w2.heap.size 1)=some (.slice c ta.args.length d):=D.o.cell 1;have b0:((w2.alloc (zh ta c d)).alloc (zh tb f g)).cell? (zD (w2.heap.size+1) 0)=some (.string tb.name):=E.o.cell 0;have aT:((w2.alloc (zh ta c d)).alloc (zh tb f g)).cell? (zD (w2.heap.size+1) 1)=some (.slice f tb.args.length g):=E.o.cell 1;clear ah aO aP aM aN HC;cases R:Av ta.name with
  |true=>have k:=Aa R;have aF:Hid (tb.name≠ta.name->CN ta.name [tb]=false->Gt (Aj h) ta.name tb):=λ_ ho=>(n.o.bindV k.o (Ad ⟨by rw[a8.o],by rw[aA.o]⟩) (by rw[KW k.o,ho]; simp)).1;clear R;go_wp2_with (go_at_call 109; refine(DU _ _).mono ?_; rintro e w' ⟨rfl,rfl⟩; rw[k.o]);generalize ((w2.alloc (zh ta c d)).alloc (zh tb f g))=w3 at *;refine(Ud S q i h n.o.good ta.name tb aF.o f g w3 _ v aQ.o aE.o x.o).mono ?_;rintro e w4 ⟨s,ar⟩;have I:=Aa (Uj (ta:=ta) (tb:=tb) (cs:=cs) L M W C.o aB.o aR.o y.o s z.o F.o (λl=>by unfold Br; rw[Am (by have:=z.o; have:=F.o; omega),Aq k.o]) k.o (Ad ⟨rfl,rfl⟩) ar);obtain⟨code,rfl,J⟩:=I.o;clear ar;have aU:=Aa s;have aj:=Aa J;clear s J I;go_wp2_with fail;go_ret;exact⟨code,rfl,aj.o⟩
  |false=>
   have k:=Aa R;clear R;cases T:Av tb.name with
   |true=>
    have m:=Aa T;have aF:Hid (ta.name≠tb.name->CN tb.name [ta]=false->Gt (Aj h) tb.name ta):=λ_ ho=>(n.o.bindV m.o (Ae ⟨by rw[aA.o],by rw[a8.o]⟩) (by rw[KW m.o,ho]; simp)).1;have bf:Hid (tb.name≠ta.name):=λe=>by
     have h1:=k.o;have h2:=m.o;rw[e,h1]at h2; cases h2
    clear T;go_wp2_with (go_at_call 109; refine(DU _ _).mono ?_; rintro e w' ⟨rfl,rfl⟩; (first|rw[k.o]|rw[m.o]));generalize ((w2.alloc (zh ta c d)).alloc (zh tb f g))=w3 at *;refine(Ud S q i h n.o.good tb.name ta aF.o c d w3 _ v aQ.o aD.o x.o).mono ?_;rintro e w4 ⟨s,ar⟩;have I:=Aa (Uj (ta:=ta) (tb:=tb) (cs:=cs) L M W C.o aB.o aR.o y.o s z.o F.o (λl=>by unfold Br; rw[Am (by have:=z.o; have:=F.o; omega),Am (by rw[k.o]; simp),Aq m.o,Am bf.o]) m.o (Ae ⟨rfl,rfl⟩) ar);obtain⟨code,rfl,J⟩:=I.o;clear ar;have aj:=Aa J;clear s J I;go_wp2_with fail;go_ret;exact⟨code,rfl,aj.o⟩
   |false=>
    have m:=Aa T;clear T;have U:Hid (Al (λb=>b=S∨b=q∨some b=i.ownBlock) w ((w2.alloc (zh ta c d)).alloc (zh tb f g))):=y.o.mono λb hb _=>by
     rcases hb with h1|h1
     ·exact Ad h1
     ·exact Ae (Ad h1)
    have aG:Hid (∀l,Br false (Aj h) l ta tb=if ta.name=tb.name/\ta.args.length=tb.args.length then .go (Aj h) (AD ta.args tb.args++l) else .stop 5 (Aj h)):=λl=>by
     unfold Br;rw[Am (by have:=z.o; have:=F.o; omega),Am (by rw[k.o]; simp),Am (by rw[m.o]; simp)]
    by_cases A:ta.name=tb.name
    ·have bg:=IE A;by_cases G:ta.args.length=tb.args.length
     ·have aV:=Aa G;have bh:=Aa A;have bq:ta.args.length<=2000:=(by have h1:=Ie ta.args;have h2:=JP ta;have h3:=z.o;omega);have bj:h.length<=1000000000:=by have:=n.o.hlen; omega
      dsimp only[zh,zG]at x y U aD aE;rw[G]at x y U aD aE;clear A D E aC a0 aS b0 aT bc;have D:Hid (Ab ((w2.alloc (zp #[.string ta.name,.slice c tb.args.length d] 61)).alloc (zh tb f g)) w2.heap.size #[.string ta.name,.slice c tb.args.length d] 61):=(Ab.new w2 _ _).alloc _;have E:Hid (Ab ((w2.alloc (zp #[.string ta.name,.slice c tb.args.length d] 61)).alloc (zh tb f g)) (w2.heap.size+1) (zG tb f g) 61):=by
       have h1:=Ab.new (w2.alloc (zp #[.string ta.name,.slice c tb.args.length d] 61)) (zG tb f g) 61;rw[Ca]at h1;exact h1
      have a0:((w2.alloc (zp #[.string ta.name,.slice c tb.args.length d] 61)).alloc (zh tb f g)).cell? (zD w2.heap.size 0)=some (.string ta.name):=D.o.cell 0;have aS:((w2.alloc (zp #[.string ta.name,.slice c tb.args.length d] 61)).alloc (zh tb f g)).cell? (zD w2.heap.size 1)=some (.slice c tb.args.length d):=D.o.cell 1;have b0:((w2.alloc (zp #[.string ta.name,.slice c tb.args.length d] 61)).alloc (zh tb f g)).cell? (zD (w2.heap.size+1) 0)=some (.string tb.name):=E.o.cell 0;have aT:((w2.alloc (zp #[.string ta.name,.slice c tb.args.length d] 61)).alloc (zh tb f g)).cell? (zD (w2.heap.size+1) 1)=some (.slice f tb.args.length g):=E.o.cell 1;go_wp2_with (go_at_call 109; refine(DU _ _).mono ?_; rintro e w' ⟨rfl,rfl⟩; (first|rw[k.o]|rw[m.o]));generalize ((w2.alloc (zp #[.string ta.name,.slice c tb.args.length d] 61)).alloc (zh tb f g))=w3 at *;have aW:Dp w3 N (λb=>b<N/\b≠S/\b≠q) i cs:=C.o.exq y.o (λb hb=>by rcases hb with rfl|rfl; exact L; exact M) (λb hb H=>by
       rcases hb with h1|h1
       ·exact H.2.1 h1
       ·exact H.2.2 h1)
      have AH:=ZT S q N h cs ta.args tb.args G (by omega) bj c f d g w3 i v x.o aW aB.o L M (AJ W y.o.size) aD.o aE.o;rw[G]at AH;refine AH.mono ?_;clear AH;rintro e w4 ⟨rfl,bk,hT,hC,s⟩;have HT:=Aa hT;have bl:=Aa hC;have aU:Hid (Al (λb=>b=S∨b=q∨some b=i.ownBlock) w w4):=U.o.trans (s.mono λb hb _=>hb.imp id Ae);clear hT hC s aW;go_wp2_with fail;go_ret;exact⟨0,rfl,aU.o,Ae ⟨rfl,z.o,F.o,h,bk,AD ta.args tb.args,HT.o,bl.o,λl=>by rw[aG.o,Aq ⟨bh.o,aV.o⟩],Ae (Ae ⟨rfl,rfl,aV.o⟩)⟩⟩
     ·have br:((ta.args.length:Int)==(tb.args.length:Int))=false:=Dx.2 (by omega);have aH:Hid (¬(ta.name=tb.name/\ta.args.length=tb.args.length)):=λH=>G H.2;clear G A;go_wp2_with (go_at_call 109; refine(DU _ _).mono ?_; rintro e w' ⟨rfl,rfl⟩; (first|rw[k.o]|rw[m.o]));go_ret;exact⟨5,rfl,U.o,Ad ⟨by decide,false,v,i,x.o,Ae λl=>by rw[aG.o,Am aH.o]⟩⟩
    ·have bg:=Kk A;have aH:Hid (¬(ta.name=tb.name/\ta.args.length=tb.args.length)):=λH=>A H.1;clear A;go_wp2_with (go_at_call 109; refine(DU _ _).mono ?_; rintro e w' ⟨rfl,rfl⟩; (first|rw[k.o]|rw[m.o]));go_ret;exact⟨5,rfl,U.o,Ad ⟨by decide,false,v,i,x.o,Ae λl=>by rw[aG.o,Am aH.o]⟩⟩
 ·have aI:=Aa aq;clear aq HC;go_wp2_with fail;go_ret;refine⟨8,rfl,y.o.mono λb hb _=>?_,Ad ⟨by decide,f',v,i,x.o,?_⟩⟩
  ·rcases hb with h1|h1
   ·exact Ad h1
   ·exact Ae (Ad h1)
  ·rcases aI.o with h1|h1
   ·exact Ad h1
   ·exact Ae λl=>by unfold Br; rw[Aq h1]
open Go.RowKit Go.Shelf
attribute [local go_sem] Oper.semAt_some
theorem ZV (F:Fence) (n:Nat) (b:F.fn 119) (d:F.round=none) (v:Value) (w:World) (f:∃a k c,v=.slice a k c):
  CallsIn F n prog 119 #[v] w λe w'=>e=.returned (.func (.func 134) #[] #[zC w.heap.size])/\w'=w.alloc (zp #[v] 56):=by
 obtain⟨a,k,c,rfl⟩:=f;refine callsIn_of_wp func119 rfl b ?_ d;simp only[ntmps119,List.size_toArray,Cl,Ek,Nat.reduceAdd,Nat.reduceSub,Array.replicate_succ,Array.replicate_zero,List.push_toArray,List.append_toArray,Gy,Dj];gi_wp2
 go_ret;exact⟨rfl,rfl⟩
abbrev Yx:=Int×Pc
def MS (x:Yx):Array Value:=#[zA x.1,.agg #[.string x.2.1.l.name,.slice x.2.2.1.1 x.2.1.l.args.length x.2.2.1.2,.string x.2.1.r.name,.slice x.2.2.2.1 x.2.1.r.args.length x.2.2.2.2]]
def Fa {P:Yx->Prop} (xs:List Pc) (hP:∀k (h:k<xs.length),P ((k:Int),xs[k])):(k:Nat)->k<=xs.length->List { x:Yx // P x}
 |0,_=>[]
 |k+1,h=>⟨((k:Int),xs[k]),hP k h⟩::Fa xs hP k (Nat.le_of_succ_le h)
theorem Uk {P:Yx->Prop} {xs:List Pc} {hP:∀k (h:k<xs.length),P ((k:Int),xs[k])}:∀k (h:k<=xs.length),(Fa xs hP k h).length=k
 |0,_=>rfl
 |k+1,h=>by rw[Fa,Cl,Uk k]
theorem Ul {P:Yx->Prop} {xs:List Pc} {hP:∀k (h:k<xs.length),P ((k:Int),xs[k])}:∀k (h:k<=xs.length),(Fa xs hP k h).map (λx=>x.1.2.1)=((xs.take k).map (·.1)).reverse
 |0,_=>by simp[Fa]
 |k+1,h=>by
  rw[Fa,CB,Ul k,CI (by omega),Db,List.reverse_append];rfl
def OI (w:World) (b o:Nat) (xs:List Pc):Prop:=∀j u,(Dg xs)[j]? = some u->w.cell? ⟨b,o+j,none⟩=some u
theorem ZW (F:Fence) (n:Nat) (h6:F.fn 134) (G:F.round=none) (hn:1<=n) {P:Yx->Prop} {Kp:World->World->Prop} (H:∀A,Kp A A) (I:∀ {A B C:World},Kp A B->Kp B C->Kp A C) (l d b o c:Nat) (q:∀ {A B:World},Kp A B->B.heap[b]? = A.heap[b]? /\ B.heap[d]? = A.heap[d]?) (a:Option Addr) (xs:List Pc) (hP:∀k (h:k<xs.length),P ((k:Int),xs[k])) (L:xs=[]∨a=some (zD b o)) (ao:xs.length<=1000000) (J r:List { x:Yx // P x}->World->Prop)
  (M:∀pre x W,J pre W->pre.length<xs.length->YieldAt F (n-1) prog l (MS x.1) W λe W'=>
   (e=.returned (.bool true)/\J (pre++[x]) W'/\Kp W W')∨(e=.returned (.bool false)/\r (pre++[x]) W'))
  (W:World) (s:W.cell? (zD d 0)=some (.slice a xs.length c)) (t:OI W b o xs) (h0:J [] W):
  CallsIn F n prog 134 #[.func (.yield l) #[] #[],zC d] W λe W'=>(∃v,e=.returned v)/\
   ((∃y,y=Fa xs hP xs.length (Af _)/\J y W')∨(∃pre,pre <+: Fa xs hP xs.length (Af _)/\r pre W')):=by
 refine callsIn_of_wp func134 rfl h6 ?_ G;simp only[ntmps134,List.size_toArray,Cl,Ek,Nat.reduceAdd,Nat.reduceSub,Array.replicate_succ,Array.replicate_zero,List.push_toArray,List.append_toArray,Gy,Dj];gi_wp2
 gi_loopw [3] (λi wr=>∃(k:Nat) (hk:k<=xs.length),i=zA ((k:Int)-1)/\Kp W wr/\∃pre,Fa xs hP xs.length (Af _)=pre++Fa xs hP k hk/\J pre wr) (λi wr=>(intOf i+1).toNat)
 case atStart=>exact⟨xs.length,Af _,by go_num,H _,[],rfl,h0⟩
 case round=>
  obtain⟨k,hk,rfl,hb,pre,f,z⟩:=hrel;cases k with
  |zero=>
   gi_wp2
   go_end0
   exact⟨⟨_,rfl⟩,.inl ⟨pre,by rw[f]; simp[Fa],z⟩⟩
  |succ k=>
   have N:((k+1:Nat):Int)-1=k:=(by omega);rw[N];obtain rfl:a=some (zD b o):=L.resolve_left (λe=>by rw[e] at hk; simp at hk);rw[Fa]at f;have O:pre.length<xs.length:=(by have h1:=Dt List.length f;rw[Uk]at h1;simp at h1;omega);have g:∀j u,(Eb xs[k])[j]? = some u->j<4->wr.cell? ⟨b,o+k*4+j,none⟩=some u:=λj u hu R=>by
    rw[DI (q hb).1,Nat.add_assoc];exact t _ _ (by rw[Jt xs k (by omega) j R]; exact hu)
   have c0:=g 0 _ rfl (by decide);have c1:=g 1 _ rfl (by decide);have c2:=g 2 _ rfl (by decide);have c3:=g 3 _ rfl (by decide);simp only[Ic] at c0;have aq:wr.cell? (zD d 0)=some (.slice (some (zD b o)) xs.length c):=by rw[DI (q hb).2]; exact s
   have ar:(k:Int)<(xs.length:Int):=(by omega);have m:=hP k (by omega);obtain⟨fn,tmps,assign,body,hy,D⟩:=M pre ⟨((k:Int),xs[k]),m⟩ wr z O;have E:=Aa f;dsimp only[MS] at hy D;obtain⟨x,hx⟩:∃x,xs[k]=x:=⟨_,rfl⟩;have au:=Aa hx;simp only[hx] at c0 c1 c2 c3 hy;clear g f t s hx;gi_wp2
   refine D.mono ?_;rintro e W3 (⟨rfl,T,U⟩|⟨rfl,V⟩)
   ·gi_wp2
    go_roundw
    case rel=>exact⟨k,by omega,by go_num,I hb U,pre++[⟨((k:Int),xs[k]),m⟩],by rw[E.o]; simp,T⟩
    case measure=>simp[intOf]
   ·gi_wp2
    refine Ao (results_none rfl _ _ _) rfl ?_;exact⟨⟨_,rfl⟩,.inr ⟨pre++[⟨((k:Int),xs[k]),m⟩],⟨Fa xs hP k (by omega),by rw[E.o]; simp⟩,V⟩⟩
theorem ZX (F:Fence) (n:Nat) (h6:F.fn 134) (f:F.round=none) (g:1<=n) {P:Yx->Prop} {Kp:World->World->Prop} (i:∀A,Kp A A) (m:∀ {A B C:World},Kp A B->Kp B C->Kp A C) (d b o c:Nat) (q:∀ {A B:World},Kp A B->B.heap[b]? = A.heap[b]? /\ B.heap[d]? = A.heap[d]?) (a:Option Addr) (xs:List Pc) (hP:∀k (h:k<xs.length),P ((k:Int),xs[k])) (r:xs=[]∨a=some (zD b o)) (s:xs.length<=1000000) (w:World) (t:b<w.heap.size) (v:d<w.heap.size) (y:w.cell? (zD d 0)=some (.slice a xs.length c)) (z:OI w b o xs):
  SeqStopsK F n prog 134 #[zC d] (λx:{ x:Yx // P x}=>MS x.1) Kp (λD=>D=Fa xs hP xs.length (Af _)) (λpre=>pre <+: Fa xs hP xs.length (Af _)) xs.length w:=λl J E W e _ _ G h0=>
 ZW F n h6 f g i m l d b o c q a xs hP r s J E G W ((e.cell (p:=(zD d 0)) v).trans y) (λj u H=>(e.cell (p:=⟨b,o+j,none⟩) t).trans (z j u H)) h0
theorem OJ {w:World} {X:Nat->Prop}:∀(l:List Pr) (b o:Nat),(∀i (h:i<l.length),∃c c1 a2 c2,w.cell? ⟨b,o+i*4,none⟩=some (.string l[i].l.name)/\w.cell? ⟨b,o+i*4+1,none⟩=some (.slice c l[i].l.args.length c1)/\w.cell? ⟨b,o+i*4+2,none⟩=some (.string l[i].r.name)/\w.cell? ⟨b,o+i*4+3,none⟩=some (.slice a2 l[i].r.args.length c2)/\Sl w X c l[i].l.args/\Sl w X a2 l[i].r.args)->
  ∃cs:List Pc,cs.map (·.1)=l/\(∀j u,(Dg cs)[j]? = some u->w.cell? ⟨b,o+j,none⟩=some u)/\∀x∈cs,Sl w X x.2.1.1 x.1.l.args/\Sl w X x.2.2.1 x.1.r.args
 | [],b,o,_=>⟨[],rfl,λj u h=>by simp[Dg] at h,λx h=>by cases h⟩
 |p::r,b,o,h=>by
  obtain⟨c,c1,a2,c2,h1,h2,h3,e,h5,h6⟩:=h 0 (by simp);obtain⟨cs,e1,e2,e3⟩:=OJ r b (o+4) λi hi=>by
   have d:=h (i+1) (by simpa using hi);simp only[FG] at d;rw[show o+(i+1)*4=o+4+i*4 by omega]at d;exact d
  simp only[Gc,Nat.zero_mul,Ic] at h1 h2 h3 e h5 h6;refine⟨(p,(c,c1),(a2,c2))::cs,by simp[e1],λj u a=>?_,λx hx=>?_⟩
  ·rw[Dg]at a;match j,a with
   |0,a=>simp[Eb] at a; subst a; exact h1
   |1,a=>simp[Eb] at a; subst a; exact h2
   |2,a=>simp[Eb] at a; subst a; exact h3
   |3,a=>simp[Eb] at a; subst a; exact e
   |j+4,a=>rw[Po (by simp[Eb])]at a;have:=e2 j u (by simpa [Eb] using a);rwa [show o+(j+4)=o+4+j by omega]
  ·rcases Ct.1 hx with rfl|hx
   ·exact⟨h5,h6⟩
   ·exact e3 x hx
theorem ZY (x:Pc):∀u∈Eb x,u.oneCell'=true:=λy hy=>by
 simp[Eb]at hy;rcases hy with rfl|rfl|rfl|rfl<;>rfl
theorem Um:∀cs:List Pc,∀u∈Dg cs,u.oneCell'=true
 | [],u,h=>by cases h
 |x::r,u,h=>by
  rw[Dg]at h;rcases BN.1 h with h|h
  ·exact ZY x u h
  ·exact Um r u h
theorem ZZ {cs:List Pc} (h:Ez w N Y v cs) (t:N<=w.heap.size) (x:∀b,Y b->b<N) {a:Option Addr} (hq:QV w Y (.slice a n c) l) (hn:cs.length+l.length<=1000000000):
  ∃v2 w3,(Builtin.append_ #[56,56] 56 #[v,.slice a n c]).run prog w=.ok v2 w3/\QV w3 (λb=>Y b∨N<=b) v2 (cs.map (·.1)++l)/\w.grownBy w3 v.ownBlock:=by
 obtain⟨i0,hi,z,i,A⟩:=Dw Tryz.infoPair;obtain⟨a',c',e,hl,hq⟩:=hq;simp at e;obtain⟨rfl,rfl,rfl⟩:=e;by_cases h0:l=[]
 ·subst h0;obtain⟨va,vc,B,C,_⟩:=h.qv;refine⟨v,w,?_,by simpa using h.qv,⟨rfl,rfl,rfl,Af _,λ_ _ _=>rfl⟩⟩;subst B;have hle:=C.2;simp only[GH] at hle;cases va<;>cases a<;>simp[Builtin.append_,Fr underlying56,sizeOf,typeInfo,hi,i,Builtin.lenOf,Builtin.firstCells,hle,Result.andThen,storeCells,loadCells,loadCellsFrom]
 ·obtain⟨b,o,rfl,ak,hc⟩:=hq.resolve_left h0;obtain⟨d,e1,e2,e3⟩:=OJ l b o hc;have hlen:l.length=d.length:=by rw[<-e1]; simp
  have hp:0<d.length:=by rw[<-hlen]; exact GY.2 h0
  have D:=h.own.lt;obtain⟨g,cap,w3,E,ho,f,m,al⟩:=run_append_lies (P:=prog) (w:=w) 56 56 N 89 i0 _ 4 80 underlying56 hi z i A rfl (by decide) v cs.length (Dg cs) h.own
   (zD b o) d.length c (Dg d) (RB d) (λj u F=>by have:=e2 j u F; by_cases q:j=0; subst q; simpa [Addr.add] using this; simpa [Addr.add,q] using this) (Um d) hp (by unfold maxLen; omega) (by omega) t _ rfl
  have G:Ez w3 N Y (.slice (some (zD g 0)) (cs.length+d.length) cap) (cs++d):=by
   have an:N<=g:=by
    rcases m with e|e
    ·exact(D g e).1
    ·omega
   have r:∀b,Y b->some b≠v.ownBlock:=λb hb=>h.ne (x b hb);refine⟨by rw[Mu]; simpa using ho,λy hy=>?_⟩;rcases BN.1 hy with hy|hy
   ·have s:∀(a:Option Addr) (k:List Tm),Sl w (λb=>Y b∨(N<=b/\some b≠v.ownBlock)) a k->Sl w3 (λb=>Y b∨(N<=b/\some b≠(Value.slice (some (zD g 0)) (cs.length+d.length) cap).ownBlock)) a k:=λa k h0=>by
     have h1:Sl w (λb=>(Y b∨(N<=b/\some b≠v.ownBlock))/\b<w.heap.size) a k:=h0.mono λb h1 h2=>⟨h1,h2⟩;refine(h1.kept λb hx=>f.block b hx.2 ?_).mono λb hx _=>?_
     ·rcases hx.1 with hy|hy
      ·exact r b hy
      ·exact hy.2
     ·rcases hx.1 with hy|hy
      ·exact Ad hy
      ·refine Ae ⟨hy.1,λe=>?_⟩;simp[Value.ownBlock]at e;rcases m with e'|e'
       ·exact hy.2 (by rw[e',e])
       ·omega
    exact⟨s _ _ (h.row y hy).1,s _ _ (h.row y hy).2⟩
   ·have new:∀(a:Option Addr) (k:List Tm),Sl w Y a k->Sl w3 (λb=>Y b∨(N<=b/\some b≠(Value.slice (some (zD g 0)) (cs.length+d.length) cap).ownBlock)) a k:=λa k h0=>by
     have h1:Sl w (λb=>Y b/\b<w.heap.size) a k:=h0.mono λb h1 h2=>⟨h1,h2⟩;exact(h1.kept λb hx=>f.block b hx.2 (r b hx.1)).mono λb hx _=>Ad hx.1
    exact⟨new _ _ (e3 y hy).1,new _ _ (e3 y hy).2⟩
  refine⟨_,w3,by rw[hlen]; exact E,?_,f⟩;have:=G.qv;rw[Db,e1]at this;exact this
theorem Z0 (b o n a:Nat) (hn:n+1<=a) (w':World):Sem.run prog (Instr.slice 56 (.slice (some (zD b o)) (n+1) a) (some (zA 1)) none none) w'=.ok (.slice (if a=1 then some (zD b o) else some ⟨b,o+4,none⟩) n (a-1)) w':=by
 have ab:(1:Int)<=(n:Int)+1:=by omega
 have e1:(1:Int)<=((n+1:Nat):Int):=by omega
 rw[run_slice_l (P:=prog) (ht:=underlying56) (h0:=by omega) (h1:=e1)];by_cases c:a=1
 ·subst c;simp[go_sem,sliced]
 ·simp[go_sem,sliced,c]
theorem QV.tail {a:Nat} (h:QV w X (.slice (some (zD b o)) n a) (p::l)):QV w X (.slice (if a=1 then some (zD b o) else some ⟨b,o+4,none⟩) l.length (a-1)) l:=by
 obtain⟨a',c',e,⟨d,f⟩,hq⟩:=h;simp at e;obtain⟨rfl,rfl,rfl⟩:=e;simp only[Cl] at d f;refine⟨_,_,rfl,⟨by omega,by omega⟩,?_⟩;by_cases h0:l=[]
 ·exact Ad h0
 ·have hp:0<l.length:=GY.2 h0;rcases hq with hq|⟨b',o',e,g,hq⟩
  ·cases hq
  ·simp at e;obtain⟨rfl,rfl⟩:=e;refine Ae ⟨b,o+4,by rw[Am (by omega)],g,λi hi=>?_⟩;have c:=hq (i+1) (by simpa using hi);simp only[FG] at c;rw[show o+(i+1)*4=o+4+i*4 by omega]at c;exact c
