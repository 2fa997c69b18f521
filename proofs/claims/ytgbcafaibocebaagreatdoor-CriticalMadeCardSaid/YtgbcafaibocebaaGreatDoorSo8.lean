import Derived.Test.YtgbcafaibocebaaGreatDoorZGCriticalMadeOwn
import Derived.Maps.OwnIn
import Derived.Maps.AppendAt
import Derived.Sort.LoopGhostIn
namespace Go.Proofs.YtgbcafaibocebaaGreatDoor
set_option linter.all false
set_option maxRecDepth 20000
set_option maxHeartbeats 8000000
open Go.RowKit Go.Shelf Go.Proofs.Tryz
attribute [local go_sem] G7
def Hq (w:World) (x:Yx):Prop:=Sl w (λb=>b<w.heap.size) x.2.2.1.1 x.2.1.l.args/\Sl w (λb=>b<w.heap.size) x.2.2.2.1 x.2.1.r.args
def LA (w:World) (pre:List { x:Yx // Hq w x}) (W:World):Prop:=
 ∃(td:Value) (cs:List Ec),Ac W (w.heap.size+1) #[td,.map (some w.heap.size),.bool false] 148/\Bm W w.heap.size []/\W.ownsRow (w.heap.size+3) 153 5 td cs.length (CZ cs)/\(∀x∈cs,Sl W (λb=>b<w.heap.size) x.1.2.1.1 x.1.1.l.args/\Sl W (λb=>b<w.heap.size) x.1.2.2.1 x.1.1.r.args)/\cs.map Dk=pre.map (λx=>(x.1.2.1,0))/\Below w.heap.size w W/\w.heap.size+3<=W.heap.size
theorem ZL (w:World):OwnFrom (w.heap.size+3) (LA w):=by
 intro pre W W' row i a d;obtain⟨j,cs,h1,h2,h3,f,k,h6,h7⟩:=i;have ab:=a.size;have c:∀b,b<w.heap.size+3->some b≠row:=λb hb e=>by have:=(d b e.symm).1; omega
 refine⟨j,cs,h1.grown a (c _ (by omega)),h2.kept (a.block _ (by omega) (c _ (by omega))),DP h3 λg aa=>?_,λx hx=>⟨(f x hx).1.kept λb hb=>a.block b (by omega) (c b (by omega)),(f x hx).2.kept λb hb=>a.block b (by omega) (c b (by omega))⟩,k,?_,by omega⟩
 ·refine a.block g (h3.lt g aa).2 λe=>?_;obtain⟨_,o,ho,hc⟩:=d g e.symm;rcases h3.2 with ⟨hv,_⟩|⟨g',cap,cur,hv,_,h,_⟩
  ·rw[hv]at aa; simp[Value.ownBlock] at aa
  ·rw[hv]at aa;have l:g'=g:=(by simpa [Value.ownBlock] using aa);subst l;rw[ho]at h;cases h;simp[Obj.isCells]at hc
 ·exact⟨a.os.trans h6.os,a.tape.trans h6.tape,a.output.trans h6.output,by have:=h6.size; omega,λb hb=>(a.block b (by omega) (c b (by omega))).trans (h6.block b hb)⟩
theorem RY {w:World} {N e s n:Nat} {v:Value} {xs:List Value} (h:w.ownsRow N e s v (n+1) xs):∃g cap,v=.slice (some (zD g 0)) (n+1) cap:=by
 rcases h.2 with h1|⟨g,cap,cur,hv,_⟩
 ·exact absurd h1.2 (by omega)
 ·exact⟨g,cap,hv⟩
def Fj (w:World) (A B:World):Prop:=Am (λb=>b=w.heap.size+1∨w.heap.size+3<=b) A B/\∀k,k<w.heap.size+3->k≠w.heap.size+1->B.heap[k]? = A.heap[k]?
theorem Fj.refl (w A:World):Fj w A A:=⟨Am.refl _ _,λ_ _ _=>rfl⟩
theorem Fj.trans {w A B C:World} (h:Fj w A B) (k:Fj w B C):Fj w A C:=⟨h.1.trans k.1,λi h1 h2=>(k.2 i h1 h2).trans (h.2 i h1 h2)⟩
theorem ZM {w A B:World} {b:Nat} (hb:b<=w.heap.size) (h:Fj w A B):B.heap[b]? = A.heap[b]? /\ B.heap[w.heap.size+1+1]? = A.heap[w.heap.size+1+1]? :=
 ⟨h.2 b (by omega) (by omega),h.2 _ (by omega) (by omega)⟩
theorem ZN {w W:World} {l:Nat} {o':Obj} (hl:w.heap.size+3<=l):Fj w W (W.putObj l o'):=
 ⟨⟨rfl,rfl,rfl,by simp,λk _ hn=>World.putObj_heap_other (λe=>hn (Ae (by omega)))⟩,λk h1 h2=>World.putObj_heap_other (by omega)⟩
theorem ZO {w W w3:World} {pre:List { x:Yx // Hq w x}} {x:{ x:Yx // Hq w x}} {i d:Value} {cs:List Ec} {o:Obj} (m:Ac W (w.heap.size+1) #[i,.map (some w.heap.size),.bool false] 148) (i2:Bm W w.heap.size []) (i3:W.ownsRow (w.heap.size+3) 153 5 i cs.length (CZ cs)) (i4:∀x∈cs,Sl W (λb=>b<w.heap.size) x.1.2.1.1 x.1.1.l.args/\Sl W (λb=>b<w.heap.size) x.1.2.2.1 x.1.1.r.args) (i5:cs.map Dk=pre.map (λx=>(x.1.2.1,0))) (c:Below w.heap.size w W) (i7:w.heap.size+3<=W.heap.size)
  (ho:w3.ownsRow (w.heap.size+3) 153 5 d (cs.length+1) (CZ cs++EU (x.1.2,0))) (a:(W.alloc o).grownBy w3 i.ownBlock):
  KeepsFrom (w.heap.size+3) W (w3.setCell (zD (w.heap.size+1) 0) d)/\Fj w W (w3.setCell (zD (w.heap.size+1) 0) d)/\LA w (pre++[x]) (w3.setCell (zD (w.heap.size+1) 0) d):=by
 have ab:=a.size;simp at ab;have h:∀b,b<w.heap.size+3->some b≠i.ownBlock:=λb hb e=>by have:=(i3.lt b e.symm).1; omega
 have h3:∀k,k<W.heap.size->some k≠i.ownBlock->w3.heap[k]? = W.heap[k]? := λk h1 h2=>(a.block k (by simp; omega) h2).trans (AL _ _ _ h1);have f:∀k,k≠w.heap.size+1->(w3.setCell (zD (w.heap.size+1) 0) d).heap[k]? = w3.heap[k]? := λk hk=>Aq _ _ _ _ (by simpa using hk);have hz:(w3.setCell (zD (w.heap.size+1) 0) d).heap.size=w3.heap.size:=by simp[World.setCell]
 refine⟨⟨by omega,λk ob hk j hc=>?_⟩,⟨⟨?_,?_,?_,by omega,λk h1 h2=>?_⟩,λk h1 h2=>(f k h2).trans (h3 k (by omega) (h k h1))⟩,?_⟩
 ·have n:k<W.heap.size:=(DV.1 j).1;rw[f k (by omega),h3 k n λe=>?_,j];rcases i3.2 with ⟨hv,_⟩|⟨g',cap,cur,hv,_,aa,_⟩
  ·rw[hv]at e; simp[Value.ownBlock] at e
  ·rw[hv]at e;have q:k=g':=(by simpa [Value.ownBlock] using e);subst q;rw[j]at aa;cases aa;simp[Obj.isCells]at hc
 ·exact a.os
 ·exact a.tape
 ·exact a.output
 ·have s:k<w.heap.size+3:=(by apply Hw;intro hn;exact h2 (Ae (by omega)));exact(f k (λe=>h2 (Ad e))).trans (h3 k h1 (h k s))
 ·refine⟨d,cs++[(x.1.2,0)],?_,i2.kept ((f _ (by omega)).trans (h3 _ (by omega) (h _ (by omega)))),?_,λy hy=>?_,?_,?_,by omega⟩
  ·have:=(((m.alloc o).grown a (h _ (by omega))).set 0 d);simpa using this
  ·rw[Dx,J8];have t:CZ [(x.1.2,0)]=EU (x.1.2,0):=(by simp[CZ]);rw[t];exact DP ho λg u=>f g (by have:=(ho.lt g u).1; omega)
  ·rcases Bg.1 hy with hy|hy
   ·exact⟨(i4 y hy).1.kept λb hb=>(f b (by omega)).trans (h3 b (by omega) (h b (by omega))),(i4 y hy).2.kept λb hb=>(f b (by omega)).trans (h3 b (by omega) (h b (by omega)))⟩
   ·have e:y=(x.1.2,0):=(by simpa using hy);subst e;have hb2:Below w.heap.size w (w3.setCell (zD (w.heap.size+1) 0) d):=⟨a.os.trans c.os,a.tape.trans c.tape,a.output.trans c.output,by have:=c.size; omega,λb hb=>((f b (by omega)).trans (h3 b (by omega) (h b (by omega)))).trans (c.block b hb)⟩;exact⟨x.2.1.later hb2,x.2.2.later hb2⟩
  ·rw[Cr,Cr,i5]; rfl
  ·exact⟨a.os.trans c.os,a.tape.trans c.tape,a.output.trans c.output,by have:=c.size; omega,λb hb=>((f b (by omega)).trans (h3 b (by omega) (h b (by omega)))).trans (c.block b hb)⟩
def Ny (S q:Nat) (R:Int×List Bd) (ev:Value) (wr:World):Prop:=
 ∃(code:Int) (h:List (ByteArray×Tm)) (f:Bool) (Y:Nat->Prop) (td:Value),ev=zA code/\Cg S q td h f Y wr/\Ca h/\Gp h/\h.length<=1000000/\(R=(code,Ak h)∨(AF (Ak h)=true/\AF R.2=true))/\(code≠0∨(code=0/\∃a c,td=.slice a 0 c))
def RZ (S q N:Nat) (V:List ByteArray) (R:Int×List Bd) (g:Nat) (wr:World):Prop:=
 ∃(h:List (ByteArray×Tm)) (cs:List Ec),J9 S q N h cs wr/\UI V h ((cs.map Dk).reverse.map (·.1))/\(∀y∈cs.map Dk,y.2<=h.length/\(y.2=h.length->Ag (Ak h) y.1.l=y.1.l/\Ag (Ak h) y.1.r=y.1.r))/\AU false g (Ak h) ((cs.map Dk).reverse.map (·.1))=some R
def Nz (w:World) (S q N:Nat) (V:List ByteArray) (R:Int×List Bd) (D:Nat) (g:Nat) (ev:Value) (wr:World):Prop:=
 wr.heap[D]? = some (.deferred (some []))/\Below w.heap.size w wr/\((ev=zA 0/\RZ S q N V R g wr)∨Ny S q R ev wr)
def ZP (S q N:Nat) (V:List ByteArray) (R:Int×List Bd) (g:Nat) (wr:World):Prop:=
 ∃(h:List (ByteArray×Tm)) (cs:List Ec) (x:Ec),J9 S q N h (cs++[x]) wr/\UI V h (x.1.1::(cs.map Dk).reverse.map (·.1))/\(x.2<=h.length/\(x.2=h.length->Ag (Ak h) x.1.1.l=x.1.1.l/\Ag (Ak h) x.1.1.r=x.1.1.r))/\(∀y∈cs.map Dk,y.2<=h.length/\(y.2=h.length->Ag (Ak h) y.1.l=y.1.l/\Ag (Ak h) y.1.r=y.1.r))/\AU false g (Ak h) (x.1.1::(cs.map Dk).reverse.map (·.1))=some R
theorem ZQ {S q N:Nat} {V:List ByteArray} {R:Int×List Bd} {g:Nat} {c:Value} {wr:World} (hV:V.length<=400000) (h:(c=zA 0/\RZ S q N V R g wr)∨Ny S q R c wr):Ny S q R c wr∨(c=zA 0/\ZP S q N V R g wr):=by
 rcases h with ⟨rfl,h,cs,d,a,hb,b⟩|h
 ·rcases List.eq_nil_or_concat cs with rfl|⟨cs,x,rfl⟩
  ·left;obtain⟨e,Y,f,i,hY,_⟩:=d;refine⟨0,h,false,Y,e,rfl,f,a.good,a.names,by have:=a.hlen; omega,Ad ?_,Ae ⟨rfl,?_⟩⟩
   ·cases g with
    |zero=>cases b
    |succ g=>simp[AU,Ez]at b;exact b.symm
   ·rcases i.own.2 with ⟨h1,_⟩|⟨g,cap,cur,h1,_⟩
    ·exact⟨_,_,h1⟩
    ·exact⟨_,_,h1⟩
  ·right;rw[List.concat_eq_append]at *;simp only[Cr,Cb,Hy,List.reverse_append,List.reverse_cons,List.reverse_nil,D9,List.singleton_append] at a b hb;exact⟨rfl,h,cs,x,d,a,hb (Dk x) (by simp),λy hy=>hb y (by simp[hy]),b⟩
 ·exact Ad h
theorem ZR {w:World} {N n g cap:Nat} {cs:List Ec} {x:Ec} (hn:cs.length=n) (h:w.ownsRow N 153 5 (.slice (some (zD g 0)) (n+1) cap) (n+1) (CZ (cs++[x]))):w.ownsRow N 153 5 (.slice (some (zD g 0)) n cap) n (CZ cs):=by
 subst hn;refine⟨Lx cs,Ae ?_⟩;rcases h.2 with ⟨h1,_⟩|⟨g',aa,cur,h1,h2,h3,h4,a,h6,b⟩
 ·cases h1
 ·simp at h1;obtain⟨rfl,rfl⟩:=h1;refine⟨g,cap,cur,rfl,h2,h3,by omega,a,h6,?_⟩;have h8:(cur.toList.take ((cs.length+1)*5)).take (cs.length*5)=(CZ (cs++[x])).take (cs.length*5):=by rw[b]
  rw[List.take_take,Nat.min_eq_left (by omega),J8,G6 (by rw[Lx]; omega),AX (l:=CZ cs) (by rw[Lx]; omega)]at h8;exact h8
theorem ZS {w wr n:World} {S q N:Nat} {V:List ByteArray} {R:Int×List Bd} {D g:Nat} {h:List (ByteArray×Tm)} {cs:List Ec} {x:Ec} {aa:Value} {w3:World} {e:Ending} (hV:V.length<=400000) (c:UI V h (x.1.1::(cs.map Dk).reverse.map (·.1))) (hb:∀y∈cs.map Dk,y.2<=h.length/\(y.2=h.length->Ag (Ak h) y.1.l=y.1.l/\Ag (Ak h) y.1.r=y.1.r)) (a:AU false g (Ak h) (x.1.1::(cs.map Dk).reverse.map (·.1))=some R)
  (o:w3.heap[D]? = some (.deferred (some []))) (F:D≠S) (G:D≠q) (H:some D≠aa.ownBlock) (d:Below w.heap.size w w3) (hS:w.heap.size<=S) (hq:w.heap.size<=q) (ht:∀b,some b=aa.ownBlock->w.heap.size<=b)
  (hp:RT S q N h cs (Ag (Ak h) x.1.1.l) (Ag (Ak h) x.1.1.r) aa w3 e n):∃(code:Int) (g1:Nat),e=.returned (zA code)/\g1<g/\Nz w S q N V R D g1 (zA code) n:=by
 obtain⟨code,rfl,hx,ab⟩:=hp;have I:D<w3.heap.size:=(DV.1 o).1;cases g with
 |zero=>cases a
 |succ g=>
  refine⟨code,g,rfl,D8 _,(hx.block D I (λi=>?_)).trans o,⟨hx.os.trans d.os,hx.tape.trans d.tape,hx.output.trans d.output,AY d.size hx.size,λk hk=>(hx.block k (Cn hk d.size) (λi=>?_)).trans (d.block k hk)⟩,?_⟩
  ·rcases i with h1|h1|h1
   ·exact F h1
   ·exact G h1
   ·exact H h1
  ·rcases i with h1|h1|h1
   ·omega
   ·omega
   ·have:=ht k h1; omega
  ·have J:=a;rw[AU,E8]at a;rcases ab with ⟨L,M,Y',O,s,hw⟩|⟨rfl,u,v,h',A,new,P,B,T,hcs⟩
   ·right;refine⟨code,h,M,Y',O,rfl,s,c.good,c.names,by have:=c.hlen; omega,?_,Ad L⟩;rcases hw with rfl|hw
    ·have C:=s.2.2.2.2 rfl;exact Ae ⟨C,Mv _ _ _ R.1 R.2 (by rw[J]) C⟩
    ·rw[hw]at a;simp at a;exact Ad a.symm
   ·left;rw[T]at a;have E:(A.map Dk).reverse.map (·.1)=new++(cs.map Dk).reverse.map (·.1):=by
     rw[B];simp[List.map_reverse,Function.comp_def]
    refine⟨rfl,h',A,P,?_,?_,by rw[E]; exact a⟩
    ·rw[E];rcases hcs with ⟨rfl,rfl⟩|⟨rfl,y,t,rfl,hv,j,ho⟩|⟨rfl,rfl,f⟩
     ·exact c.drop
     ·exact(c.bindV hv (by rcases j with ⟨h1,h2⟩|⟨h1,h2⟩; exact Ad ⟨h1,h2⟩; exact Ae ⟨h1,h2⟩) ho).2
     ·exact(c.deep u v f).1
    ·rw[B];intro y hy;rcases Bg.1 hy with m|hy
     ·clear hy;rcases hcs with ⟨rfl,rfl⟩|⟨rfl,z,t,rfl,hv,j,ho⟩|⟨rfl,rfl,f⟩
      ·exact hb y m
      ·have:=(hb y m).1;refine⟨by simp; omega,λe=>?_⟩;simp at e; omega
      ·exact hb y m
     ·obtain⟨p,hp,rfl⟩:=Ce.1 hy;rcases hcs with ⟨rfl,rfl⟩|⟨rfl,z,t,rfl,hv,j,ho⟩|⟨rfl,rfl,f⟩
      ·simp at hp
      ·simp at hp
      ·exact⟨Ai _,λ_=>(c.deep u v f).2 p (by simpa using hp)⟩
theorem ZT {w W:World} {pre:List { x:Yx // Hq w x}} (h:LA w pre W):∃cs:List Ec,J9 (w.heap.size+1) w.heap.size (w.heap.size+3) [] cs W/\cs.map Dk=pre.map (λx=>(x.1.2.1,0))/\Below w.heap.size w W:=by
 obtain⟨a,cs,c,i2,i3,i4,i5,d,f⟩:=h;refine⟨cs,⟨a,λb=>b=w.heap.size+1∨b=w.heap.size,⟨⟨[],c,i2,by simp,λi hi=>by simp at hi⟩,Ad rfl,Ae rfl,λb hb=>by rcases hb with rfl|rfl<;>omega,by simp⟩,⟨i3,λx hx=>⟨(i4 x hx).1.mono λb hb _=>Ad ⟨by omega,by omega,by omega⟩,(i4 x hx).2.mono λb hb _=>Ad ⟨by omega,by omega,by omega⟩⟩⟩,λb hb e=>?_,by omega,by omega,f⟩,i5,d⟩;have:=(i3.lt b e.symm).1;rcases hb with rfl|rfl<;>omega
def LB (R:Int×List Bd) (w:World) (e:Ending) (w':World):Prop:=
 Below w.heap.size w w'/\((AF R.2=true/\e=.returned (.tuple #[zB,zA 8]))∨(AF R.2=false/\R.1≠0/\e=.returned (.tuple #[zB,zA R.1]))∨(AF R.2=false/\R.1=0/\∃v,e=.returned (.tuple #[v,zA 0])/\BV w' (λb=>w.heap.size<=b) v R.2))
theorem ZU (g n:Nat):((zD g 0):Addr).add n=(zD g n):=by
 unfold Addr.add;simp;intro e;omega
theorem BH {w wr W:World} {v:Value} (h:Below w.heap.size w wr) (hz:(wr.setCell (zD (w.heap.size+1) 0) v).heap.size=wr.heap.size) (hb:Below (wr.setCell (zD (w.heap.size+1) 0) v).heap.size (wr.setCell (zD (w.heap.size+1) 0) v) W):Below w.heap.size w W:=by
 have hs:=h.size;have aa:=hb.size;exact⟨hb.os.trans h.os,hb.tape.trans h.tape,hb.output.trans h.output,by omega,λk hk=>(hb.block k (by omega)).trans ((Aq _ _ _ _ (by simp; omega)).trans (h.block k hk))⟩
theorem LC {w wr a:World} {D:Nat} (hD:w.heap.size+3<=D) (h:wr.heap[D]? = some (.deferred (some []))) (hx:Am (Ci (w.heap.size+1) w.heap.size) wr a):a.heap[D]? = some (.deferred (some [])):=
 (hx.block D (DV.1 h).1 (λb=>by rcases b with e|e<;>omega)).trans h
theorem LD {w wr a:World} {D:Nat} (hD:w.heap.size+3<=D) (h:Below w.heap.size w wr) (hx:Am (Ci (w.heap.size+1) w.heap.size) wr a) (o:Obj):Below w.heap.size w (a.putObj D o):=
 ⟨hx.os.trans h.os, hx.tape.trans h.tape, hx.output.trans h.output, by rw [World.putObj_size]; exact AY h.size hx.size, λk hk => by
  rw[World.putObj_heap_other (by omega),hx.block k (Cn hk h.size) (λb=>by rcases b with e|e<;>omega),h.block k hk]⟩
theorem R8 {R:Int×List Bd} {code:Int} {s:List Bd} (h:R=(code,s)∨(AF s=true/\AF R.2=true)) (a:AF s=true):AF R.2=true:=by
 rcases h with rfl|h
 ·exact a
 ·exact h.2
theorem Sa {R:Int×List Bd} {code:Int} {s:List Bd} (h:R=(code,s)∨(AF s=true/\AF R.2=true)) (a:AF s=false):R=(code,s)/\AF s=false:=by
 rcases h with rfl|h
 ·exact⟨rfl,a⟩
 ·rw[a]at h; cases h.1
theorem Sb {h:List (ByteArray×Tm)} {w:World} {e:Ending} {w':World} (hc:(AF (Ak h)=true/\e=.returned (.tuple #[zB,.bool false]))∨(AF (Ak h)=false/\∃v,e=.returned (.tuple #[v,.bool true])/\BV w' (λb=>w.heap.size<=b) v (Ak h))):
  ∃v ok,e=.returned (.tuple #[v,.bool ok])/\((AF (Ak h)=true/\ok=false)∨(AF (Ak h)=false/\ok=true/\BV w' (λb=>w.heap.size<=b) v (Ak h))):=by
 rcases hc with ⟨h1,rfl⟩|⟨h1,v,rfl,h2⟩
 ·exact⟨_,_,rfl,Ad ⟨h1,rfl⟩⟩
 ·exact⟨_,_,rfl,Ae ⟨h1,rfl,h2⟩⟩
theorem Sc (aC:Hid Nr) (n:Nat) (hn:6<=n) (b o:Nat) (a:Option Addr) (xs:List Pc) (c:Nat) (ha:xs=[]∨a=some (zD b o)) (bn:xs.length<=40) (V:List ByteArray) (hV:V.length<=400000) (hU:UI V [] (xs.map (·.1))) (R:Int×List Bd) (g0:Nat) (ax:AU false g0 [] (xs.map (·.1))=some R) (w:World) (aU:b<=w.heap.size) (hbx:xs=[]∨b<w.heap.size) (hL:Nv w b o xs) (hS:∀x∈xs,Sl w (λb=>b<w.heap.size) x.2.1.1 x.1.l.args/\Sl w (λb=>b<w.heap.size) x.2.2.1 x.1.r.args):
  CallsIn Fence.wide n prog 94 #[.slice a xs.length c] w λe w'=>LB R w e w':=by
 have h1:1<=n:=by omega
 have bo:=@run_makeMap prog;refine callsIn_of_wp_marks func94 rfl trivial ?_ rfl;simp only[ntmps94,List.size_toArray,Bu,E4,Nat.reduceAdd,Nat.reduceSub,L9,Ma,List.push_toArray,Mb,D9,Cj];have bp:Fence.wide.fn 108:=trivial;have bq:Fence.wide.fn 110:=trivial;have br:Fence.wide.fn 109:=trivial;gi_wp2_with (gi_at_call 108; refine(ZE Fence.wide (n-1) trivial rfl _ _ ⟨_,_,_,rfl⟩).mono ?_; rintro e w' ⟨rfl,rfl⟩)
 have hP:∀k (h:k<xs.length),Hq w ((k:Int),xs[k]):=λk h=>hS _ (AN h);have aD:(((w.alloc (.map #[] 0)).alloc (.cells #[zB,.map (some w.heap.size),.bool false] 148)).alloc (.cells #[.slice a xs.length c] 23)).heap.size=w.heap.size+3:=by simp
 have aE:Below w.heap.size w (((w.alloc (.map #[] 0)).alloc (.cells #[zB,.map (some w.heap.size),.bool false] 148)).alloc (.cells #[.slice a xs.length c] 23)):=((((Af _ w).alloc (Ai _) _).alloc (by simp) _).alloc (by simp; omega) _);have aV:Ac (((w.alloc (.map #[] 0)).alloc (.cells #[zB,.map (some w.heap.size),.bool false] 148)).alloc (.cells #[.slice a xs.length c] 23)) (w.heap.size+1) #[zB,.map (some w.heap.size),.bool false] 148:=(by have h1:=(Ac.new (w.alloc (.map #[] 0)) #[zB,.map (some w.heap.size),.bool false] 148).alloc (.cells #[.slice a xs.length c] 23);rw[CW]at h1;exact h1);have aW:Bm (((w.alloc (.map #[] 0)).alloc (.cells #[zB,.map (some w.heap.size),.bool false] 148)).alloc (.cells #[.slice a xs.length c] 23)) w.heap.size []:=(Bm.new w).kept (by rw[AL _ _ _ (by simp; omega),AL _ _ _ (by simp)]);have ay:(((w.alloc (.map #[] 0)).alloc (.cells #[zB,.map (some w.heap.size),.bool false] 148)).alloc (.cells #[.slice a xs.length c] 23)).cell? (zD (w.heap.size+1+1) 0)=some (.slice a xs.length c):=(by have h1:=(Ac.new ((w.alloc (.map #[] 0)).alloc (.cells #[zB,.map (some w.heap.size),.bool false] 148)) #[.slice a xs.length c] 23).cell 0;rw[CW,CW]at h1;exact h1);generalize (((w.alloc (.map #[] 0)).alloc (.cells #[zB,.map (some w.heap.size),.bool false] 148)).alloc (.cells #[.slice a xs.length c] 23))=W0 at *;refine wpIn_rangeFunc_ownH rfl h1 (gf:=126) (lb:=#[.pointer (some (zD (w.heap.size+1+1) 0))]) rfl trivial (enters_of func126 (by kernel_rfl) rfl)
  (ZH Fence.wide (n-1) trivial rfl (by omega) (P:=Hq w) (Kp:=Fj w) (λA=>Fj.refl _ _) (λh k=>Fj.trans h k) (w.heap.size+1+1) b o c (fun {A B} h=>ZM aU h) a xs hP ha (by omega) W0 (by omega) (by omega) ay (λj u hj=>by (rcases hbx with rfl|hbx); (simp[CT] at hj); rw[aE.cell (p:=(zD _ _)) (by simpa using hbx)]; exact hL j u hj))
  (λh k=>Fj.trans h k) (λW l o o' hl ho _ _=>ZN (by omega)) (Af _ _) (λ_=>rfl)
  (LA w) (λ_ _ _=>False) (by rw[aD]; exact ZL w) (λ_ _ _ _ _ hs _ _=>hs) ⟨zB,[],aV,aW,Gy _ _ _ _,by simp,by simp,aE,by omega⟩
  (λx a' W=>∃d,w.heap.size+3<=d/\Ac W d #[.string x.1.2.1.l.name,.slice x.1.2.2.1.1 x.1.2.1.l.args.length x.1.2.2.1.2,.string x.1.2.1.r.name,.slice x.1.2.2.2.1 x.1.2.1.r.args.length x.1.2.2.2.2] 38/\a'={ tmps:=#[.slice a xs.length c,undef,zB,zA 0,zC (w.heap.size+1),undef,zC d,undef,undef,undef,undef,undef,.map (some w.heap.size),.agg #[zB,.map (some w.heap.size),.bool false],.slice a xs.length c,.func (.func 126) #[] #[.pointer (some (zD (w.heap.size+1+1) 0))],zA x.1.1,.agg #[.string x.1.2.1.l.name,.slice x.1.2.2.1.1 x.1.2.1.l.args.length x.1.2.2.1.2,.string x.1.2.1.r.name,.slice x.1.2.2.2.1 x.1.2.1.r.args.length x.1.2.2.2.2],undef,undef,undef,undef,undef,undef,undef,undef,undef,undef,undef,undef,undef,undef,undef,undef,undef,undef,undef,undef,undef,undef,undef,undef,undef,undef,undef,undef,undef,undef,undef,undef,undef,undef,undef,undef,undef,undef,undef,undef,undef,undef,undef,undef],defers:=[]})
  (λx a' _ X Y row hs M hr=>by
   obtain⟨d,h1,h2,h3⟩:=hs;refine⟨d,h1,h2.grown M (λe=>?_),h3⟩;obtain⟨_,o,ho,hc⟩:=hr d e.symm;unfold Ac at h2;rw[ho]at h2;cases h2;simp[Obj.isCells]at hc) ?assign ?body ?done ?stop
 case assign=>
  rintro l pre x W K F hK;dsimp only[Lz];gi_wp2
  obtain⟨C,cs,G,i2,i3,i4,i5,i6,i7⟩:=F;refine hK _ _ ((KeepsOthers.alloc _ _).from _) ⟨(Am.refl _ _).alloc _,λk h1 h2=>AL _ _ _ (by omega)⟩ ⟨C,cs,G.alloc _,i2.kept (AL _ _ _ (by omega)),i3.alloc _,λy hy=>⟨(i4 y hy).1.later ((Af _ _).alloc (Ai _) _),(i4 y hy).2.later ((Af _ _).alloc (Ai _) _)⟩,i5,i6.alloc (by omega) _,by simp; omega⟩ ⟨W.heap.size,i7,Ac.new W _ _,rfl⟩
 case body=>
  rintro l pre x a' W hl hr F ⟨d,bs,N,rfl⟩ hlt;obtain⟨C,cs,G,i2,i3,i4,i5,i6,i7⟩:=F;obtain⟨⟨xi,⟨m,⟨xa,xc⟩,⟨ya,yc⟩⟩⟩,O,aF⟩:=x;dsimp only at N O aF ⊢;have s0:=G.c0;have p0:W.cell? (zD d 0)=some (.string m.l.name):=N.cell 0;have p1:W.cell? (zD d 1)=some (.slice xa m.l.args.length xc):=N.cell 1;have p2:W.cell? (zD d 2)=some (.string m.r.name):=N.cell 2;have p3:W.cell? (zD d 3)=some (.slice ya m.r.args.length yc):=N.cell 3;obtain⟨i0,aX,aY,ar,aZ⟩:=CE Tryz.infoEq;have bt:cs.length<=40:=by have:=Bx List.length i5; simp at this; omega
  gi_wp2_with (gi_at_builtin; go_loud (refine wpListIn_append_own_at _ rfl (.tmp 19) (.tmp 25) 146 rfl (w.heap.size+3) 153 i0 _ 5 88 underlying146 aX aY ar aZ rfl (by decide) C cs.length (CZ cs) rfl (i3.alloc _) (zD W.heap.size 0) 1 1 [.string m.l.name,.slice xa m.l.args.length xc,.string m.r.name,.slice ya m.r.args.length yc,zA 0] rfl rfl (Nt _ _ _ _ _ _ _) (λu hu=>by simp at hu; rcases hu with rfl|rfl|rfl|rfl|rfl<;>rfl) (by unfold maxLen; omega) (by omega) (by simp; omega) ?_); intro v' w3 ho M _ bu; obtain⟨g',aj,rfl⟩:=RY ho; have s3:w3.cell? (zD (w.heap.size+1) 0)=some C:=((G.alloc _).grown M (λe=>by have:=(i3.lt _ e.symm).1; omega)).cell 0; have f3:w3.frozen? (zD (w.heap.size+1) 0)=false:=((G.alloc _).grown M (λe=>by have:=(i3.lt _ e.symm).1; omega)).frozen 0)
  have az:=ZO (x:=⟨(xi,m,(xa,xc),ya,yc),O,aF⟩) G i2 i3 i4 i5 i6 i7 ho M;rw[aD];exact az
 case done=>
  rintro D ys W hD rfl F aG;have aH:Nz w (w.heap.size+1) w.heap.size (w.heap.size+3) V R D g0 (zA 0) W:=by
   obtain⟨cs,hT,hC,q⟩:=ZT F;have e1:(cs.map Dk).reverse.map (·.1)=xs.map (·.1):=by
    have e2:=RX (P:=Hq w) (xs:=xs) (hP:=hP) xs.length (Ai _);rw[hC,<-List.map_reverse,List.map_map,List.map_reverse];have e3:((λx:Pr×Nat=>x.1)∘λx:{ x:Yx // Hq w x}=>(x.1.2.1,0))=λx=>x.1.2.1:=rfl;rw[e3,e2,E5,List.reverse_reverse]
   refine⟨aG,q,Ad ⟨rfl,[],cs,hT,by rw[e1]; exact hU,?_,by rw[e1]; exact ax⟩⟩;rw[hC];intro y hy;obtain⟨z,_,rfl⟩:=Ce.1 hy;exact⟨AG _,λ_=>⟨J6 (by simp[Ak]),J6 (by simp[Ak])⟩⟩
  have ba:=Aa aH;clear aH F aG;gi_wp2
  gi_loopg [7] g0 (λg ev wr=>Nz w (w.heap.size+1) w.heap.size (w.heap.size+3) V R D g ev wr)
  case atStart=>exact ba.o
  case round=>
   have v:w.heap.size+3<=D:=(by omega);obtain⟨H,au,a6⟩:=hrel;rcases ZQ hV a6 with ⟨code,h,f,Y,C,rfl,I,aI,aJ,aK,hR,ak⟩|⟨rfl,h,cs,x,hT,a7,hbx,aL,aM⟩
   ·have HE:=Aa I;have HR:=Aa hR;have E:=Aa au;have s:=Aa H;clear a6 hR au H;obtain⟨⟨L,q,hM,a8⟩,_⟩:=I;have s0:=q.c0;clear q hM a8;rcases ak with hne|⟨rfl,a0,c0,rfl⟩
    ·have bb:(code==0)=false:=DU.2 hne;have bw:(code !=0)=true:=(by simp[bne,bb]);gi_wp2_with (gi_at_call 110; refine(DW.2 (RC aC (w.heap.size+1) w.heap.size C h aI aJ aK wr Y f HE.o)).mono ?_; rintro e w5 ⟨t,T⟩; obtain⟨v5,U,rfl,aN⟩:=Sb T; clear T)
     ·have av:U=false:=(by simp_all);refine⟨by simp,.inl ⟨_,_,rfl,run_takeDeferred (LC v s.o t),?_⟩⟩;refine⟨.tuple #[zB,zA 8],by simp[results,results94,go_sem],LD v E.o t _,Ad ⟨R8 HR.o (by simp_all),rfl⟩⟩
     ·have av:U=true:=(by simp_all);have Z:=Sa HR.o (show AF (Ak h)=false by simp_all);refine⟨by simp,.inl ⟨_,_,rfl,run_takeDeferred (LC v s.o t),?_⟩⟩;refine⟨.tuple #[zB,zA code],by simp[results,results94,go_sem],LD v E.o t _,Ae (Ad ?_)⟩;rw[Z.1];exact⟨Z.2,hne,rfl⟩
    ·gi_wp2_with (gi_at_call 110; refine(DW.2 (RC aC (w.heap.size+1) w.heap.size (.slice a0 0 c0) h aI aJ aK wr Y f HE.o)).mono ?_; rintro e w5 ⟨t,T⟩; obtain⟨v5,U,rfl,aN⟩:=Sb T; clear T)
     ·have av:U=false:=(by simp_all);refine⟨by simp,.inl ⟨_,_,rfl,run_takeDeferred (LC v s.o t),?_⟩⟩;refine⟨.tuple #[zB,zA 8],by simp[results,results94,go_sem],LD v E.o t _,Ad ⟨R8 HR.o (by simp_all),rfl⟩⟩
     ·have av:U=true:=(by simp_all);have Z:=Sa HR.o (show AF (Ak h)=false by simp_all);have bc:BV w5 (λb=>wr.heap.size<=b) v5 (Ak h):=by
       rcases aN with h1|h1
       ·rw[av]at h1; cases h1.2
       ·exact h1.2.2
      refine⟨by simp,.inl ⟨_,_,rfl,run_takeDeferred (LC v s.o t),?_⟩⟩;refine⟨.tuple #[v5,zA 0],by simp[results,results94,go_sem],LD v E.o t _,Ae (Ae ?_)⟩;rw[Z.1];exact⟨Z.2,rfl,v5,rfl,(bc.kept λb hb=>World.putObj_heap_other (by have:=(DV.1 s.o).1; omega)).mono λb hb _=>AY E.o.size hb⟩
   ·obtain⟨C,Y,I,aA,hY,_,_,bx⟩:=hT;have hlen:cs.length<=900000000:=by
     have h1:=a7.llen;simp at h1;omega
    have ab:=aA.own;rw[Dx]at ab;obtain⟨g,cap,rfl⟩:=RY ab;have aq:=ZR rfl ab;have bd:cs.length+1<=cap:=by
     rcases ab.2 with ⟨h1,_⟩|⟨g',aj,cur,h1,h2,h3,h4,_⟩
     ·cases h1
     ·simp at h1;obtain⟨_,rfl⟩:=h1;simpa using h4
    obtain⟨⟨p,⟨a1,c1⟩,⟨a2,c2⟩⟩,j⟩:=x;have J:∀i u,(EU ((p,(a1,c1),(a2,c2)),j))[i]? = some u->i<5->wr.cell? ⟨g,cs.length*5+i,none⟩=some u:=λi u hu hi=>by
     have h1:=ab.cells (g:=g) rfl (cs.length*5+i) u (by rw[RN (cs++[_]) cs.length (by simp) i hi]; simpa using hu);rw[ZU]at h1;exact h1
    have k0:=J 0 _ rfl (by decide);have k1:=J 1 _ rfl (by decide);have k2:=J 2 _ rfl (by decide);have k3:=J 3 _ rfl (by decide);have k4:=J 4 _ rfl (by decide);simp only[F9] at k0;obtain⟨⟨L,q,hM,a8⟩,_⟩:=id I;have s0:wr.cell? (zD (w.heap.size+1) 0)=some (.slice (some (zD g 0)) (cs.length+1) cap):=q.cell 0;have bz:∀o,(wr.alloc o).cell? (zD (w.heap.size+1) 0)=some (.slice (some (zD g 0)) (cs.length+1) cap):=λo=>(q.alloc o).cell 0;have b0:∀o,(wr.alloc o).frozen? (zD (w.heap.size+1) 0)=false:=λo=>(q.alloc o).frozen 0;have HE:=Aa I;have aO:=Aa aA;have HY:=Aa hY;have ag:=Aa aq;have HU:=Aa a7;have aP:=Aa hbx;have bf:=Aa aL;have bg:=Aa aM;have E:=Aa au;have s:=Aa H;clear I aA hY aq a7 hbx aL aM au H q hM a8 ab J a6;gi_wp2_with fail
    have aQ:w.heap.size+1<w.heap.size+3:=(by omega);have bh:w.heap.size<w.heap.size+3:=(by omega);have aw:Below (wr.setCell (zD (w.heap.size+1) 0) (.slice (some (zD g 0)) cs.length cap)).heap.size (wr.setCell (zD (w.heap.size+1) 0) (.slice (some (zD g 0)) cs.length cap)) ((wr.setCell (zD (w.heap.size+1) 0) (.slice (some (zD g 0)) cs.length cap)).alloc (.cells #[.string p.l.name,.slice a1 p.l.args.length c1,.string p.r.name,.slice a2 p.r.args.length c2,zA j] 153)):=(Af _ _).alloc (Ai _) _;have ar:(wr.setCell (zD (w.heap.size+1) 0) (.slice (some (zD g 0)) cs.length cap)).heap.size=wr.heap.size:=(by simp[World.setCell]);have bj:C5 wr (w.heap.size+3) (λb=>b<w.heap.size+3/\b≠w.heap.size+1/\b≠w.heap.size) (.slice (some (zD g 0)) cs.length cap) cs:=⟨ag.o,λy hy=>aO.o.row y (by simp[hy])⟩;have O:=aO.o.row ((p,(a1,c1),(a2,c2)),j) (by simp);have aR:∀(aa:Option Addr) (l:List Tm),Sl wr (λb=>(b<w.heap.size+3/\b≠w.heap.size+1/\b≠w.heap.size)∨(w.heap.size+3<=b/\some b≠some g)) aa l->Sl ((wr.setCell (zD (w.heap.size+1) 0) (.slice (some (zD g 0)) cs.length cap)).alloc (.cells #[.string p.l.name,.slice a1 p.l.args.length c1,.string p.r.name,.slice a2 p.r.args.length c2,zA j] 153)) (λb=>(b<w.heap.size+3/\b≠w.heap.size+1/\b≠w.heap.size)∨(w.heap.size+3<=b/\some b≠some g)) aa l:=λaa l bk=>(bk.kept λb hb=>Aq _ _ _ _ (by
     simp;rcases hb with hb|hb
     ·exact hb.2.1
     ·omega)).later aw
    have b1:w.heap.size+3<=g/\g<wr.heap.size:=ag.o.lt g rfl;have bl:D≠g:=λe=>by
     subst e;rcases ag.o.2 with ⟨h1,_⟩|⟨g',aj,cur,h1,h2,h3,_⟩
     ·cases h1
     ·simp at h1;obtain⟨rfl,rfl⟩:=h1;rw[s.o]at h3;cases h3
    have H:D<wr.heap.size:=(DV.1 s.o).1;have WO:=ZD (w.heap.size+1) w.heap.size (w.heap.size+3) V h cs p ((cs.map Dk).reverse.map (·.1)) HU.o j aP.o.1 aP.o.2 hlen hV a1 c1 a2 c2 _ (.slice (some (zD g 0)) cs.length cap) Y ((Do _ _ _ h).below (RO HE.o (λ_ _=>rfl)) aw) ((bj.setCell aQ (λhb=>hb.2.1 rfl) _).below aw) HY.o aQ bh (by simp[World.setCell]; omega) (aR _ _ O.1) (aR _ _ O.2);refine(DW.2 WO).mono ?_;clear WO;rintro e w4 aS;obtain⟨code,g1,rfl,aB,aT⟩:=ZS (x:=((p,(a1,c1),(a2,c2)),j)) (w:=w) (wr:=wr) (D:=D) (R:=R) hV HU.o bf.o bg.o (by rw[AL _ _ _ (by rw[ar]; exact H),Aq _ _ _ _ (by simp; omega)]; exact s.o) (by omega) (by omega) (λe=>bl (by simpa [Value.ownBlock] using e)) (BH E.o ar aw) (by omega) (Ai _) (λb hb=>by (have e:b=g:=H6 hb); rw[e]; omega) aS;have bm:=Aa aT;clear aT aS;gi_wp2
    gi_roundg g1
    case rel=>exact bm.o
    case measure=>exact aB
 case stop=>rintro D c pre W _ _ h _;exact h.elim
