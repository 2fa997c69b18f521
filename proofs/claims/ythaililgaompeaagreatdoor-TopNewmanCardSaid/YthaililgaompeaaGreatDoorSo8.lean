import Derived.Test.YthaililgaompeaaGreatDoorZHTopNewmanOwn
import Derived.Maps.OwnIn
import Derived.Maps.AppendAt
import Derived.Sort.LoopGhostIn
namespace Go.Proofs.YthaililgaompeaaGreatDoor
set_option linter.all false
set_option maxRecDepth 20000
set_option maxHeartbeats 8000000
open Go.RowKit Go.Shelf Go.Proofs.Tryz
attribute [local go_sem] Ho
variable {A B W a w w3 wr:World} {D N S g n q:Nat} {e:Ending} {s:List Bd} {v:Value} {V:List ByteArray} {h:List (ByteArray×Tm)} {code:Int}
def IE (w:World) (x:Yx):Prop:=Sl w (λb=>b<w.heap.size) x.2.2.1.1 x.2.1.l.args/\Sl w (λb=>b<w.heap.size) x.2.2.2.1 x.2.1.r.args
def Ng (w:World) (pre:List { x:Yx // IE w x}) (W:World):Prop:=
 ∃(td:Value) (cs:List Ec),Ac W (w.heap.size+1) #[td,.map (some w.heap.size),.bool false] 177/\AO W w.heap.size []/\W.ownsRow (w.heap.size+3) 182 5 td cs.length (CM cs)/\(∀x∈cs,Sl W (λb=>b<w.heap.size) x.1.2.1.1 x.1.1.l.args/\Sl W (λb=>b<w.heap.size) x.1.2.2.1 x.1.1.r.args)/\cs.map C8=pre.map (λx=>(x.1.2.1,0))/\Below w.heap.size w W/\w.heap.size+3<=W.heap.size
theorem iJ (w:World):OwnFrom (w.heap.size+3) (Ng w):=by
 intro pre W W' row i a d;obtain⟨j,cs,h1,h2,h3,f,k,h6,h7⟩:=i;have ab:=a.size;have c:∀b,b<w.heap.size+3->some b≠row:=λb hb e=>by have:=(d b e.symm).1; omega
 refine⟨j,cs,h1.grown a (c _ (by omega)),h2.kept (a.block _ (by omega) (c _ (by omega))),Dc h3 λg aa=>?_,λx hx=>⟨(f x hx).1.kept λb hb=>a.block b (by omega) (c b (by omega)),(f x hx).2.kept λb hb=>a.block b (by omega) (c b (by omega))⟩,k,?_,by omega⟩
 ·refine a.block g (h3.lt g aa).2 λe=>?_;obtain⟨_,o,ho,hc⟩:=d g e.symm;rcases h3.2 with ⟨hv,_⟩|⟨g',cap,cur,hv,_,h,_⟩
  ·rw[hv]at aa; simp[Value.ownBlock] at aa
  ·rw[hv]at aa;have l:g'=g:=(by simpa [Value.ownBlock] using aa);subst l;rw[ho]at h;cases h;simp[Obj.isCells]at hc
 ·exact⟨a.os.trans h6.os,a.tape.trans h6.tape,a.output.trans h6.output,by have:=h6.size; omega,λb hb=>(a.block b (by omega) (c b (by omega))).trans (h6.block b hb)⟩
theorem Ut {e s:Nat} {xs:List Value} (h:w.ownsRow N e s v (n+1) xs):∃g cap,v=.slice (some (zD g 0)) (n+1) cap:=by
 rcases h.2 with h1|⟨g,cap,cur,hv,_⟩
 ·exact absurd h1.2 (by omega)
 ·exact⟨g,cap,hv⟩
def FK (w:World) (A B:World):Prop:=Ak (λb=>b=w.heap.size+1∨w.heap.size+3<=b) A B/\∀k,k<w.heap.size+3->k≠w.heap.size+1->B.heap[k]? = A.heap[k]?
theorem FK.refl (w A:World):FK w A A:=⟨Ak.refl _ _,λ_ _ _=>rfl⟩
theorem FK.trans {C:World} (h:FK w A B) (k:FK w B C):FK w A C:=⟨h.1.trans k.1,λi h1 h2=>(k.2 i h1 h2).trans (h.2 i h1 h2)⟩
theorem iK {b:Nat} (hb:b<=w.heap.size) (h:FK w A B):B.heap[b]? = A.heap[b]? /\ B.heap[w.heap.size+1+1]? = A.heap[w.heap.size+1+1]? :=
 ⟨h.2 b (by omega) (by omega),h.2 _ (by omega) (by omega)⟩
theorem iL {l:Nat} {o':Obj} (hl:w.heap.size+3<=l):FK w W (W.putObj l o'):=
 ⟨⟨rfl,rfl,rfl,by simp,λk _ a=>World.putObj_heap_other (λe=>a (Ad (by omega)))⟩,λk h1 h2=>World.putObj_heap_other (by omega)⟩
theorem iM {pre:List { x:Yx // IE w x}} {x:{ x:Yx // IE w x}} {i d:Value} {cs:List Ec} {o:Obj} (m:Ac W (w.heap.size+1) #[i,.map (some w.heap.size),.bool false] 177) (i2:AO W w.heap.size []) (i3:W.ownsRow (w.heap.size+3) 182 5 i cs.length (CM cs)) (i4:∀x∈cs,Sl W (λb=>b<w.heap.size) x.1.2.1.1 x.1.1.l.args/\Sl W (λb=>b<w.heap.size) x.1.2.2.1 x.1.1.r.args) (i5:cs.map C8=pre.map (λx=>(x.1.2.1,0))) (c:Below w.heap.size w W) (i7:w.heap.size+3<=W.heap.size)
  (ho:w3.ownsRow (w.heap.size+3) 182 5 d (cs.length+1) (CM cs++Fg (x.1.2,0))) (a:(W.alloc o).grownBy w3 i.ownBlock):
  KeepsFrom (w.heap.size+3) W (w3.setCell (zD (w.heap.size+1) 0) d)/\FK w W (w3.setCell (zD (w.heap.size+1) 0) d)/\Ng w (pre++[x]) (w3.setCell (zD (w.heap.size+1) 0) d):=by
 have ab:=a.size;simp at ab;have h:∀b,b<w.heap.size+3->some b≠i.ownBlock:=λb hb e=>by have:=(i3.lt b e.symm).1; omega
 have h3:∀k,k<W.heap.size->some k≠i.ownBlock->w3.heap[k]? = W.heap[k]? := λk h1 h2=>(a.block k (by simp; omega) h2).trans (Ay _ _ _ h1);have f:∀k,k≠w.heap.size+1->(w3.setCell (zD (w.heap.size+1) 0) d).heap[k]? = w3.heap[k]? := λk hk=>An _ _ _ _ (by simpa using hk);have hz:(w3.setCell (zD (w.heap.size+1) 0) d).heap.size=w3.heap.size:=by simp[World.setCell]
 refine⟨⟨by omega,λk ob hk j hc=>?_⟩,⟨⟨?_,?_,?_,by omega,λk h1 h2=>?_⟩,λk h1 h2=>(f k h2).trans (h3 k (by omega) (h k h1))⟩,?_⟩
 ·have n:k<W.heap.size:=(CO.1 j).1;rw[f k (by omega),h3 k n λe=>?_,j];rcases i3.2 with ⟨hv,_⟩|⟨g',cap,cur,hv,_,aa,_⟩
  ·rw[hv]at e; simp[Value.ownBlock] at e
  ·rw[hv]at e;have q:k=g':=(by simpa [Value.ownBlock] using e);subst q;rw[j]at aa;cases aa;simp[Obj.isCells]at hc
 ·exact a.os
 ·exact a.tape
 ·exact a.output
 ·have s:k<w.heap.size+3:=(by apply EX;intro hn;exact h2 (Ad (by omega)));exact(f k (λe=>h2 (Ae e))).trans (h3 k h1 (h k s))
 ·refine⟨d,cs++[(x.1.2,0)],?_,i2.kept ((f _ (by omega)).trans (h3 _ (by omega) (h _ (by omega)))),?_,λy hy=>?_,?_,?_,by omega⟩
  ·have:=(((m.alloc o).grown a (h _ (by omega))).set 0 d);simpa using this
  ·rw[Cv,LE];have t:CM [(x.1.2,0)]=Fg (x.1.2,0):=(by simp[CM]);rw[t];exact Dc ho λg u=>f g (by have:=(ho.lt g u).1; omega)
  ·rcases Ba.1 hy with hy|hy
   ·exact⟨(i4 y hy).1.kept λb hb=>(f b (by omega)).trans (h3 b (by omega) (h b (by omega))),(i4 y hy).2.kept λb hb=>(f b (by omega)).trans (h3 b (by omega) (h b (by omega)))⟩
   ·have e:y=(x.1.2,0):=(by simpa using hy);subst e;have hb2:Below w.heap.size w (w3.setCell (zD (w.heap.size+1) 0) d):=⟨a.os.trans c.os,a.tape.trans c.tape,a.output.trans c.output,by have:=c.size; omega,λb hb=>((f b (by omega)).trans (h3 b (by omega) (h b (by omega)))).trans (c.block b hb)⟩;exact⟨x.2.1.later hb2,x.2.2.later hb2⟩
  ·rw[CI,CI,i5]; rfl
  ·exact⟨a.os.trans c.os,a.tape.trans c.tape,a.output.trans c.output,by have:=c.size; omega,λb hb=>((f b (by omega)).trans (h3 b (by omega) (h b (by omega)))).trans (c.block b hb)⟩
def PI (S q:Nat) (R:Int×List Bd) (ev:Value) (wr:World):Prop:=
 ∃(code:Int) (h:List (ByteArray×Tm)) (f:Bool) (Y:Nat->Prop) (td:Value),ev=zA code/\BX S q td h f Y wr/\BN h/\GH h/\h.length<=1000000/\(R=(code,Ar h)∨(Bm (Ar h)=true/\Bm R.2=true))/\(code≠0∨(code=0/\∃a c,td=.slice a 0 c))
def Uu (S q N:Nat) (V:List ByteArray) (R:Int×List Bd) (g:Nat) (wr:World):Prop:=
 ∃(h:List (ByteArray×Tm)) (cs:List Ec),LF S q N h cs wr/\UI V h ((cs.map C8).reverse.map (·.1))/\(∀y∈cs.map C8,y.2<=h.length/\(y.2=h.length->Ai (Ar h) y.1.l=y.1.l/\Ai (Ar h) y.1.r=y.1.r))/\BG false g (Ar h) ((cs.map C8).reverse.map (·.1))=some R
def PJ (w:World) (S q N:Nat) (V:List ByteArray) (R:Int×List Bd) (D:Nat) (g:Nat) (ev:Value) (wr:World):Prop:=
 wr.heap[D]? = some (.deferred (some []))/\Below w.heap.size w wr/\((ev=zA 0/\Uu S q N V R g wr)∨PI S q R ev wr)
def iN (S q N:Nat) (V:List ByteArray) (R:Int×List Bd) (g:Nat) (wr:World):Prop:=
 ∃(h:List (ByteArray×Tm)) (cs:List Ec) (x:Ec),LF S q N h (cs++[x]) wr/\UI V h (x.1.1::(cs.map C8).reverse.map (·.1))/\(x.2<=h.length/\(x.2=h.length->Ai (Ar h) x.1.1.l=x.1.1.l/\Ai (Ar h) x.1.1.r=x.1.1.r))/\(∀y∈cs.map C8,y.2<=h.length/\(y.2=h.length->Ai (Ar h) y.1.l=y.1.l/\Ai (Ar h) y.1.r=y.1.r))/\BG false g (Ar h) (x.1.1::(cs.map C8).reverse.map (·.1))=some R
theorem iO {R:Int×List Bd} {c:Value} (hV:V.length<=400000) (h:(c=zA 0/\Uu S q N V R g wr)∨PI S q R c wr):PI S q R c wr∨(c=zA 0/\iN S q N V R g wr):=by
 rcases h with ⟨rfl,h,cs,d,a,hb,b⟩|h
 ·rcases List.eq_nil_or_concat cs with rfl|⟨cs,x,rfl⟩
  ·left;obtain⟨e,Y,f,i,hY,_⟩:=d;refine⟨0,h,false,Y,e,rfl,f,a.good,a.names,by have:=a.hlen; omega,Ae ?_,Ad ⟨rfl,?_⟩⟩
   ·cases g with
    |zero=>cases b
    |succ g=>simp[BG,G9]at b;exact b.symm
   ·rcases i.own.2 with ⟨h1,_⟩|⟨g,cap,cur,h1,_⟩
    ·exact⟨_,_,h1⟩
    ·exact⟨_,_,h1⟩
  ·right;rw[List.concat_eq_append]at *;simp only[CI,Bo,Ky,List.reverse_append,List.reverse_cons,List.reverse_nil,CE,List.singleton_append] at a b hb;exact⟨rfl,h,cs,x,d,a,hb (C8 x) (by simp),λy hy=>hb y (by simp[hy]),b⟩
 ·exact Ae h
theorem iP {cap:Nat} {cs:List Ec} {x:Ec} (a:cs.length=n) (h:w.ownsRow N 182 5 (.slice (some (zD g 0)) (n+1) cap) (n+1) (CM (cs++[x]))):w.ownsRow N 182 5 (.slice (some (zD g 0)) n cap) n (CM cs):=by
 subst a;refine⟨Nc cs,Ad ?_⟩;rcases h.2 with ⟨h1,_⟩|⟨g',aa,cur,h1,h2,h3,h4,b,h6,c⟩
 ·cases h1
 ·simp at h1;obtain⟨rfl,rfl⟩:=h1;refine⟨g,cap,cur,rfl,h2,h3,by omega,b,h6,?_⟩;have h8:(cur.toList.take ((cs.length+1)*5)).take (cs.length*5)=(CM (cs++[x])).take (cs.length*5):=by rw[c]
  rw[List.take_take,Nat.min_eq_left (by omega),LE,Hl (by rw[Nc]; omega),BH (l:=CM cs) (by rw[Nc]; omega)]at h8;exact h8
theorem iQ {wr n:World} {R:Int×List Bd} {cs:List Ec} {x:Ec} {aa:Value} (hV:V.length<=400000) (c:UI V h (x.1.1::(cs.map C8).reverse.map (·.1))) (hb:∀y∈cs.map C8,y.2<=h.length/\(y.2=h.length->Ai (Ar h) y.1.l=y.1.l/\Ai (Ar h) y.1.r=y.1.r)) (a:BG false g (Ar h) (x.1.1::(cs.map C8).reverse.map (·.1))=some R)
  (o:w3.heap[D]? = some (.deferred (some []))) (F:D≠S) (G:D≠q) (H:some D≠aa.ownBlock) (d:Below w.heap.size w w3) (hS:w.heap.size<=S) (hq:w.heap.size<=q) (ht:∀b,some b=aa.ownBlock->w.heap.size<=b)
  (hp:Ul S q N h cs (Ai (Ar h) x.1.1.l) (Ai (Ar h) x.1.1.r) aa w3 e n):∃(code:Int) (g1:Nat),e=.returned (zA code)/\g1<g/\PJ w S q N V R D g1 (zA code) n:=by
 obtain⟨code,rfl,hx,ab⟩:=hp;have I:D<w3.heap.size:=(CO.1 o).1;cases g with
 |zero=>cases a
 |succ g=>
  refine⟨code,g,rfl,F2 _,(hx.block D I (λi=>?_)).trans o,⟨hx.os.trans d.os,hx.tape.trans d.tape,hx.output.trans d.output,Bf d.size hx.size,λk hk=>(hx.block k (B7 hk d.size) (λi=>?_)).trans (d.block k hk)⟩,?_⟩
  ·rcases i with h1|h1|h1
   ·exact F h1
   ·exact G h1
   ·exact H h1
  ·rcases i with h1|h1|h1
   ·omega
   ·omega
   ·have:=ht k h1; omega
  ·have J:=a;rw[BG,Hy]at a;rcases ab with ⟨L,M,Y',O,s,hw⟩|⟨rfl,u,v,h',A,new,P,B,T,hcs⟩
   ·right;refine⟨code,h,M,Y',O,rfl,s,c.good,c.names,by have:=c.hlen; omega,?_,Ae L⟩;rcases hw with rfl|hw
    ·have C:=s.2.2.2.2 rfl;exact Ad ⟨C,Tr _ _ _ R.1 R.2 (by rw[J]) C⟩
    ·rw[hw]at a;simp at a;exact Ae a.symm
   ·left;rw[T]at a;have E:(A.map C8).reverse.map (·.1)=new++(cs.map C8).reverse.map (·.1):=by
     rw[B];simp[List.map_reverse,Function.comp_def]
    refine⟨rfl,h',A,P,?_,?_,by rw[E]; exact a⟩
    ·rw[E];rcases hcs with ⟨rfl,rfl⟩|⟨rfl,y,t,rfl,hv,j,ho⟩|⟨rfl,rfl,f⟩
     ·exact c.drop
     ·exact(c.bindV hv (by rcases j with ⟨h1,h2⟩|⟨h1,h2⟩; exact Ae ⟨h1,h2⟩; exact Ad ⟨h1,h2⟩) ho).2
     ·exact(c.deep u v f).1
    ·rw[B];intro y hy;rcases Ba.1 hy with m|hy
     ·clear hy;rcases hcs with ⟨rfl,rfl⟩|⟨rfl,z,t,rfl,hv,j,ho⟩|⟨rfl,rfl,f⟩
      ·exact hb y m
      ·have:=(hb y m).1;refine⟨by simp; omega,λe=>?_⟩;simp at e; omega
      ·exact hb y m
     ·obtain⟨p,hp,rfl⟩:=Bk.1 hy;rcases hcs with ⟨rfl,rfl⟩|⟨rfl,z,t,rfl,hv,j,ho⟩|⟨rfl,rfl,f⟩
      ·simp at hp
      ·simp at hp
      ·exact⟨Al _,λ_=>(c.deep u v f).2 p (by simpa using hp)⟩
theorem iR {pre:List { x:Yx // IE w x}} (h:Ng w pre W):∃cs:List Ec,LF (w.heap.size+1) w.heap.size (w.heap.size+3) [] cs W/\cs.map C8=pre.map (λx=>(x.1.2.1,0))/\Below w.heap.size w W:=by
 obtain⟨a,cs,c,i2,i3,i4,i5,d,f⟩:=h;refine⟨cs,⟨a,λb=>b=w.heap.size+1∨b=w.heap.size,⟨⟨[],c,i2,by simp,λi hi=>by simp at hi⟩,Ae rfl,Ad rfl,λb hb=>by rcases hb with rfl|rfl<;>omega,by simp⟩,⟨i3,λx hx=>⟨(i4 x hx).1.mono λb hb _=>Ae ⟨by omega,by omega,by omega⟩,(i4 x hx).2.mono λb hb _=>Ae ⟨by omega,by omega,by omega⟩⟩⟩,λb hb e=>?_,by omega,by omega,f⟩,i5,d⟩;have:=(i3.lt b e.symm).1;rcases hb with rfl|rfl<;>omega
def Nh (R:Int×List Bd) (w:World) (e:Ending) (w':World):Prop:=
 Below w.heap.size w w'/\((Bm R.2=true/\e=.returned (.tuple #[zB,zA 8]))∨(Bm R.2=false/\R.1≠0/\e=.returned (.tuple #[zB,zA R.1]))∨(Bm R.2=false/\R.1=0/\∃v,e=.returned (.tuple #[v,zA 0])/\BV w' (λb=>w.heap.size<=b) v R.2))
theorem iS (g n:Nat):((zD g 0):Addr).add n=(zD g n):=by
 unfold Addr.add;simp;intro e;omega
theorem BP (h:Below w.heap.size w wr) (hz:(wr.setCell (zD (w.heap.size+1) 0) v).heap.size=wr.heap.size) (hb:Below (wr.setCell (zD (w.heap.size+1) 0) v).heap.size (wr.setCell (zD (w.heap.size+1) 0) v) W):Below w.heap.size w W:=by
 have hs:=h.size;have aa:=hb.size;exact⟨hb.os.trans h.os,hb.tape.trans h.tape,hb.output.trans h.output,by omega,λk hk=>(hb.block k (by omega)).trans ((An _ _ _ _ (by simp; omega)).trans (h.block k hk))⟩
theorem Ni (hD:w.heap.size+3<=D) (h:wr.heap[D]? = some (.deferred (some []))) (hx:Ak (BZ (w.heap.size+1) w.heap.size) wr a):a.heap[D]? = some (.deferred (some [])):=
 (hx.block D (CO.1 h).1 (λb=>by rcases b with e|e<;>omega)).trans h
theorem Nj (hD:w.heap.size+3<=D) (h:Below w.heap.size w wr) (hx:Ak (BZ (w.heap.size+1) w.heap.size) wr a) (o:Obj):Below w.heap.size w (a.putObj D o):=
 ⟨hx.os.trans h.os, hx.tape.trans h.tape, hx.output.trans h.output, by rw [World.putObj_size]; exact Bf h.size hx.size, λk hk => by
  rw[World.putObj_heap_other (by omega),hx.block k (B7 hk h.size) (λb=>by rcases b with e|e<;>omega),h.block k hk]⟩
theorem Uv {R:Int×List Bd} (h:R=(code,s)∨(Bm s=true/\Bm R.2=true)) (a:Bm s=true):Bm R.2=true:=by
 rcases h with rfl|h
 ·exact a
 ·exact h.2
theorem Uw {R:Int×List Bd} (h:R=(code,s)∨(Bm s=true/\Bm R.2=true)) (a:Bm s=false):R=(code,s)/\Bm s=false:=by
 rcases h with rfl|h
 ·exact⟨rfl,a⟩
 ·rw[a]at h; cases h.1
theorem Ux {w':World} (hc:(Bm (Ar h)=true/\e=.returned (.tuple #[zB,.bool false]))∨(Bm (Ar h)=false/\∃v,e=.returned (.tuple #[v,.bool true])/\BV w' (λb=>w.heap.size<=b) v (Ar h))):
  ∃v ok,e=.returned (.tuple #[v,.bool ok])/\((Bm (Ar h)=true/\ok=false)∨(Bm (Ar h)=false/\ok=true/\BV w' (λb=>w.heap.size<=b) v (Ar h))):=by
 rcases hc with ⟨h1,rfl⟩|⟨h1,v,rfl,h2⟩
 ·exact⟨_,_,rfl,Ae ⟨h1,rfl⟩⟩
 ·exact⟨_,_,rfl,Ad ⟨h1,rfl,h2⟩⟩
theorem Uy (aB:Hid Py) (n:Nat) (hn:6<=n) (b o:Nat) (a:Option Addr) (xs:List Pc) (c:Nat) (ha:xs=[]∨a=some (zD b o)) (bm:xs.length<=40) (V:List ByteArray) (hV:V.length<=400000) (hU:UI V [] (xs.map (·.1))) (R:Int×List Bd) (g0:Nat) (hrun:BG false g0 [] (xs.map (·.1))=some R) (w:World) (aT:b<=w.heap.size) (hbx:xs=[]∨b<w.heap.size) (hL:PF w b o xs) (hS:∀x∈xs,Sl w (λb=>b<w.heap.size) x.2.1.1 x.1.l.args/\Sl w (λb=>b<w.heap.size) x.2.2.1 x.1.r.args):
  CallsIn Fence.wide n prog 101 #[.slice a xs.length c] w λe w'=>Nh R w e w':=by
 have h1:1<=n:=by omega
 have bn:=@run_makeMap prog;refine callsIn_of_wp_marks func101 rfl trivial ?_ rfl;simp only[ntmps101,Js,Bg,DB,Nat.reduceAdd,Nat.reduceSub,Jt,Ju,Jv,Jw,CE,Bj];have bo:Fence.wide.fn 120:=trivial;have bp:Fence.wide.fn 122:=trivial;have bq:Fence.wide.fn 121:=trivial;gi_wp2_with (gi_at_call 120; refine(iB Fence.wide (n-1) trivial rfl _ _ ⟨_,_,_,rfl⟩).mono ?_; rintro e w' ⟨rfl,rfl⟩)
 have hP:∀k (h:k<xs.length),IE w ((k:Int),xs[k]):=λk h=>hS _ (AM h);have aC:(((w.alloc (.map #[] 0)).alloc (zh #[zB,.map (some w.heap.size),.bool false] 177)).alloc (zh #[.slice a xs.length c] 23)).heap.size=w.heap.size+3:=by simp
 have aD:Below w.heap.size w (((w.alloc (.map #[] 0)).alloc (zh #[zB,.map (some w.heap.size),.bool false] 177)).alloc (zh #[.slice a xs.length c] 23)):=((((Ag _ w).alloc (Al _) _).alloc (by simp) _).alloc (by simp; omega) _);have aU:Ac (((w.alloc (.map #[] 0)).alloc (zh #[zB,.map (some w.heap.size),.bool false] 177)).alloc (zh #[.slice a xs.length c] 23)) (w.heap.size+1) #[zB,.map (some w.heap.size),.bool false] 177:=(by have h1:=(Ac.new (w.alloc (.map #[] 0)) #[zB,.map (some w.heap.size),.bool false] 177).alloc (zh #[.slice a xs.length c] 23);rw[Cp]at h1;exact h1);have aV:AO (((w.alloc (.map #[] 0)).alloc (zh #[zB,.map (some w.heap.size),.bool false] 177)).alloc (zh #[.slice a xs.length c] 23)) w.heap.size []:=(AO.new w).kept (by rw[Ay _ _ _ (by simp; omega),Ay _ _ _ (by simp)]);have ax:(((w.alloc (.map #[] 0)).alloc (zh #[zB,.map (some w.heap.size),.bool false] 177)).alloc (zh #[.slice a xs.length c] 23)).cell? (zD (w.heap.size+1+1) 0)=some (.slice a xs.length c):=(by have h1:=(Ac.new ((w.alloc (.map #[] 0)).alloc (zh #[zB,.map (some w.heap.size),.bool false] 177)) #[.slice a xs.length c] 23).cell 0;rw[Cp,Cp]at h1;exact h1);generalize (((w.alloc (.map #[] 0)).alloc (zh #[zB,.map (some w.heap.size),.bool false] 177)).alloc (zh #[.slice a xs.length c] 23))=W0 at *;refine wpIn_rangeFunc_ownH rfl h1 (gf:=135) (lb:=#[.pointer (some (zD (w.heap.size+1+1) 0))]) rfl trivial (enters_of func135 (by kernel_rfl) rfl)
  (iD Fence.wide (n-1) trivial rfl (by omega) (P:=IE w) (Kp:=FK w) (λA=>FK.refl _ _) (λh k=>FK.trans h k) (w.heap.size+1+1) b o c (fun {A B} h=>iK aT h) a xs hP ha (by omega) W0 (by omega) (by omega) ax (λj u hj=>by (rcases hbx with rfl|hbx); (simp[C0] at hj); rw[aD.cell (p:=(zD _ _)) (by simpa using hbx)]; exact hL j u hj))
  (λh k=>FK.trans h k) (λW l o o' hl ho _ _=>iL (by omega)) (Ag _ _) (λ_=>rfl)
  (Ng w) (λ_ _ _=>False) (by rw[aC]; exact iJ w) (λ_ _ _ _ _ hs _ _=>hs) ⟨zB,[],aU,aV,GT _ _ _ _,by simp,by simp,aD,by omega⟩
  (λx a' W=>∃d,w.heap.size+3<=d/\Ac W d #[.string x.1.2.1.l.name,.slice x.1.2.2.1.1 x.1.2.1.l.args.length x.1.2.2.1.2,.string x.1.2.1.r.name,.slice x.1.2.2.2.1 x.1.2.1.r.args.length x.1.2.2.2.2] 34/\a'={ tmps:=#[.slice a xs.length c,undef,zB,zA 0,zC (w.heap.size+1),undef,zC d,undef,undef,undef,undef,undef,.map (some w.heap.size),.agg #[zB,.map (some w.heap.size),.bool false],.slice a xs.length c,.func (.func 135) #[] #[.pointer (some (zD (w.heap.size+1+1) 0))],zA x.1.1,.agg #[.string x.1.2.1.l.name,.slice x.1.2.2.1.1 x.1.2.1.l.args.length x.1.2.2.1.2,.string x.1.2.1.r.name,.slice x.1.2.2.2.1 x.1.2.1.r.args.length x.1.2.2.2.2],undef,undef,undef,undef,undef,undef,undef,undef,undef,undef,undef,undef,undef,undef,undef,undef,undef,undef,undef,undef,undef,undef,undef,undef,undef,undef,undef,undef,undef,undef,undef,undef,undef,undef,undef,undef,undef,undef,undef,undef,undef,undef,undef,undef],defers:=[]})
  (λx a' _ X Y row hs M hr=>by
   obtain⟨d,h1,h2,h3⟩:=hs;refine⟨d,h1,h2.grown M (λe=>?_),h3⟩;obtain⟨_,o,ho,hc⟩:=hr d e.symm;unfold Ac at h2;rw[ho]at h2;cases h2;simp[Obj.isCells]at hc) ?assign ?body ?done ?stop
 case assign=>
  rintro l pre x W K F hK;dsimp only[Nf];gi_wp2
  obtain⟨C,cs,G,i2,i3,i4,i5,i6,i7⟩:=F;refine hK _ _ ((KeepsOthers.alloc _ _).from _) ⟨(Ak.refl _ _).alloc _,λk h1 h2=>Ay _ _ _ (by omega)⟩ ⟨C,cs,G.alloc _,i2.kept (Ay _ _ _ (by omega)),i3.alloc _,λy hy=>⟨(i4 y hy).1.later ((Ag _ _).alloc (Al _) _),(i4 y hy).2.later ((Ag _ _).alloc (Al _) _)⟩,i5,i6.alloc (by omega) _,by simp; omega⟩ ⟨W.heap.size,i7,Ac.new W _ _,rfl⟩
 case body=>
  rintro l pre x a' W hl hr F ⟨d,br,N,rfl⟩ hlt;obtain⟨C,cs,G,i2,i3,i4,i5,i6,i7⟩:=F;obtain⟨⟨xi,⟨m,⟨xa,xc⟩,⟨ya,yc⟩⟩⟩,O,aE⟩:=x;dsimp only at N O aE ⊢;have s0:=G.c0;have p0:W.cell? (zD d 0)=some (.string m.l.name):=N.cell 0;have p1:W.cell? (zD d 1)=some (.slice xa m.l.args.length xc):=N.cell 1;have p2:W.cell? (zD d 2)=some (.string m.r.name):=N.cell 2;have p3:W.cell? (zD d 3)=some (.slice ya m.r.args.length yc):=N.cell 3;obtain⟨i0,aW,aX,ar,aY⟩:=DO Tryz.infoEq;have bs:cs.length<=40:=by have:=Cb List.length i5; simp at this; omega
  gi_wp2_with (gi_at_builtin; go_loud (refine wpListIn_append_own_at _ rfl (.tmp 19) (.tmp 25) 175 rfl (w.heap.size+3) 182 i0 _ 5 88 underlying175 aW aX ar aY rfl (by decide) C cs.length (CM cs) rfl (i3.alloc _) (zD W.heap.size 0) 1 1 [.string m.l.name,.slice xa m.l.args.length xc,.string m.r.name,.slice ya m.r.args.length yc,zA 0] rfl rfl (PD _ _ _ _ _ _ _) (λu hu=>by simp at hu; rcases hu with rfl|rfl|rfl|rfl|rfl<;>rfl) (by unfold maxLen; omega) (by omega) (by simp; omega) ?_); intro v' w3 ho M _ bt; obtain⟨g',aj,rfl⟩:=Ut ho; have s3:w3.cell? (zD (w.heap.size+1) 0)=some C:=((G.alloc _).grown M (λe=>by have:=(i3.lt _ e.symm).1; omega)).cell 0; have f3:w3.frozen? (zD (w.heap.size+1) 0)=false:=((G.alloc _).grown M (λe=>by have:=(i3.lt _ e.symm).1; omega)).frozen 0)
  have ay:=iM (x:=⟨(xi,m,(xa,xc),ya,yc),O,aE⟩) G i2 i3 i4 i5 i6 i7 ho M;rw[aC];exact ay
 case done=>
  rintro D ys W hD rfl F aF;have aG:PJ w (w.heap.size+1) w.heap.size (w.heap.size+3) V R D g0 (zA 0) W:=by
   obtain⟨cs,hT,hC,q⟩:=iR F;have e1:(cs.map C8).reverse.map (·.1)=xs.map (·.1):=by
    have e2:=Uo (P:=IE w) (xs:=xs) (hP:=hP) xs.length (Al _);rw[hC,<-List.map_reverse,KJ,List.map_reverse];have e3:((λx:Pr×Nat=>x.1)∘λx:{ x:Yx // IE w x}=>(x.1.2.1,0))=λx=>x.1.2.1:=rfl;rw[e3,e2,D8,List.reverse_reverse]
   refine⟨aF,q,Ae ⟨rfl,[],cs,hT,by rw[e1]; exact hU,?_,by rw[e1]; exact hrun⟩⟩;rw[hC];intro y hy;obtain⟨z,_,rfl⟩:=Bk.1 hy;exact⟨Be _,λ_=>⟨LD (by simp[Ar]),LD (by simp[Ar])⟩⟩
  have aZ:=Aa aG;clear aG F aF;gi_wp2
  gi_loopg [7] g0 (λg ev wr=>PJ w (w.heap.size+1) w.heap.size (w.heap.size+3) V R D g ev wr)
  case atStart=>exact aZ.o
  case round=>
   have v:w.heap.size+3<=D:=(by omega);obtain⟨H,au,az⟩:=hrel;rcases iO hV az with ⟨code,h,f,Y,C,rfl,I,aH,aI,aJ,hR,ak⟩|⟨rfl,h,cs,x,hT,a6,hbx,aK,aL⟩
   ·have HE:=Aa I;have HR:=Aa hR;have E:=Aa au;have s:=Aa H;clear az hR au H;obtain⟨⟨L,q,hM,a7⟩,_⟩:=I;have s0:=q.c0;clear q hM a7;rcases ak with hne|⟨rfl,a0,c0,rfl⟩
    ·have ba:(code==0)=false:=FY.2 hne;have bu:(code !=0)=true:=(by simp[bne,ba]);gi_wp2_with (gi_at_call 122; refine(CP.2 (T8 aB (w.heap.size+1) w.heap.size C h aH aI aJ wr Y f HE.o)).mono ?_; rintro e w5 ⟨t,T⟩; obtain⟨v5,U,rfl,aM⟩:=Ux T; clear T)
     ·have av:U=false:=(by simp_all);refine⟨by simp,.inl ⟨_,_,rfl,run_takeDeferred (Ni v s.o t),?_⟩⟩;refine⟨.tuple #[zB,zA 8],by simp[results,results101,go_sem],Nj v E.o t _,Ae ⟨Uv HR.o (by simp_all),rfl⟩⟩
     ·have av:U=true:=(by simp_all);have Z:=Uw HR.o (show Bm (Ar h)=false by simp_all);refine⟨by simp,.inl ⟨_,_,rfl,run_takeDeferred (Ni v s.o t),?_⟩⟩;refine⟨.tuple #[zB,zA code],by simp[results,results101,go_sem],Nj v E.o t _,Ad (Ae ?_)⟩;rw[Z.1];exact⟨Z.2,hne,rfl⟩
    ·gi_wp2_with (gi_at_call 122; refine(CP.2 (T8 aB (w.heap.size+1) w.heap.size (.slice a0 0 c0) h aH aI aJ wr Y f HE.o)).mono ?_; rintro e w5 ⟨t,T⟩; obtain⟨v5,U,rfl,aM⟩:=Ux T; clear T)
     ·have av:U=false:=(by simp_all);refine⟨by simp,.inl ⟨_,_,rfl,run_takeDeferred (Ni v s.o t),?_⟩⟩;refine⟨.tuple #[zB,zA 8],by simp[results,results101,go_sem],Nj v E.o t _,Ae ⟨Uv HR.o (by simp_all),rfl⟩⟩
     ·have av:U=true:=(by simp_all);have Z:=Uw HR.o (show Bm (Ar h)=false by simp_all);have bb:BV w5 (λb=>wr.heap.size<=b) v5 (Ar h):=by
       rcases aM with h1|h1
       ·rw[av]at h1; cases h1.2
       ·exact h1.2.2
      refine⟨by simp,.inl ⟨_,_,rfl,run_takeDeferred (Ni v s.o t),?_⟩⟩;refine⟨.tuple #[v5,zA 0],by simp[results,results101,go_sem],Nj v E.o t _,Ad (Ad ?_)⟩;rw[Z.1];exact⟨Z.2,rfl,v5,rfl,(bb.kept λb hb=>World.putObj_heap_other (by have:=(CO.1 s.o).1; omega)).mono λb hb _=>Bf E.o.size hb⟩
   ·obtain⟨C,Y,I,a8,hY,_,_,bw⟩:=hT;have hlen:cs.length<=900000000:=by
     have h1:=a6.llen;simp at h1;omega
    have ab:=a8.own;rw[Cv]at ab;obtain⟨g,cap,rfl⟩:=Ut ab;have aq:=iP rfl ab;have bc:cs.length+1<=cap:=by
     rcases ab.2 with ⟨h1,_⟩|⟨g',aj,cur,h1,h2,h3,h4,_⟩
     ·cases h1
     ·simp at h1;obtain⟨_,rfl⟩:=h1;simpa using h4
    obtain⟨⟨p,⟨a1,c1⟩,⟨a2,c2⟩⟩,j⟩:=x;have J:∀i u,(Fg ((p,(a1,c1),(a2,c2)),j))[i]? = some u->i<5->wr.cell? ⟨g,cs.length*5+i,none⟩=some u:=λi u hu hi=>by
     have h1:=ab.cells (g:=g) rfl (cs.length*5+i) u (by rw[Uh (cs++[_]) cs.length (by simp) i hi]; simpa using hu);rw[iS]at h1;exact h1
    have k0:=J 0 _ rfl (by decide);have k1:=J 1 _ rfl (by decide);have k2:=J 2 _ rfl (by decide);have k3:=J 3 _ rfl (by decide);have k4:=J 4 _ rfl (by decide);simp only[Hp] at k0;obtain⟨⟨L,q,hM,a7⟩,_⟩:=id I;have s0:wr.cell? (zD (w.heap.size+1) 0)=some (.slice (some (zD g 0)) (cs.length+1) cap):=q.cell 0;have bx:∀o,(wr.alloc o).cell? (zD (w.heap.size+1) 0)=some (.slice (some (zD g 0)) (cs.length+1) cap):=λo=>(q.alloc o).cell 0;have bz:∀o,(wr.alloc o).frozen? (zD (w.heap.size+1) 0)=false:=λo=>(q.alloc o).frozen 0;have HE:=Aa I;have aN:=Aa a8;have HY:=Aa hY;have ag:=Aa aq;have HU:=Aa a6;have aO:=Aa hbx;have bd:=Aa aK;have bf:=Aa aL;have E:=Aa au;have s:=Aa H;clear I a8 hY aq a6 hbx aK aL au H q hM a7 ab J az;gi_wp2_with fail
    have aP:w.heap.size+1<w.heap.size+3:=(by omega);have bg:w.heap.size<w.heap.size+3:=(by omega);have aw:Below (wr.setCell (zD (w.heap.size+1) 0) (.slice (some (zD g 0)) cs.length cap)).heap.size (wr.setCell (zD (w.heap.size+1) 0) (.slice (some (zD g 0)) cs.length cap)) ((wr.setCell (zD (w.heap.size+1) 0) (.slice (some (zD g 0)) cs.length cap)).alloc (zh #[.string p.l.name,.slice a1 p.l.args.length c1,.string p.r.name,.slice a2 p.r.args.length c2,zA j] 182)):=(Ag _ _).alloc (Al _) _;have ar:(wr.setCell (zD (w.heap.size+1) 0) (.slice (some (zD g 0)) cs.length cap)).heap.size=wr.heap.size:=(by simp[World.setCell]);have bh:CW wr (w.heap.size+3) (λb=>b<w.heap.size+3/\b≠w.heap.size+1/\b≠w.heap.size) (.slice (some (zD g 0)) cs.length cap) cs:=⟨ag.o,λy hy=>aN.o.row y (by simp[hy])⟩;have O:=aN.o.row ((p,(a1,c1),(a2,c2)),j) (by simp);have aQ:∀(aa:Option Addr) (l:List Tm),Sl wr (λb=>(b<w.heap.size+3/\b≠w.heap.size+1/\b≠w.heap.size)∨(w.heap.size+3<=b/\some b≠some g)) aa l->Sl ((wr.setCell (zD (w.heap.size+1) 0) (.slice (some (zD g 0)) cs.length cap)).alloc (zh #[.string p.l.name,.slice a1 p.l.args.length c1,.string p.r.name,.slice a2 p.r.args.length c2,zA j] 182)) (λb=>(b<w.heap.size+3/\b≠w.heap.size+1/\b≠w.heap.size)∨(w.heap.size+3<=b/\some b≠some g)) aa l:=λaa l bj=>(bj.kept λb hb=>An _ _ _ _ (by
     simp;rcases hb with hb|hb
     ·exact hb.2.1
     ·omega)).later aw
    have b0:w.heap.size+3<=g/\g<wr.heap.size:=ag.o.lt g rfl;have bk:D≠g:=λe=>by
     subst e;rcases ag.o.2 with ⟨h1,_⟩|⟨g',aj,cur,h1,h2,h3,_⟩
     ·cases h1
     ·simp at h1;obtain⟨rfl,rfl⟩:=h1;rw[s.o]at h3;cases h3
    have H:D<wr.heap.size:=(CO.1 s.o).1;have WO:=iA (w.heap.size+1) w.heap.size (w.heap.size+3) V h cs p ((cs.map C8).reverse.map (·.1)) HU.o j aO.o.1 aO.o.2 hlen hV a1 c1 a2 c2 _ (.slice (some (zD g 0)) cs.length cap) Y ((Dh _ _ _ h).below (Ui HE.o (λ_ _=>rfl)) aw) ((bh.setCell aP (λhb=>hb.2.1 rfl) _).below aw) HY.o aP bg (by simp[World.setCell]; omega) (aQ _ _ O.1) (aQ _ _ O.2);refine(CP.2 WO).mono ?_;clear WO;rintro e w4 aR;obtain⟨code,g1,rfl,aA,aS⟩:=iQ (x:=((p,(a1,c1),(a2,c2)),j)) (w:=w) (wr:=wr) (D:=D) (R:=R) hV HU.o bd.o bf.o (by rw[Ay _ _ _ (by rw[ar]; exact H),An _ _ _ _ (by simp; omega)]; exact s.o) (by omega) (by omega) (λe=>bk (by simpa [Value.ownBlock] using e)) (BP E.o ar aw) (by omega) (Al _) (λb hb=>by (have e:b=g:=IP hb); rw[e]; omega) aR;have bl:=Aa aS;clear aS aR;gi_wp2
    gi_roundg g1
    case rel=>exact bl.o
    case measure=>exact aA
 case stop=>rintro D c pre W _ _ h _;exact h.elim
