import Derived.Test.YtacmmcnnhfmepaaGreatDoorZFLongMadeOwn
import Derived.Maps.OwnIn
import Derived.Maps.AppendAt
import Derived.Sort.LoopGhostIn
namespace Go.Proofs.YtacmmcnnhfmepaaGreatDoor
set_option linter.all false
set_option maxRecDepth 9999
set_option maxHeartbeats 0
open Go.RowKit Go.Shelf Go.Proofs.Tryz
attribute [local go_sem] Oper.semAt_some
variable {A B W a w w3 wr:World} {D N S g n q:Nat} {e:Ending} {s:List Bd} {i v:Value} {V:List ByteArray} {h:List (ByteArray×Tm)} {code:Int}
def Ix (w:World) (x:Yx):Prop:=Sl w (λb=>b<w.heap.size) x.2.2.1.1 x.2.1.l.args/\Sl w (λb=>b<w.heap.size) x.2.2.2.1 x.2.1.r.args
def Nc (w:World) (pre:List { x:Yx // Ix w x}) (W:World):Prop:=
 ∃(td:Value) (cs:List Ec),Ab W (w.heap.size+1) #[td,.map (some w.heap.size),.bool false] 162/\BI W w.heap.size []/\W.ownsRow (w.heap.size+3) 167 5 td cs.length (Di cs)/\(∀x∈cs,Sl W (λb=>b<w.heap.size) x.1.2.1.1 x.1.1.l.args/\Sl W (λb=>b<w.heap.size) x.1.2.2.1 x.1.1.r.args)/\cs.map Dv=pre.map (λx=>(x.1.2.1,0))/\Below w.heap.size w W/\w.heap.size+3<=W.heap.size
theorem oX (w:World):OwnFrom (w.heap.size+3) (Nc w):=by
 intro pre W W' row k a h;obtain⟨l,cs,h1,h2,h3,i,h5,h6,h7⟩:=k;have ab:=a.size;have c:∀b,b<w.heap.size+3->some b≠row:=λb hb e=>by have:=(h b e.symm).1; omega
 refine⟨l,cs,h1.grown a (c _ (by omega)),h2.kept (a.block _ (by omega) (c _ (by omega))),Dr h3 λg d=>?_,λx hx=>⟨(i x hx).1.kept λb hb=>a.block b (by omega) (c b (by omega)),(i x hx).2.kept λb hb=>a.block b (by omega) (c b (by omega))⟩,h5,?_,by omega⟩
 ·refine a.block g (h3.lt g d).2 λe=>?_;obtain⟨_,o,ho,hc⟩:=h g e.symm;rcases h3.2 with ⟨f,_⟩|⟨m,cap,cur,f,_,j,_⟩
  ·rw[f]at d; simp[Value.ownBlock] at d
  ·rw[f]at d;have e2:m=g:=(by simpa [Value.ownBlock] using d);subst e2;rw[ho]at j;cases j;simp[Obj.isCells]at hc
 ·exact⟨a.os.trans h6.os,a.tape.trans h6.tape,a.output.trans h6.output,by have:=h6.size; omega,λb hb=>(a.block b (by omega) (c b (by omega))).trans (h6.block b hb)⟩
theorem Vu {e s:Nat} {xs:List Value} (h:w.ownsRow N e s v (n+1) xs):∃g cap,v=.slice (some (zD g 0)) (n+1) cap:=by
 rcases h.2 with h1|⟨g,cap,cur,a,_⟩
 ·exact absurd h1.2 (by omega)
 ·exact⟨g,cap,a⟩
def FF (w:World) (A B:World):Prop:=Al (λb=>b=w.heap.size+1∨w.heap.size+3<=b) A B/\∀k,k<w.heap.size+3->k≠w.heap.size+1->B.heap[k]? = A.heap[k]?
theorem FF.refl (w A:World):FF w A A:=⟨Al.refl _ _,λ_ _ _=>rfl⟩
theorem FF.trans {C:World} (h:FF w A B) (k:FF w B C):FF w A C:=⟨h.1.trans k.1,λi h1 h2=>(k.2 i h1 h2).trans (h.2 i h1 h2)⟩
theorem oY {b:Nat} (hb:b<=w.heap.size) (h:FF w A B):B.heap[b]? = A.heap[b]? /\ B.heap[w.heap.size+1+1]? = A.heap[w.heap.size+1+1]? :=
 ⟨h.2 b (by omega) (by omega),h.2 _ (by omega) (by omega)⟩
theorem oZ {l:Nat} {o':Obj} (hl:w.heap.size+3<=l):FF w W (W.putObj l o'):=
 ⟨⟨rfl,rfl,rfl,by simp,λk _ a=>World.putObj_heap_other (λe=>a (Ae (by omega)))⟩,λk h1 h2=>World.putObj_heap_other (by omega)⟩
theorem pA {pre:List { x:Yx // Ix w x}} {x:{ x:Yx // Ix w x}} {d:Value} {cs:List Ec} {o:Obj} (s:Ab W (w.heap.size+1) #[i,.map (some w.heap.size),.bool false] 162) (i2:BI W w.heap.size []) (i3:W.ownsRow (w.heap.size+3) 167 5 i cs.length (Di cs)) (i4:∀x∈cs,Sl W (λb=>b<w.heap.size) x.1.2.1.1 x.1.1.l.args/\Sl W (λb=>b<w.heap.size) x.1.2.2.1 x.1.1.r.args) (i5:cs.map Dv=pre.map (λx=>(x.1.2.1,0))) (c:Below w.heap.size w W) (i7:w.heap.size+3<=W.heap.size)
  (ho:w3.ownsRow (w.heap.size+3) 167 5 d (cs.length+1) (Di cs++E9 (x.1.2,0))) (a:(W.alloc o).grownBy w3 i.ownBlock):
  KeepsFrom (w.heap.size+3) W (w3.setCell (zD (w.heap.size+1) 0) d)/\FF w W (w3.setCell (zD (w.heap.size+1) 0) d)/\Nc w (pre++[x]) (w3.setCell (zD (w.heap.size+1) 0) d):=by
 have t:=a.size;simp at t;have h:∀b,b<w.heap.size+3->some b≠i.ownBlock:=λb hb e=>by have:=(i3.lt b e.symm).1; omega
 have h3:∀k,k<W.heap.size->some k≠i.ownBlock->w3.heap[k]? = W.heap[k]? := λk h1 h2=>(a.block k (by simp; omega) h2).trans (BL _ _ _ h1);have f:∀k,k≠w.heap.size+1->(w3.setCell (zD (w.heap.size+1) 0) d).heap[k]? = w3.heap[k]? := λk hk=>Ak _ _ _ _ (by simpa using hk);have hz:(w3.setCell (zD (w.heap.size+1) 0) d).heap.size=w3.heap.size:=by simp[World.setCell]
 refine⟨⟨by omega,λk ob hk j hc=>?_⟩,⟨⟨?_,?_,?_,by omega,λk h1 h2=>?_⟩,λk h1 h2=>(f k h2).trans (h3 k (by omega) (h k h1))⟩,?_⟩
 ·have u:k<W.heap.size:=(Fp.1 j).1;rw[f k (by omega),h3 k u λe=>?_,j];rcases i3.2 with ⟨m,_⟩|⟨v,cap,cur,m,_,n,_⟩
  ·rw[m]at e; simp[Value.ownBlock] at e
  ·rw[m]at e;have e2:k=v:=(by simpa [Value.ownBlock] using e);subst e2;rw[j]at n;cases n;simp[Obj.isCells]at hc
 ·exact a.os
 ·exact a.tape
 ·exact a.output
 ·have z:k<w.heap.size+3:=(by apply Er;intro hn;exact h2 (Ae (by omega)));exact(f k (λe=>h2 (Ad e))).trans (h3 k h1 (h k z))
 ·refine⟨d,cs++[(x.1.2,0)],?_,i2.kept ((f _ (by omega)).trans (h3 _ (by omega) (h _ (by omega)))),?_,λy hy=>?_,?_,?_,by omega⟩
  ·have:=(((s.alloc o).grown a (h _ (by omega))).set 0 d);simpa using this
  ·rw[Ej,KL];have e5:Di [(x.1.2,0)]=E9 (x.1.2,0):=(by simp[Di]);rw[e5];exact Dr ho λg A=>f g (by have:=(ho.lt g A).1; omega)
  ·rcases BN.1 hy with hy|hy
   ·exact⟨(i4 y hy).1.kept λb hb=>(f b (by omega)).trans (h3 b (by omega) (h b (by omega))),(i4 y hy).2.kept λb hb=>(f b (by omega)).trans (h3 b (by omega) (h b (by omega)))⟩
   ·have e:y=(x.1.2,0):=(by simpa using hy);subst e;have q:Below w.heap.size w (w3.setCell (zD (w.heap.size+1) 0) d):=⟨a.os.trans c.os,a.tape.trans c.tape,a.output.trans c.output,by have:=c.size; omega,λb hb=>((f b (by omega)).trans (h3 b (by omega) (h b (by omega)))).trans (c.block b hb)⟩;exact⟨x.2.1.later q,x.2.2.later q⟩
  ·rw[Db,Db,i5]; rfl
  ·exact⟨a.os.trans c.os,a.tape.trans c.tape,a.output.trans c.output,by have:=c.size; omega,λb hb=>((f b (by omega)).trans (h3 b (by omega) (h b (by omega)))).trans (c.block b hb)⟩
def OY (S q:Nat) (R:Int×List Bd) (ev:Value) (wr:World):Prop:=
 ∃(code:Int) (h:List (ByteArray×Tm)) (f:Bool) (Y:Nat->Prop) (td:Value),ev=zA code/\Cv S q td h f Y wr/\Cn h/\Gw h/\h.length<=1000000/\(R=(code,Aj h)∨(AV (Aj h)=true/\AV R.2=true))/\(code≠0∨(code=0/\∃a c,td=.slice a 0 c))
def Vv (S q N:Nat) (V:List ByteArray) (R:Int×List Bd) (g:Nat) (wr:World):Prop:=
 ∃(h:List (ByteArray×Tm)) (cs:List Ec),KO S q N h cs wr/\UI V h ((cs.map Dv).reverse.map (·.1))/\(∀y∈cs.map Dv,y.2<=h.length/\(y.2=h.length->Ag (Aj h) y.1.l=y.1.l/\Ag (Aj h) y.1.r=y.1.r))/\A0 false g (Aj h) ((cs.map Dv).reverse.map (·.1))=some R
def OZ (w:World) (S q N:Nat) (V:List ByteArray) (R:Int×List Bd) (D:Nat) (g:Nat) (ev:Value) (wr:World):Prop:=
 wr.heap[D]? = some (.deferred (some []))/\Below w.heap.size w wr/\((ev=zA 0/\Vv S q N V R g wr)∨OY S q R ev wr)
def pB (S q N:Nat) (V:List ByteArray) (R:Int×List Bd) (g:Nat) (wr:World):Prop:=
 ∃(h:List (ByteArray×Tm)) (cs:List Ec) (x:Ec),KO S q N h (cs++[x]) wr/\UI V h (x.1.1::(cs.map Dv).reverse.map (·.1))/\(x.2<=h.length/\(x.2=h.length->Ag (Aj h) x.1.1.l=x.1.1.l/\Ag (Aj h) x.1.1.r=x.1.1.r))/\(∀y∈cs.map Dv,y.2<=h.length/\(y.2=h.length->Ag (Aj h) y.1.l=y.1.l/\Ag (Aj h) y.1.r=y.1.r))/\A0 false g (Aj h) (x.1.1::(cs.map Dv).reverse.map (·.1))=some R
theorem pC {R:Int×List Bd} {c:Value} (hV:V.length<=400000) (h:(c=zA 0/\Vv S q N V R g wr)∨OY S q R c wr):OY S q R c wr∨(c=zA 0/\pB S q N V R g wr):=by
 rcases h with ⟨rfl,h,cs,hT,a,hb,b⟩|h
 ·rcases List.eq_nil_or_concat cs with rfl|⟨cs,x,rfl⟩
  ·left;obtain⟨d,Y,e,f,hY,_⟩:=hT;refine⟨0,h,false,Y,d,rfl,e,a.good,a.names,by have:=a.hlen; omega,Ad ?_,Ae ⟨rfl,?_⟩⟩
   ·cases g with
    |zero=>cases b
    |succ g=>simp[A0,Em]at b;exact b.symm
   ·rcases f.own.2 with ⟨h1,_⟩|⟨g,cap,cur,h1,_⟩
    ·exact⟨_,_,h1⟩
    ·exact⟨_,_,h1⟩
  ·right;rw[List.concat_eq_append]at *;simp only[Db,CB,H4,List.reverse_append,List.reverse_cons,List.reverse_nil,Gy,List.singleton_append] at a b hb;exact⟨rfl,h,cs,x,hT,a,hb (Dv x) (by simp),λy hy=>hb y (by simp[hy]),b⟩
 ·exact Ad h
theorem pD {cap:Nat} {cs:List Ec} {x:Ec} (a:cs.length=n) (h:w.ownsRow N 167 5 (.slice (some (zD g 0)) (n+1) cap) (n+1) (Di (cs++[x]))):w.ownsRow N 167 5 (.slice (some (zD g 0)) n cap) n (Di cs):=by
 subst a;refine⟨MQ cs,Ae ?_⟩;rcases h.2 with ⟨h1,_⟩|⟨g',aa,cur,h1,h2,h3,h4,h5,h6,b⟩
 ·cases h1
 ·simp at h1;obtain⟨rfl,rfl⟩:=h1;refine⟨g,cap,cur,rfl,h2,h3,by omega,h5,h6,?_⟩;have h8:(cur.toList.take ((cs.length+1)*5)).take (cs.length*5)=(Di (cs++[x])).take (cs.length*5):=by rw[b]
  rw[List.take_take,Ge (by omega),KL,J7 (by rw[MQ]; omega),Bz (l:=Di cs) (by rw[MQ]; omega)]at h8;exact h8
theorem pE {wr s:World} {R:Int×List Bd} {cs:List Ec} {x:Ec} (hV:V.length<=400000) (c:UI V h (x.1.1::(cs.map Dv).reverse.map (·.1))) (hb:∀y∈cs.map Dv,y.2<=h.length/\(y.2=h.length->Ag (Aj h) y.1.l=y.1.l/\Ag (Aj h) y.1.r=y.1.r)) (a:A0 false g (Aj h) (x.1.1::(cs.map Dv).reverse.map (·.1))=some R)
  (u:w3.heap[D]? = some (.deferred (some []))) (H:D≠S) (I:D≠q) (J:some D≠i.ownBlock) (d:Below w.heap.size w w3) (hS:w.heap.size<=S) (hq:w.heap.size<=q) (ht:∀b,some b=i.ownBlock->w.heap.size<=b)
  (hp:Ui S q N h cs (Ag (Aj h) x.1.1.l) (Ag (Aj h) x.1.1.r) i w3 e s):∃(code:Int) (g1:Nat),e=.returned (zA code)/\g1<g/\OZ w S q N V R D g1 (zA code) s:=by
 obtain⟨code,rfl,hx,L⟩:=hp;have M:D<w3.heap.size:=(Fp.1 u).1;cases g with
 |zero=>cases a
 |succ g=>
  refine⟨code,g,rfl,DC _,(hx.block D M (λj=>?_)).trans u,⟨hx.os.trans d.os,hx.tape.trans d.tape,hx.output.trans d.output,AJ d.size hx.size,λk hk=>(hx.block k (Ce hk d.size) (λj=>?_)).trans (d.block k hk)⟩,?_⟩
  ·rcases j with h1|h1|h1
   ·exact H h1
   ·exact I h1
   ·exact J h1
  ·rcases j with h1|h1|h1
   ·omega
   ·omega
   ·have:=ht k h1; omega
  ·have O:=a;rw[A0,EL]at a;rcases L with ⟨P,f',T,U,v,hw⟩|⟨rfl,A,B,h',C,new,hT,E,W,hcs⟩
   ·right;refine⟨code,h,f',T,U,rfl,v,c.good,c.names,by have:=c.hlen; omega,?_,Ad P⟩;rcases hw with rfl|hw
    ·have F:=v.2.2.2.2 rfl;exact Ae ⟨F,NR _ _ _ R.1 R.2 (by rw[O]) F⟩
    ·rw[hw]at a;simp at a;exact Ad a.symm
   ·left;rw[W]at a;have G:(C.map Dv).reverse.map (·.1)=new++(cs.map Dv).reverse.map (·.1):=by
     rw[E];simp[List.map_reverse,Function.comp_def]
    refine⟨rfl,h',C,hT,?_,?_,by rw[G]; exact a⟩
    ·rw[G];rcases hcs with ⟨rfl,rfl⟩|⟨rfl,y,t,rfl,m,n,ho⟩|⟨rfl,rfl,f⟩
     ·exact c.drop
     ·exact(c.bindV m (by rcases n with ⟨h1,h2⟩|⟨h1,h2⟩; exact Ad ⟨h1,h2⟩; exact Ae ⟨h1,h2⟩) ho).2
     ·exact(c.deep A B f).1
    ·rw[E];intro y hy;rcases BN.1 hy with o|hy
     ·clear hy;rcases hcs with ⟨rfl,rfl⟩|⟨rfl,z,t,rfl,m,n,ho⟩|⟨rfl,rfl,f⟩
      ·exact hb y o
      ·have:=(hb y o).1;refine⟨by simp; omega,λe=>?_⟩;simp at e; omega
      ·exact hb y o
     ·obtain⟨p,hp,rfl⟩:=Cx.1 hy;rcases hcs with ⟨rfl,rfl⟩|⟨rfl,z,t,rfl,m,n,ho⟩|⟨rfl,rfl,f⟩
      ·simp at hp
      ·simp at hp
      ·exact⟨Af _,λ_=>(c.deep A B f).2 p (by simpa using hp)⟩
theorem pF {pre:List { x:Yx // Ix w x}} (h:Nc w pre W):∃cs:List Ec,KO (w.heap.size+1) w.heap.size (w.heap.size+3) [] cs W/\cs.map Dv=pre.map (λx=>(x.1.2.1,0))/\Below w.heap.size w W:=by
 obtain⟨a,cs,c,i2,i3,i4,i5,d,f⟩:=h;refine⟨cs,⟨a,λb=>b=w.heap.size+1∨b=w.heap.size,⟨⟨[],c,i2,by simp,λi hi=>by simp at hi⟩,Ad rfl,Ae rfl,λb hb=>by rcases hb with rfl|rfl<;>omega,by simp⟩,⟨i3,λx hx=>⟨(i4 x hx).1.mono λb hb _=>Ad ⟨by omega,by omega,by omega⟩,(i4 x hx).2.mono λb hb _=>Ad ⟨by omega,by omega,by omega⟩⟩⟩,λb hb e=>?_,by omega,by omega,f⟩,i5,d⟩;have:=(i3.lt b e.symm).1;rcases hb with rfl|rfl<;>omega
def O0 (R:Int×List Bd) (w:World) (e:Ending) (w':World):Prop:=
 Below w.heap.size w w'/\((AV R.2=true/\e=.returned (.tuple #[zB,zA 8]))∨(AV R.2=false/\R.1≠0/\e=.returned (.tuple #[zB,zA R.1]))∨(AV R.2=false/\R.1=0/\∃v,e=.returned (.tuple #[v,zA 0])/\BV w' (λb=>w.heap.size<=b) v R.2))
theorem pG (g n:Nat):((zD g 0):Addr).add n=(zD g n):=by
 unfold Addr.add;simp;intro e;omega
theorem Dq (h:Below w.heap.size w wr) (hz:(wr.setCell (zD (w.heap.size+1) 0) v).heap.size=wr.heap.size) (hb:Below (wr.setCell (zD (w.heap.size+1) 0) v).heap.size (wr.setCell (zD (w.heap.size+1) 0) v) W):Below w.heap.size w W:=by
 have hs:=h.size;have aa:=hb.size;exact⟨hb.os.trans h.os,hb.tape.trans h.tape,hb.output.trans h.output,by omega,λk hk=>(hb.block k (by omega)).trans ((Ak _ _ _ _ (by simp; omega)).trans (h.block k hk))⟩
theorem Nd (hD:w.heap.size+3<=D) (h:wr.heap[D]? = some (.deferred (some []))) (hx:Al (Cw (w.heap.size+1) w.heap.size) wr a):a.heap[D]? = some (.deferred (some [])):=
 (hx.block D (Fp.1 h).1 (λb=>by rcases b with e|e<;>omega)).trans h
theorem Nf (hD:w.heap.size+3<=D) (h:Below w.heap.size w wr) (hx:Al (Cw (w.heap.size+1) w.heap.size) wr a) (o:Obj):Below w.heap.size w (a.putObj D o):=
 ⟨hx.os.trans h.os, hx.tape.trans h.tape, hx.output.trans h.output, by rw [World.putObj_size]; exact AJ h.size hx.size, λk hk => by
  rw[World.putObj_heap_other (by omega),hx.block k (Ce hk h.size) (λb=>by rcases b with e|e<;>omega),h.block k hk]⟩
theorem Vw {R:Int×List Bd} (h:R=(code,s)∨(AV s=true/\AV R.2=true)) (a:AV s=true):AV R.2=true:=by
 rcases h with rfl|h
 ·exact a
 ·exact h.2
theorem Vx {R:Int×List Bd} (h:R=(code,s)∨(AV s=true/\AV R.2=true)) (a:AV s=false):R=(code,s)/\AV s=false:=by
 rcases h with rfl|h
 ·exact⟨rfl,a⟩
 ·rw[a]at h; cases h.1
theorem Vy {w':World} (hc:(AV (Aj h)=true/\e=.returned (.tuple #[zB,.bool false]))∨(AV (Aj h)=false/\∃v,e=.returned (.tuple #[v,.bool true])/\BV w' (λb=>w.heap.size<=b) v (Aj h))):
  ∃v ok,e=.returned (.tuple #[v,.bool ok])/\((AV (Aj h)=true/\ok=false)∨(AV (Aj h)=false/\ok=true/\BV w' (λb=>w.heap.size<=b) v (Aj h))):=by
 rcases hc with ⟨h1,rfl⟩|⟨h1,v,rfl,h2⟩
 ·exact⟨_,_,rfl,Ad ⟨h1,rfl⟩⟩
 ·exact⟨_,_,rfl,Ae ⟨h1,rfl,h2⟩⟩
theorem Vz (aC:Hid OD) (n:Nat) (hn:6<=n) (b o:Nat) (a:Option Addr) (xs:List Pc) (c:Nat) (ha:xs=[]∨a=some (zD b o)) (bn:xs.length<=40) (V:List ByteArray) (hV:V.length<=400000) (hU:UI V [] (xs.map (·.1))) (R:Int×List Bd) (g0:Nat) (ax:A0 false g0 [] (xs.map (·.1))=some R) (w:World) (aU:b<=w.heap.size) (hbx:xs=[]∨b<w.heap.size) (hL:OI w b o xs) (hS:∀x∈xs,Sl w (λb=>b<w.heap.size) x.2.1.1 x.1.l.args/\Sl w (λb=>b<w.heap.size) x.2.2.1 x.1.r.args):
  CallsIn Fence.wide n prog 106 #[.slice a xs.length c] w λe w'=>O0 R w e w':=by
 have h1:1<=n:=by omega
 have bo:=@run_makeMap prog;refine callsIn_of_wp_marks func106 rfl trivial ?_ rfl;simp only[ntmps106,List.size_toArray,Cl,Ek,Nat.reduceAdd,Nat.reduceSub,Array.replicate_succ,Array.replicate_zero,List.push_toArray,List.append_toArray,Gy,Dj];have bp:Fence.wide.fn 119:=trivial;have bq:Fence.wide.fn 121:=trivial;have br:Fence.wide.fn 120:=trivial;gi_wp2_with (gi_at_call 119; refine(ZV Fence.wide (n-1) trivial rfl _ _ ⟨_,_,_,rfl⟩).mono ?_; rintro e w' ⟨rfl,rfl⟩)
 have hP:∀k (h:k<xs.length),Ix w ((k:Int),xs[k]):=λk h=>hS _ (Bv h);have aD:(((w.alloc (.map #[] 0)).alloc (zp #[zB,.map (some w.heap.size),.bool false] 162)).alloc (zp #[.slice a xs.length c] 56)).heap.size=w.heap.size+3:=by simp
 have aE:Below w.heap.size w (((w.alloc (.map #[] 0)).alloc (zp #[zB,.map (some w.heap.size),.bool false] 162)).alloc (zp #[.slice a xs.length c] 56)):=((((Ac _ w).alloc (Af _) _).alloc (by simp) _).alloc (by simp; omega) _);have aV:Ab (((w.alloc (.map #[] 0)).alloc (zp #[zB,.map (some w.heap.size),.bool false] 162)).alloc (zp #[.slice a xs.length c] 56)) (w.heap.size+1) #[zB,.map (some w.heap.size),.bool false] 162:=(by have h1:=(Ab.new (w.alloc (.map #[] 0)) #[zB,.map (some w.heap.size),.bool false] 162).alloc (zp #[.slice a xs.length c] 56);rw[Ca]at h1;exact h1);have aW:BI (((w.alloc (.map #[] 0)).alloc (zp #[zB,.map (some w.heap.size),.bool false] 162)).alloc (zp #[.slice a xs.length c] 56)) w.heap.size []:=(BI.new w).kept (by rw[BL _ _ _ (by simp; omega),BL _ _ _ (by simp)]);have ay:(((w.alloc (.map #[] 0)).alloc (zp #[zB,.map (some w.heap.size),.bool false] 162)).alloc (zp #[.slice a xs.length c] 56)).cell? (zD (w.heap.size+1+1) 0)=some (.slice a xs.length c):=(by have h1:=(Ab.new ((w.alloc (.map #[] 0)).alloc (zp #[zB,.map (some w.heap.size),.bool false] 162)) #[.slice a xs.length c] 56).cell 0;rw[Ca,Ca]at h1;exact h1);generalize (((w.alloc (.map #[] 0)).alloc (zp #[zB,.map (some w.heap.size),.bool false] 162)).alloc (zp #[.slice a xs.length c] 56))=W0 at *;refine wpIn_rangeFunc_ownH rfl h1 (gf:=134) (lb:=#[.pointer (some (zD (w.heap.size+1+1) 0))]) rfl trivial (enters_of func134 (by kernel_rfl) rfl)
  (ZX Fence.wide (n-1) trivial rfl (by omega) (P:=Ix w) (Kp:=FF w) (λA=>FF.refl _ _) (λh k=>FF.trans h k) (w.heap.size+1+1) b o c (fun {A B} h=>oY aU h) a xs hP ha (by omega) W0 (by omega) (by omega) ay (λj u hj=>by (rcases hbx with rfl|hbx); (simp[Dg] at hj); rw[aE.cell (p:=(zD _ _)) (by simpa using hbx)]; exact hL j u hj))
  (λh k=>FF.trans h k) (λW l o o' hl ho _ _=>oZ (by omega)) (Ac _ _) (λ_=>rfl)
  (Nc w) (λ_ _ _=>False) (by rw[aD]; exact oX w) (λ_ _ _ _ _ hs _ _=>hs) ⟨zB,[],aV,aW,H5 _ _ _ _,by simp,by simp,aE,by omega⟩
  (λx a' W=>∃d,w.heap.size+3<=d/\Ab W d #[.string x.1.2.1.l.name,.slice x.1.2.2.1.1 x.1.2.1.l.args.length x.1.2.2.1.2,.string x.1.2.1.r.name,.slice x.1.2.2.2.1 x.1.2.1.r.args.length x.1.2.2.2.2] 89/\a'={ tmps:=#[.slice a xs.length c,undef,zB,zA 0,zC (w.heap.size+1),undef,zC d,undef,undef,undef,undef,undef,.map (some w.heap.size),.agg #[zB,.map (some w.heap.size),.bool false],.slice a xs.length c,.func (.func 134) #[] #[.pointer (some (zD (w.heap.size+1+1) 0))],zA x.1.1,.agg #[.string x.1.2.1.l.name,.slice x.1.2.2.1.1 x.1.2.1.l.args.length x.1.2.2.1.2,.string x.1.2.1.r.name,.slice x.1.2.2.2.1 x.1.2.1.r.args.length x.1.2.2.2.2],undef,undef,undef,undef,undef,undef,undef,undef,undef,undef,undef,undef,undef,undef,undef,undef,undef,undef,undef,undef,undef,undef,undef,undef,undef,undef,undef,undef,undef,undef,undef,undef,undef,undef,undef,undef,undef,undef,undef,undef,undef,undef,undef,undef],defers:=[]})
  (λx a' _ X Y row hs O hr=>by
   obtain⟨d,h1,h2,h3⟩:=hs;refine⟨d,h1,h2.grown O (λe=>?_),h3⟩;obtain⟨_,o,ho,hc⟩:=hr d e.symm;unfold Ab at h2;rw[ho]at h2;cases h2;simp[Obj.isCells]at hc) ?assign ?body ?done ?stop
 case assign=>
  rintro l pre x W K F hK;dsimp only[MS];gi_wp2
  obtain⟨C,cs,G,i2,i3,i4,i5,i6,i7⟩:=F;refine hK _ _ ((KeepsOthers.alloc _ _).from _) ⟨(Al.refl _ _).alloc _,λk h1 h2=>BL _ _ _ (by omega)⟩ ⟨C,cs,G.alloc _,i2.kept (BL _ _ _ (by omega)),i3.alloc _,λy hy=>⟨(i4 y hy).1.later ((Ac _ _).alloc (Af _) _),(i4 y hy).2.later ((Ac _ _).alloc (Af _) _)⟩,i5,i6.alloc (by omega) _,by simp; omega⟩ ⟨W.heap.size,i7,Ab.new W _ _,rfl⟩
 case body=>
  rintro l pre x a' W hl hr F ⟨d,bs,T,rfl⟩ hlt;obtain⟨C,cs,G,i2,i3,i4,i5,i6,i7⟩:=F;obtain⟨⟨xi,⟨m,⟨xa,xc⟩,⟨ya,yc⟩⟩⟩,U,aF⟩:=x;dsimp only at T U aF ⊢;have s0:=G.c0;have p0:W.cell? (zD d 0)=some (.string m.l.name):=T.cell 0;have p1:W.cell? (zD d 1)=some (.slice xa m.l.args.length xc):=T.cell 1;have p2:W.cell? (zD d 2)=some (.string m.r.name):=T.cell 2;have p3:W.cell? (zD d 3)=some (.slice ya m.r.args.length yc):=T.cell 3;obtain⟨i0,aX,aY,ar,aZ⟩:=Dw Tryz.infoEq;have bt:cs.length<=40:=by have:=Dt List.length i5; simp at this; omega
  gi_wp2_with (gi_at_builtin; go_loud (refine wpListIn_append_own_at _ rfl (.tmp 19) (.tmp 25) 160 rfl (w.heap.size+3) 167 i0 _ 5 88 underlying160 aX aY ar aZ rfl (by decide) C cs.length (Di cs) rfl (i3.alloc _) (zD W.heap.size 0) 1 1 [.string m.l.name,.slice xa m.l.args.length xc,.string m.r.name,.slice ya m.r.args.length yc,zA 0] rfl rfl (OG _ _ _ _ _ _ _) (λu hu=>by simp at hu; rcases hu with rfl|rfl|rfl|rfl|rfl<;>rfl) (by unfold maxLen; omega) (by omega) (by simp; omega) ?_); intro v' w3 ho O _ bu; obtain⟨g',aj,rfl⟩:=Vu ho; have s3:w3.cell? (zD (w.heap.size+1) 0)=some C:=((G.alloc _).grown O (λe=>by have:=(i3.lt _ e.symm).1; omega)).cell 0; have f3:w3.frozen? (zD (w.heap.size+1) 0)=false:=((G.alloc _).grown O (λe=>by have:=(i3.lt _ e.symm).1; omega)).frozen 0)
  have az:=pA (x:=⟨(xi,m,(xa,xc),ya,yc),U,aF⟩) G i2 i3 i4 i5 i6 i7 ho O;rw[aD];exact az
 case done=>
  rintro D ys W hD rfl F aG;have aH:OZ w (w.heap.size+1) w.heap.size (w.heap.size+3) V R D g0 (zA 0) W:=by
   obtain⟨cs,hT,hC,q⟩:=pF F;have e1:(cs.map Dv).reverse.map (·.1)=xs.map (·.1):=by
    have e2:=Ul (P:=Ix w) (xs:=xs) (hP:=hP) xs.length (Af _);rw[hC,<-List.map_reverse,List.map_map,List.map_reverse];have e3:((λx:Pr×Nat=>x.1)∘λx:{ x:Yx // Ix w x}=>(x.1.2.1,0))=λx=>x.1.2.1:=rfl;rw[e3,e2,G8,List.reverse_reverse]
   refine⟨aG,q,Ad ⟨rfl,[],cs,hT,by rw[e1]; exact hU,?_,by rw[e1]; exact ax⟩⟩;rw[hC];intro y hy;obtain⟨z,_,rfl⟩:=Cx.1 hy;exact⟨Bp _,λ_=>⟨JQ (by simp[Aj]),JQ (by simp[Aj])⟩⟩
  have ba:=Aa aH;clear aH F aG;gi_wp2
  gi_loopg [7] g0 (λg ev wr=>OZ w (w.heap.size+1) w.heap.size (w.heap.size+3) V R D g ev wr)
  case atStart=>exact ba.o
  case round=>
   have v:w.heap.size+3<=D:=(by omega);obtain⟨H,au,a6⟩:=hrel;rcases pC hV a6 with ⟨code,h,f,Y,C,rfl,I,aI,aJ,aK,hR,ak⟩|⟨rfl,h,cs,x,hT,a7,hbx,aL,aM⟩
   ·have HE:=Aa I;have HR:=Aa hR;have E:=Aa au;have s:=Aa H;clear a6 hR au H;obtain⟨⟨L,q,hM,a8⟩,_⟩:=I;have s0:=q.c0;clear q hM a8;rcases ak with hne|⟨rfl,a0,c0,rfl⟩
    ·have bb:(code==0)=false:=Dx.2 hne;have bw:(code !=0)=true:=(by simp[bne,bb]);gi_wp2_with (gi_at_call 121; refine(FJ.2 (T8 aC (w.heap.size+1) w.heap.size C h aI aJ aK wr Y f HE.o)).mono ?_; rintro e w5 ⟨t,Z⟩; obtain⟨v5,an,rfl,aN⟩:=Vy Z; clear Z)
     ·have av:an=false:=(by simp_all);refine⟨by simp,.inl ⟨_,_,rfl,run_takeDeferred (Nd v s.o t),?_⟩⟩;refine⟨.tuple #[zB,zA 8],by simp[results,results106,go_sem],Nf v E.o t _,Ad ⟨Vw HR.o (by simp_all),rfl⟩⟩
     ·have av:an=true:=(by simp_all);have ao:=Vx HR.o (show AV (Aj h)=false by simp_all);refine⟨by simp,.inl ⟨_,_,rfl,run_takeDeferred (Nd v s.o t),?_⟩⟩;refine⟨.tuple #[zB,zA code],by simp[results,results106,go_sem],Nf v E.o t _,Ae (Ad ?_)⟩;rw[ao.1];exact⟨ao.2,hne,rfl⟩
    ·gi_wp2_with (gi_at_call 121; refine(FJ.2 (T8 aC (w.heap.size+1) w.heap.size (.slice a0 0 c0) h aI aJ aK wr Y f HE.o)).mono ?_; rintro e w5 ⟨t,Z⟩; obtain⟨v5,an,rfl,aN⟩:=Vy Z; clear Z)
     ·have av:an=false:=(by simp_all);refine⟨by simp,.inl ⟨_,_,rfl,run_takeDeferred (Nd v s.o t),?_⟩⟩;refine⟨.tuple #[zB,zA 8],by simp[results,results106,go_sem],Nf v E.o t _,Ad ⟨Vw HR.o (by simp_all),rfl⟩⟩
     ·have av:an=true:=(by simp_all);have ao:=Vx HR.o (show AV (Aj h)=false by simp_all);have bc:BV w5 (λb=>wr.heap.size<=b) v5 (Aj h):=by
       rcases aN with h1|h1
       ·rw[av]at h1; cases h1.2
       ·exact h1.2.2
      refine⟨by simp,.inl ⟨_,_,rfl,run_takeDeferred (Nd v s.o t),?_⟩⟩;refine⟨.tuple #[v5,zA 0],by simp[results,results106,go_sem],Nf v E.o t _,Ae (Ae ?_)⟩;rw[ao.1];exact⟨ao.2,rfl,v5,rfl,(bc.kept λb hb=>World.putObj_heap_other (by have:=(Fp.1 s.o).1; omega)).mono λb hb _=>AJ E.o.size hb⟩
   ·obtain⟨C,Y,I,aA,hY,_,_,bx⟩:=hT;have hlen:cs.length<=900000000:=by
     have h1:=a7.llen;simp at h1;omega
    have J:=aA.own;rw[Ej]at J;obtain⟨g,cap,rfl⟩:=Vu J;have aq:=pD rfl J;have bd:cs.length+1<=cap:=by
     rcases J.2 with ⟨h1,_⟩|⟨g',aj,cur,h1,h2,h3,h4,_⟩
     ·cases h1
     ·simp at h1;obtain⟨_,rfl⟩:=h1;simpa using h4
    obtain⟨⟨p,⟨M,c1⟩,⟨a2,c2⟩⟩,j⟩:=x;have N:∀i u,(E9 ((p,(M,c1),(a2,c2)),j))[i]? = some u->i<5->wr.cell? ⟨g,cs.length*5+i,none⟩=some u:=λi u hu hi=>by
     have h1:=J.cells (g:=g) rfl (cs.length*5+i) u (by rw[Ue (cs++[_]) cs.length (by simp) i hi]; simpa using hu);rw[pG]at h1;exact h1
    have k0:=N 0 _ rfl (by decide);have k1:=N 1 _ rfl (by decide);have k2:=N 2 _ rfl (by decide);have k3:=N 3 _ rfl (by decide);have k4:=N 4 _ rfl (by decide);simp only[Ic] at k0;obtain⟨⟨L,q,hM,a8⟩,_⟩:=id I;have s0:wr.cell? (zD (w.heap.size+1) 0)=some (.slice (some (zD g 0)) (cs.length+1) cap):=q.cell 0;have bz:∀o,(wr.alloc o).cell? (zD (w.heap.size+1) 0)=some (.slice (some (zD g 0)) (cs.length+1) cap):=λo=>(q.alloc o).cell 0;have b0:∀o,(wr.alloc o).frozen? (zD (w.heap.size+1) 0)=false:=λo=>(q.alloc o).frozen 0;have HE:=Aa I;have aO:=Aa aA;have HY:=Aa hY;have ag:=Aa aq;have HU:=Aa a7;have aP:=Aa hbx;have bf:=Aa aL;have bg:=Aa aM;have E:=Aa au;have s:=Aa H;clear I aA hY aq a7 hbx aL aM au H q hM a8 J N a6;gi_wp2_with fail
    have aQ:w.heap.size+1<w.heap.size+3:=(by omega);have bh:w.heap.size<w.heap.size+3:=(by omega);have aw:Below (wr.setCell (zD (w.heap.size+1) 0) (.slice (some (zD g 0)) cs.length cap)).heap.size (wr.setCell (zD (w.heap.size+1) 0) (.slice (some (zD g 0)) cs.length cap)) ((wr.setCell (zD (w.heap.size+1) 0) (.slice (some (zD g 0)) cs.length cap)).alloc (zp #[.string p.l.name,.slice M p.l.args.length c1,.string p.r.name,.slice a2 p.r.args.length c2,zA j] 167)):=(Ac _ _).alloc (Af _) _;have ar:(wr.setCell (zD (w.heap.size+1) 0) (.slice (some (zD g 0)) cs.length cap)).heap.size=wr.heap.size:=(by simp[World.setCell]);have bj:Dp wr (w.heap.size+3) (λb=>b<w.heap.size+3/\b≠w.heap.size+1/\b≠w.heap.size) (.slice (some (zD g 0)) cs.length cap) cs:=⟨ag.o,λy hy=>aO.o.row y (by simp[hy])⟩;have U:=aO.o.row ((p,(M,c1),(a2,c2)),j) (by simp);have aR:∀(aa:Option Addr) (l:List Tm),Sl wr (λb=>(b<w.heap.size+3/\b≠w.heap.size+1/\b≠w.heap.size)∨(w.heap.size+3<=b/\some b≠some g)) aa l->Sl ((wr.setCell (zD (w.heap.size+1) 0) (.slice (some (zD g 0)) cs.length cap)).alloc (zp #[.string p.l.name,.slice M p.l.args.length c1,.string p.r.name,.slice a2 p.r.args.length c2,zA j] 167)) (λb=>(b<w.heap.size+3/\b≠w.heap.size+1/\b≠w.heap.size)∨(w.heap.size+3<=b/\some b≠some g)) aa l:=λaa l bk=>(bk.kept λb hb=>Ak _ _ _ _ (by
     simp;rcases hb with hb|hb
     ·exact hb.2.1
     ·omega)).later aw
    have b1:w.heap.size+3<=g/\g<wr.heap.size:=ag.o.lt g rfl;have bl:D≠g:=λe=>by
     subst e;rcases ag.o.2 with ⟨h1,_⟩|⟨g',aj,cur,h1,h2,h3,_⟩
     ·cases h1
     ·simp at h1;obtain⟨rfl,rfl⟩:=h1;rw[s.o]at h3;cases h3
    have H:D<wr.heap.size:=(Fp.1 s.o).1;have WO:=ZU (w.heap.size+1) w.heap.size (w.heap.size+3) V h cs p ((cs.map Dv).reverse.map (·.1)) HU.o j aP.o.1 aP.o.2 hlen hV M c1 a2 c2 _ (.slice (some (zD g 0)) cs.length cap) Y ((DA _ _ _ h).below (Uf HE.o (λ_ _=>rfl)) aw) ((bj.setCell aQ (λhb=>hb.2.1 rfl) _).below aw) HY.o aQ bh (by simp[World.setCell]; omega) (aR _ _ U.1) (aR _ _ U.2);refine(FJ.2 WO).mono ?_;clear WO;rintro e w4 aS;obtain⟨code,g1,rfl,aB,aT⟩:=pE (x:=((p,(M,c1),(a2,c2)),j)) (w:=w) (wr:=wr) (D:=D) (R:=R) hV HU.o bf.o bg.o (by rw[BL _ _ _ (by rw[ar]; exact H),Ak _ _ _ _ (by simp; omega)]; exact s.o) (by omega) (by omega) (λe=>bl (by simpa [Value.ownBlock] using e)) (Dq E.o ar aw) (by omega) (Af _) (λb hb=>by (have e:b=g:=J8 hb); rw[e]; omega) aS;have bm:=Aa aT;clear aT aS;gi_wp2
    gi_roundg g1
    case rel=>exact bm.o
    case measure=>exact aB
 case stop=>rintro D c pre W _ _ h _;exact h.elim
