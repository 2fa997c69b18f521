import Derived.Test.YtlkeafenklamjaaGreatDoorZECriticalSaysOwn
import Derived.Maps.OwnIn
import Derived.Maps.AppendAt
import Derived.Sort.LoopGhostIn
namespace Go.Proofs.YtlkeafenklamjaaGreatDoor
set_option linter.all false
set_option maxRecDepth 20000
set_option maxHeartbeats 8000000
open Go.RowKit Go.Shelf
attribute [local go_sem] GJ
def G1 (w:World) (x:Yx):Prop:=Sl w (λb=>b<w.heap.size) x.2.2.1.1 x.2.1.l.args/\Sl w (λb=>b<w.heap.size) x.2.2.2.1 x.2.1.r.args
def KQ (w:World) (pre:List { x:Yx // G1 w x}) (W:World):Prop:=
 ∃(td:Value) (cs:List Ec),Ac W (w.heap.size+1) #[td,.map (some w.heap.size),.bool false] 136/\Bl W w.heap.size []/\W.ownsRow (w.heap.size+3) 141 5 td cs.length (CR cs)/\(∀x∈cs,Sl W (λb=>b<w.heap.size) x.1.2.1.1 x.1.1.l.args/\Sl W (λb=>b<w.heap.size) x.1.2.2.1 x.1.1.r.args)/\cs.map Da=pre.map (λx=>(x.1.2.1,0))/\Below w.heap.size w W/\w.heap.size+3<=W.heap.size
theorem Y7 (w:World):OwnFrom (w.heap.size+3) (KQ w):=by
 intro pre W W' row hI hg hr
 obtain⟨td,cs,h1,h2,h3,h4,h5,h6,h7⟩:=hI
 have ae:=hg.size
 have hne:∀b,b<w.heap.size+3->some b≠row:=λb hb e=>by have:=(hr b e.symm).1; omega
 refine⟨td,cs,h1.grown hg (hne _ (by omega)),h2.kept (hg.block _ (by omega) (hne _ (by omega))),DG h3 λg aa=>?_,λx hx=>⟨(h4 x hx).1.kept λb hb=>hg.block b (by omega) (hne b (by omega)),(h4 x hx).2.kept λb hb=>hg.block b (by omega) (hne b (by omega))⟩,h5,?_,by omega⟩
 ·refine hg.block g (h3.lt g aa).2 λe=>?_
  obtain⟨_,o,ho,hc⟩:=hr g e.symm
  rcases h3.2 with ⟨hv,_⟩|⟨g',cap,cur,hv,_,hh,_⟩
  ·rw[hv]at aa; simp[Value.ownBlock] at aa
  ·rw[hv]at aa
   have e2:g'=g:=by simpa [Value.ownBlock] using aa
   subst e2
   rw[ho]at hh
   cases hh
   simp[Obj.isCells]at hc
 ·exact⟨hg.os.trans h6.os,hg.tape.trans h6.tape,hg.output.trans h6.output,by have:=h6.size; omega,λb hb=>(hg.block b (by omega) (hne b (by omega))).trans (h6.block b hb)⟩
theorem Rt {w:World} {N e s n:Nat} {v:Value} {xs:List Value} (h:w.ownsRow N e s v (n+1) xs):∃g cap,v=.slice (some ⟨g,0,none⟩) (n+1) cap:=by
 rcases h.2 with h1|⟨g,cap,cur,hv,_⟩
 ·exact absurd h1.2 (by omega)
 ·exact⟨g,cap,hv⟩
def E8 (w:World) (A B:World):Prop:=Al (λb=>b=w.heap.size+1∨w.heap.size+3<=b) A B/\∀k,k<w.heap.size+3->k≠w.heap.size+1->B.heap[k]? = A.heap[k]?
theorem E8.refl (w A:World):E8 w A A:=⟨Al.refl _ _,λ_ _ _=>rfl⟩
theorem E8.trans {w A B C:World} (h:E8 w A B) (k:E8 w B C):E8 w A C:=⟨h.1.trans k.1,λi h1 h2=>(k.2 i h1 h2).trans (h.2 i h1 h2)⟩
theorem Y8 {w A B:World} {b:Nat} (hb:b<=w.heap.size) (h:E8 w A B):B.heap[b]? = A.heap[b]? /\ B.heap[w.heap.size+1+1]? = A.heap[w.heap.size+1+1]? :=
 ⟨h.2 b (by omega) (by omega),h.2 _ (by omega) (by omega)⟩
theorem Za {w W:World} {l:Nat} {o':Obj} (hl:w.heap.size+3<=l):E8 w W (W.putObj l o'):=
 ⟨⟨rfl,rfl,rfl,by simp,λk _ hn=>World.putObj_heap_other (λe=>hn (Ae (by omega)))⟩,λk h1 h2=>World.putObj_heap_other (by omega)⟩
theorem Zb {w W w3:World} {pre:List { x:Yx // G1 w x}} {x:{ x:Yx // G1 w x}} {td v':Value} {cs:List Ec} {o:Obj} (i1:Ac W (w.heap.size+1) #[td,.map (some w.heap.size),.bool false] 136) (i2:Bl W w.heap.size []) (i3:W.ownsRow (w.heap.size+3) 141 5 td cs.length (CR cs)) (i4:∀x∈cs,Sl W (λb=>b<w.heap.size) x.1.2.1.1 x.1.1.l.args/\Sl W (λb=>b<w.heap.size) x.1.2.2.1 x.1.1.r.args) (i5:cs.map Da=pre.map (λx=>(x.1.2.1,0))) (i6:Below w.heap.size w W) (i7:w.heap.size+3<=W.heap.size)
  (ho:w3.ownsRow (w.heap.size+3) 141 5 v' (cs.length+1) (CR cs++EI (x.1.2,0))) (hg:(W.alloc o).grownBy w3 td.ownBlock):
  KeepsFrom (w.heap.size+3) W (w3.setCell ⟨w.heap.size+1,0,none⟩ v')/\E8 w W (w3.setCell ⟨w.heap.size+1,0,none⟩ v')/\KQ w (pre++[x]) (w3.setCell ⟨w.heap.size+1,0,none⟩ v'):=by
 have ae:=hg.size
 simp at ae
 have hne:∀b,b<w.heap.size+3->some b≠td.ownBlock:=λb hb e=>by have:=(i3.lt b e.symm).1; omega
 have h3:∀k,k<W.heap.size->some k≠td.ownBlock->w3.heap[k]? = W.heap[k]? := λk h1 h2=>(hg.block k (by simp; omega) h2).trans (AP _ _ _ h1)
 have h4:∀k,k≠w.heap.size+1->(w3.setCell ⟨w.heap.size+1,0,none⟩ v').heap[k]? = w3.heap[k]? := λk hk=>Aq _ _ _ _ (by simpa using hk)
 have hz:(w3.setCell ⟨w.heap.size+1,0,none⟩ v').heap.size=w3.heap.size:=by simp[World.setCell]
 refine⟨⟨by omega,λk ob hk hh hc=>?_⟩,⟨⟨?_,?_,?_,by omega,λk h1 h2=>?_⟩,λk h1 h2=>(h4 k h2).trans (h3 k (by omega) (hne k h1))⟩,?_⟩
 ·have af:k<W.heap.size:=(DM.1 hh).1
  rw[h4 k (by omega),h3 k af λe=>?_,hh]
  rcases i3.2 with ⟨hv,_⟩|⟨g',cap,cur,hv,_,aa,_⟩
  ·rw[hv]at e; simp[Value.ownBlock] at e
  ·rw[hv]at e
   have e2:k=g':=by simpa [Value.ownBlock] using e
   subst e2
   rw[hh]at aa
   cases aa
   simp[Obj.isCells]at hc
 ·exact hg.os
 ·exact hg.tape
 ·exact hg.output
 ·have ag:k<w.heap.size+3:=by
   apply G7
   intro hn
   exact h2 (Ae (by omega))
  exact(h4 k (λe=>h2 (Ad e))).trans (h3 k h1 (hne k ag))
 ·refine⟨v',cs++[(x.1.2,0)],?_,i2.kept ((h4 _ (by omega)).trans (h3 _ (by omega) (hne _ (by omega)))),?_,λy hy=>?_,?_,?_,by omega⟩
  ·have:=(((i1.alloc o).grown hg (hne _ (by omega))).set 0 v')
   simpa using this
  ·rw[Dm,Jw]
   have e5:CR [(x.1.2,0)]=EI (x.1.2,0):=by simp[CR]
   rw[e5]
   exact DG ho λg ah=>h4 g (by have:=(ho.lt g ah).1; omega)
  ·rcases Bg.1 hy with hy|hy
   ·exact⟨(i4 y hy).1.kept λb hb=>(h4 b (by omega)).trans (h3 b (by omega) (hne b (by omega))),(i4 y hy).2.kept λb hb=>(h4 b (by omega)).trans (h3 b (by omega) (hne b (by omega)))⟩
   ·have e:y=(x.1.2,0):=by simpa using hy
    subst e
    have hb2:Below w.heap.size w (w3.setCell ⟨w.heap.size+1,0,none⟩ v'):=⟨hg.os.trans i6.os,hg.tape.trans i6.tape,hg.output.trans i6.output,by have:=i6.size; omega,λb hb=>((h4 b (by omega)).trans (h3 b (by omega) (hne b (by omega)))).trans (i6.block b hb)⟩
    exact⟨x.2.1.later hb2,x.2.2.later hb2⟩
  ·rw[Cr,Cr,i5]; rfl
  ·exact⟨hg.os.trans i6.os,hg.tape.trans i6.tape,hg.output.trans i6.output,by have:=i6.size; omega,λb hb=>((h4 b (by omega)).trans (h3 b (by omega) (hne b (by omega)))).trans (i6.block b hb)⟩
def M1 (S q:Nat) (R:Int×List Bd) (ev:Value) (wr:World):Prop:=
 ∃(code:Int) (h:List (ByteArray×Tm)) (f:Bool) (Y:Nat->Prop) (td:Value),ev=.int .i64 code/\Cd S q td h f Y wr/\BO h/\F1 h/\h.length<=1000000/\(R=(code,Ai h)∨(AD (Ai h)=true/\AD R.2=true))/\(code≠0∨(code=0/\∃a c,td=.slice a 0 c))
def Ru (S q N:Nat) (V:List ByteArray) (R:Int×List Bd) (g:Nat) (wr:World):Prop:=
 ∃(h:List (ByteArray×Tm)) (cs:List Ec),Jy S q N h cs wr/\UI V h ((cs.map Da).reverse.map (·.1))/\(∀y∈cs.map Da,y.2<=h.length/\(y.2=h.length->Ag (Ai h) y.1.l=y.1.l/\Ag (Ai h) y.1.r=y.1.r))/\AQ false g (Ai h) ((cs.map Da).reverse.map (·.1))=some R
def M2 (w:World) (S q N:Nat) (V:List ByteArray) (R:Int×List Bd) (D:Nat) (g:Nat) (ev:Value) (wr:World):Prop:=
 wr.heap[D]? = some (.deferred (some []))/\Below w.heap.size w wr/\((ev=.int .i64 0/\Ru S q N V R g wr)∨M1 S q R ev wr)
def Zc (S q N:Nat) (V:List ByteArray) (R:Int×List Bd) (g:Nat) (wr:World):Prop:=
 ∃(h:List (ByteArray×Tm)) (cs:List Ec) (x:Ec),Jy S q N h (cs++[x]) wr/\UI V h (x.1.1::(cs.map Da).reverse.map (·.1))/\(x.2<=h.length/\(x.2=h.length->Ag (Ai h) x.1.1.l=x.1.1.l/\Ag (Ai h) x.1.1.r=x.1.1.r))/\(∀y∈cs.map Da,y.2<=h.length/\(y.2=h.length->Ag (Ai h) y.1.l=y.1.l/\Ag (Ai h) y.1.r=y.1.r))/\AQ false g (Ai h) (x.1.1::(cs.map Da).reverse.map (·.1))=some R
theorem Zd {S q N:Nat} {V:List ByteArray} {R:Int×List Bd} {g:Nat} {ev:Value} {wr:World} (hV:V.length<=400000) (h:(ev=.int .i64 0/\Ru S q N V R g wr)∨M1 S q R ev wr):M1 S q R ev wr∨(ev=.int .i64 0/\Zc S q N V R g wr):=by
 rcases h with ⟨rfl,h,cs,hT,hU,hb,hr⟩|h
 ·rcases List.eq_nil_or_concat cs with rfl|⟨cs,x,rfl⟩
  ·left
   obtain⟨td,Y,hE,hR,hY,_⟩:=hT
   refine⟨0,h,false,Y,td,rfl,hE,hU.good,hU.names,by have:=hU.hlen; omega,Ad ?_,Ae ⟨rfl,?_⟩⟩
   ·cases g with
    |zero=>cases hr
    |succ g=>
     simp[AQ,Em]at hr
     exact hr.symm
   ·rcases hR.own.2 with ⟨h1,_⟩|⟨g,cap,cur,h1,_⟩
    ·exact⟨_,_,h1⟩
    ·exact⟨_,_,h1⟩
  ·right
   rw[List.concat_eq_append]at *
   simp only[Cr,BP,G9,List.reverse_append,List.reverse_cons,List.reverse_nil,DY,List.singleton_append] at hU hr hb
   exact⟨rfl,h,cs,x,hT,hU,hb (Da x) (by simp),λy hy=>hb y (by simp[hy]),hr⟩
 ·exact Ad h
theorem Ze {w:World} {N n g cap:Nat} {cs:List Ec} {x:Ec} (hn:cs.length=n) (h:w.ownsRow N 141 5 (.slice (some ⟨g,0,none⟩) (n+1) cap) (n+1) (CR (cs++[x]))):w.ownsRow N 141 5 (.slice (some ⟨g,0,none⟩) n cap) n (CR cs):=by
 subst hn
 refine⟨KK cs,Ae ?_⟩
 rcases h.2 with ⟨h1,_⟩|⟨g',cap',cur,h1,h2,h3,h4,h5,h6,h7⟩
 ·cases h1
 ·simp at h1
  obtain⟨rfl,rfl⟩:=h1
  refine⟨g,cap,cur,rfl,h2,h3,by omega,h5,h6,?_⟩
  have h8:(cur.toList.take ((cs.length+1)*5)).take (cs.length*5)=(CR (cs++[x])).take (cs.length*5):=by rw[h7]
  rw[List.take_take,Nat.min_eq_left (by omega),Jw,GI (by rw[KK]; omega),AW (l:=CR cs) (by rw[KK]; omega)]at h8
  exact h8
theorem Zf {w wr w4:World} {S q N:Nat} {V:List ByteArray} {R:Int×List Bd} {D g:Nat} {h:List (ByteArray×Tm)} {cs:List Ec} {x:Ec} {aa:Value} {w3:World} {e:Ending} (hV:V.length<=400000) (hU:UI V h (x.1.1::(cs.map Da).reverse.map (·.1))) (hb:∀y∈cs.map Da,y.2<=h.length/\(y.2=h.length->Ag (Ai h) y.1.l=y.1.l/\Ag (Ai h) y.1.r=y.1.r)) (hr:AQ false g (Ai h) (x.1.1::(cs.map Da).reverse.map (·.1))=some R)
  (hD:w3.heap[D]? = some (.deferred (some []))) (ai:D≠S) (aj:D≠q) (ak:some D≠aa.ownBlock) (hB:Below w.heap.size w w3) (hS:w.heap.size<=S) (hq:w.heap.size<=q) (ht:∀b,some b=aa.ownBlock->w.heap.size<=b)
  (hp:QU S q N h cs (Ag (Ai h) x.1.1.l) (Ag (Ai h) x.1.1.r) aa w3 e w4):∃(code:Int) (g1:Nat),e=.returned (.int .i64 code)/\g1<g/\M2 w S q N V R D g1 (.int .i64 code) w4:=by
 obtain⟨code,rfl,hx,hout⟩:=hp
 have hDl:D<w3.heap.size:=(DM.1 hD).1
 cases g with
 |zero=>cases hr
 |succ g=>
  refine⟨code,g,rfl,EM _,(hx.block D hDl (λhh=>?_)).trans hD,⟨hx.os.trans hB.os,hx.tape.trans hB.tape,hx.output.trans hB.output,AX hB.size hx.size,λk hk=>(hx.block k (Do hk hB.size) (λhh=>?_)).trans (hB.block k hk)⟩,?_⟩
  ·rcases hh with h1|h1|h1
   ·exact ai h1
   ·exact aj h1
   ·exact ak h1
  ·rcases hh with h1|h1|h1
   ·omega
   ·omega
   ·have:=ht k h1; omega
  ·have ao:=hr
   rw[AQ,ES]at hr
   rcases hout with ⟨hne,f',Y',aq,hE,hw⟩|⟨rfl,ag,ah,h',cs',new,hT,hC,hgo,hcs⟩
   ·right
    refine⟨code,h,f',Y',aq,rfl,hE,hU.good,hU.names,by have:=hU.hlen; omega,?_,Ad hne⟩
    rcases hw with rfl|hw
    ·have hg:=hE.2.2.2.2 rfl
     exact Ae ⟨hg,LP _ _ _ R.1 R.2 (by rw[ao]) hg⟩
    ·rw[hw]at hr
     simp at hr
     exact Ad hr.symm
   ·left
    rw[hgo]at hr
    have el:(cs'.map Da).reverse.map (·.1)=new++(cs.map Da).reverse.map (·.1):=by
     rw[hC]
     simp[List.map_reverse,Function.comp_def]
    refine⟨rfl,h',cs',hT,?_,?_,by rw[el]; exact hr⟩
    ·rw[el]
     rcases hcs with ⟨rfl,rfl⟩|⟨rfl,y,t,rfl,hv,ae,ho⟩|⟨rfl,rfl,hl⟩
     ·exact hU.drop
     ·exact(hU.bindV hv (by rcases ae with ⟨h1,h2⟩|⟨h1,h2⟩; exact Ad ⟨h1,h2⟩; exact Ae ⟨h1,h2⟩) ho).2
     ·exact(hU.deep ag ah hl).1
    ·rw[hC]
     intro y hy
     rcases Bg.1 hy with af|hy
     ·clear hy
      rcases hcs with ⟨rfl,rfl⟩|⟨rfl,z,t,rfl,hv,ae,ho⟩|⟨rfl,rfl,hl⟩
      ·exact hb y af
      ·have:=(hb y af).1
       refine⟨by simp; omega,λe=>?_⟩
       simp at e; omega
      ·exact hb y af
     ·obtain⟨p,hp,rfl⟩:=Cj.1 hy
      rcases hcs with ⟨rfl,rfl⟩|⟨rfl,z,t,rfl,hv,ae,ho⟩|⟨rfl,rfl,hl⟩
      ·simp at hp
      ·simp at hp
      ·exact⟨Aj _,λ_=>(hU.deep ag ah hl).2 p (by simpa using hp)⟩
theorem Zg {w W:World} {pre:List { x:Yx // G1 w x}} (h:KQ w pre W):∃cs:List Ec,Jy (w.heap.size+1) w.heap.size (w.heap.size+3) [] cs W/\cs.map Da=pre.map (λx=>(x.1.2.1,0))/\Below w.heap.size w W:=by
 obtain⟨td,cs,i1,i2,i3,i4,i5,i6,i7⟩:=h
 refine⟨cs,⟨td,λb=>b=w.heap.size+1∨b=w.heap.size,⟨⟨[],i1,i2,by simp,λi hi=>by simp at hi⟩,Ad rfl,Ae rfl,λb hb=>by rcases hb with rfl|rfl<;>omega,by simp⟩,⟨i3,λx hx=>⟨(i4 x hx).1.mono λb hb _=>Ad ⟨by omega,by omega,by omega⟩,(i4 x hx).2.mono λb hb _=>Ad ⟨by omega,by omega,by omega⟩⟩⟩,λb hb e=>?_,by omega,by omega,i7⟩,i5,i6⟩
 have:=(i3.lt b e.symm).1
 rcases hb with rfl|rfl<;>omega
def KT (R:Int×List Bd) (w:World) (e:Ending) (w':World):Prop:=
 Below w.heap.size w w'/\((AD R.2=true/\e=.returned (.tuple #[.slice none 0 0,.int .i64 8]))∨(AD R.2=false/\R.1≠0/\e=.returned (.tuple #[.slice none 0 0,.int .i64 R.1]))∨(AD R.2=false/\R.1=0/\∃v,e=.returned (.tuple #[v,.int .i64 0])/\BV w' (λb=>w.heap.size<=b) v R.2))
theorem Zh (g n:Nat):(⟨g,0,none⟩:Addr).add n=⟨g,n,none⟩:=by
 unfold Addr.add
 simp
 intro e
 omega
theorem Bx {w wr W:World} {v:Value} (h:Below w.heap.size w wr) (hz:(wr.setCell ⟨w.heap.size+1,0,none⟩ v).heap.size=wr.heap.size) (hb:Below (wr.setCell ⟨w.heap.size+1,0,none⟩ v).heap.size (wr.setCell ⟨w.heap.size+1,0,none⟩ v) W):Below w.heap.size w W:=by
 have hs:=h.size
 have hs2:=hb.size
 exact⟨hb.os.trans h.os,hb.tape.trans h.tape,hb.output.trans h.output,by omega,λk hk=>(hb.block k (by omega)).trans ((Aq _ _ _ _ (by simp; omega)).trans (h.block k hk))⟩
theorem KV {w wr w5:World} {D:Nat} (hD:w.heap.size+3<=D) (h:wr.heap[D]? = some (.deferred (some []))) (hx:Al (Ce (w.heap.size+1) w.heap.size) wr w5):w5.heap[D]? = some (.deferred (some [])):=
 (hx.block D (DM.1 h).1 (λhh=>by rcases hh with e|e<;>omega)).trans h
theorem KW {w wr w5:World} {D:Nat} (hD:w.heap.size+3<=D) (h:Below w.heap.size w wr) (hx:Al (Ce (w.heap.size+1) w.heap.size) wr w5) (o:Obj):Below w.heap.size w (w5.putObj D o):=
 ⟨hx.os.trans h.os, hx.tape.trans h.tape, hx.output.trans h.output, by rw [World.putObj_size]; exact AX h.size hx.size, λk hk => by
  rw[World.putObj_heap_other (by omega),hx.block k (Do hk h.size) (λhh=>by rcases hh with e|e<;>omega),h.block k hk]⟩
theorem Rv {R:Int×List Bd} {code:Int} {s:List Bd} (h:R=(code,s)∨(AD s=true/\AD R.2=true)) (hg:AD s=true):AD R.2=true:=by
 rcases h with rfl|h
 ·exact hg
 ·exact h.2
theorem Rw {R:Int×List Bd} {code:Int} {s:List Bd} (h:R=(code,s)∨(AD s=true/\AD R.2=true)) (hg:AD s=false):R=(code,s)/\AD s=false:=by
 rcases h with rfl|h
 ·exact⟨rfl,hg⟩
 ·rw[hg]at h; cases h.1
theorem Rx {h:List (ByteArray×Tm)} {w:World} {e:Ending} {w':World} (hc:(AD (Ai h)=true/\e=.returned (.tuple #[.slice none 0 0,.bool false]))∨(AD (Ai h)=false/\∃v,e=.returned (.tuple #[v,.bool true])/\BV w' (λb=>w.heap.size<=b) v (Ai h))):
  ∃v ok,e=.returned (.tuple #[v,.bool ok])/\((AD (Ai h)=true/\ok=false)∨(AD (Ai h)=false/\ok=true/\BV w' (λb=>w.heap.size<=b) v (Ai h))):=by
 rcases hc with ⟨h1,rfl⟩|⟨h1,v,rfl,h2⟩
 ·exact⟨_,_,rfl,Ad ⟨h1,rfl⟩⟩
 ·exact⟨_,_,rfl,Ae ⟨h1,rfl,h2⟩⟩
theorem Ry (aA:Hid MO) (n:Nat) (hn:6<=n) (b o:Nat) (a:Option Addr) (xs:List Pc) (c:Nat) (ha:xs=[]∨a=some ⟨b,o,none⟩) (bb:xs.length<=40) (V:List ByteArray) (hV:V.length<=400000) (hU:UI V [] (xs.map (·.1))) (R:Int×List Bd) (g0:Nat) (hrun:AQ false g0 [] (xs.map (·.1))=some R) (w:World) (aP:b<=w.heap.size) (hbx:xs=[]∨b<w.heap.size) (hL:MT w b o xs) (hS:∀x∈xs,Sl w (λb=>b<w.heap.size) x.2.1.1 x.1.l.args/\Sl w (λb=>b<w.heap.size) x.2.2.1 x.1.r.args):
  CallsIn Fence.wide n Tryz.prog 85 #[.slice a xs.length c] w λe w'=>KT R w e w':=by
 have h1:1<=n:=by omega
 have bc:=@run_makeMap Tryz.prog
 refine callsIn_of_wp_marks Tryz.func85 rfl trivial ?_ rfl
 simp only[Tryz.ntmps85,List.size_toArray,Bs,EN,Nat.reduceAdd,Nat.reduceSub,Lw,Lx,List.push_toArray,Ly,DY,Cf]
 have bf:Fence.wide.fn 99:=trivial
 have bg:Fence.wide.fn 101:=trivial
 have bh:Fence.wide.fn 100:=trivial
 gi_wp2_with (gi_at_call 99; refine(Yt Fence.wide (n-1) trivial rfl _ _ ⟨_,_,_,rfl⟩).mono ?_; rintro e w' ⟨rfl,rfl⟩)
 have hP:∀k (h:k<xs.length),G1 w ((k:Int),xs[k]):=λk h=>hS _ (AV h)
 have hW0:(((w.alloc (.map #[] 0)).alloc (.cells #[.slice none 0 0,.map (some w.heap.size),.bool false] 136)).alloc (.cells #[.slice a xs.length c] 22)).heap.size=w.heap.size+3:=by simp
 have aB:Below w.heap.size w (((w.alloc (.map #[] 0)).alloc (.cells #[.slice none 0 0,.map (some w.heap.size),.bool false] 136)).alloc (.cells #[.slice a xs.length c] 22)):=((((Af _ w).alloc (Aj _) _).alloc (by simp) _).alloc (by simp; omega) _)
 have aQ:Ac (((w.alloc (.map #[] 0)).alloc (.cells #[.slice none 0 0,.map (some w.heap.size),.bool false] 136)).alloc (.cells #[.slice a xs.length c] 22)) (w.heap.size+1) #[.slice none 0 0,.map (some w.heap.size),.bool false] 136:=by
  have h1:=(Ac.new (w.alloc (.map #[] 0)) #[.slice none 0 0,.map (some w.heap.size),.bool false] 136).alloc (.cells #[.slice a xs.length c] 22)
  rw[CN]at h1
  exact h1
 have aR:Bl (((w.alloc (.map #[] 0)).alloc (.cells #[.slice none 0 0,.map (some w.heap.size),.bool false] 136)).alloc (.cells #[.slice a xs.length c] 22)) w.heap.size []:=(Bl.new w).kept (by rw[AP _ _ _ (by simp; omega),AP _ _ _ (by simp)])
 have aw:(((w.alloc (.map #[] 0)).alloc (.cells #[.slice none 0 0,.map (some w.heap.size),.bool false] 136)).alloc (.cells #[.slice a xs.length c] 22)).cell? ⟨w.heap.size+1+1,0,none⟩=some (.slice a xs.length c):=by
  have h1:=(Ac.new ((w.alloc (.map #[] 0)).alloc (.cells #[.slice none 0 0,.map (some w.heap.size),.bool false] 136)) #[.slice a xs.length c] 22).cell 0
  rw[CN,CN]at h1
  exact h1
 generalize (((w.alloc (.map #[] 0)).alloc (.cells #[.slice none 0 0,.map (some w.heap.size),.bool false] 136)).alloc (.cells #[.slice a xs.length c] 22))=W0 at *
 refine wpIn_rangeFunc_ownH rfl h1 (gf:=117) (lb:=#[.pointer (some ⟨w.heap.size+1+1,0,none⟩)]) rfl trivial (enters_of Tryz.func117 (by kernel_rfl) rfl)
  (Yv Fence.wide (n-1) trivial rfl (by omega) (P:=G1 w) (Kp:=E8 w) (λA=>E8.refl _ _) (λh k=>E8.trans h k) (w.heap.size+1+1) b o c (fun {A B} h=>Y8 aP h) a xs hP ha (by omega) W0 (by omega) (by omega) aw (λj u hj=>by (rcases hbx with rfl|hbx); (simp[CH] at hj); rw[aB.cell (p:=⟨_,_,none⟩) (by simpa using hbx)]; exact hL j u hj))
  (λh k=>E8.trans h k) (λW l o o' hl ho _ _=>Za (by omega)) (Af _ _) (λ_=>rfl)
  (KQ w) (λ_ _ _=>False) (by rw[hW0]; exact Y7 w) (λ_ _ _ _ _ hs _ _=>hs) ⟨.slice none 0 0,[],aQ,aR,Ga _ _ _ _,by simp,by simp,aB,by omega⟩
  (λx a' W=>∃ae,w.heap.size+3<=ae/\Ac W ae #[.string x.1.2.1.l.name,.slice x.1.2.2.1.1 x.1.2.1.l.args.length x.1.2.2.1.2,.string x.1.2.1.r.name,.slice x.1.2.2.2.1 x.1.2.1.r.args.length x.1.2.2.2.2] 31/\a'={ tmps:=#[.slice a xs.length c,undef,.slice none 0 0,.int .i64 0,.pointer (some ⟨w.heap.size+1,0,none⟩),undef,.pointer (some ⟨ae,0,none⟩),undef,undef,undef,undef,undef,.map (some w.heap.size),.agg #[.slice none 0 0,.map (some w.heap.size),.bool false],.slice a xs.length c,.func (.func 117) #[] #[.pointer (some ⟨w.heap.size+1+1,0,none⟩)],.int .i64 x.1.1,.agg #[.string x.1.2.1.l.name,.slice x.1.2.2.1.1 x.1.2.1.l.args.length x.1.2.2.1.2,.string x.1.2.1.r.name,.slice x.1.2.2.2.1 x.1.2.1.r.args.length x.1.2.2.2.2],undef,undef,undef,undef,undef,undef,undef,undef,undef,undef,undef,undef,undef,undef,undef,undef,undef,undef,undef,undef,undef,undef,undef,undef,undef,undef,undef,undef,undef,undef,undef,undef,undef,undef,undef,undef,undef,undef,undef,undef,undef,undef,undef,undef],defers:=[]})
  (λx a' _ X Y row hs hg hr=>by
   obtain⟨ae,h1,h2,h3⟩:=hs
   refine⟨ae,h1,h2.grown hg (λe=>?_),h3⟩
   obtain⟨_,o,ho,hc⟩:=hr ae e.symm
   unfold Ac at h2
   rw[ho]at h2
   cases h2
   simp[Obj.isCells]at hc) ?assign ?body ?done ?stop
 case assign=>
  rintro l pre x W K hI hK
  dsimp only[KM]
  gi_wp2
  obtain⟨td,cs,i1,i2,i3,i4,i5,i6,i7⟩:=hI
  refine hK _ _ ((KeepsOthers.alloc _ _).from _) ⟨(Al.refl _ _).alloc _,λk h1 h2=>AP _ _ _ (by omega)⟩ ⟨td,cs,i1.alloc _,i2.kept (AP _ _ _ (by omega)),i3.alloc _,λy hy=>⟨(i4 y hy).1.later ((Af _ _).alloc (Aj _) _),(i4 y hy).2.later ((Af _ _).alloc (Aj _) _)⟩,i5,i6.alloc (by omega) _,by simp; omega⟩ ⟨W.heap.size,i7,Ac.new W _ _,rfl⟩
 case body=>
  rintro l pre x a' W hl hr hI ⟨ae,bj,bX,rfl⟩ hlt
  obtain⟨td,cs,i1,i2,i3,i4,i5,i6,i7⟩:=hI
  obtain⟨⟨xi,⟨xp,⟨xa,xc⟩,⟨ya,yc⟩⟩⟩,hx1,hx2⟩:=x
  dsimp only at bX hx1 hx2 ⊢
  have s0:=i1.c0
  have p0:W.cell? ⟨ae,0,none⟩=some (.string xp.l.name):=bX.cell 0
  have p1:W.cell? ⟨ae,1,none⟩=some (.slice xa xp.l.args.length xc):=bX.cell 1
  have p2:W.cell? ⟨ae,2,none⟩=some (.string xp.r.name):=bX.cell 2
  have p3:W.cell? ⟨ae,3,none⟩=some (.slice ya xp.r.args.length yc):=bX.cell 3
  obtain⟨i0,aS,hz0,hz1,hz2⟩:=CT Tryz.infoEq
  have bk:cs.length<=40:=by have:=Bu List.length i5; simp at this; omega
  gi_wp2_with (gi_at_builtin; go_loud (refine wpListIn_append_own_at _ rfl (.tmp 19) (.tmp 25) 134 rfl (w.heap.size+3) 141 i0 _ 5 88 Tryz.underlying134 aS hz0 hz1 hz2 rfl (by decide) td cs.length (CR cs) rfl (i3.alloc _) ⟨W.heap.size,0,none⟩ 1 1 [.string xp.l.name,.slice xa xp.l.args.length xc,.string xp.r.name,.slice ya xp.r.args.length yc,.int .i64 0] rfl rfl (MR _ _ _ _ _ _ _) (λu hu=>by simp at hu; rcases hu with rfl|rfl|rfl|rfl|rfl<;>rfl) (by unfold maxLen; omega) (by omega) (by simp; omega) ?_); intro v' w3 ho hg _ bl; obtain⟨g',cap',rfl⟩:=Rt ho; have s3:w3.cell? ⟨w.heap.size+1,0,none⟩=some td:=((i1.alloc _).grown hg (λe=>by have:=(i3.lt _ e.symm).1; omega)).cell 0; have f3:w3.frozen? ⟨w.heap.size+1,0,none⟩=false:=((i1.alloc _).grown hg (λe=>by have:=(i3.lt _ e.symm).1; omega)).frozen 0)
  have ax:=Zb (x:=⟨(xi,xp,(xa,xc),ya,yc),hx1,hx2⟩) i1 i2 i3 i4 i5 i6 i7 ho hg
  rw[hW0]
  exact ax
 case done=>
  rintro D ys W hD rfl hI aC
  have hst:M2 w (w.heap.size+1) w.heap.size (w.heap.size+3) V R D g0 (.int .i64 0) W:=by
   obtain⟨cs,hT,hC,hB⟩:=Zg hI
   have e1:(cs.map Da).reverse.map (·.1)=xs.map (·.1):=by
    have e2:=QY (P:=G1 w) (xs:=xs) (hP:=hP) xs.length (Aj _)
    rw[hC,<-List.map_reverse,List.map_map,List.map_reverse]
    have e3:((λx:Pr×Nat=>x.1)∘λx:{ x:Yx // G1 w x}=>(x.1.2.1,0))=λx=>x.1.2.1:=rfl
    rw[e3,e2,EO,List.reverse_reverse]
   refine⟨aC,hB,Ad ⟨rfl,[],cs,hT,by rw[e1]; exact hU,?_,by rw[e1]; exact hrun⟩⟩
   rw[hC]
   intro y hy
   obtain⟨z,_,rfl⟩:=Cj.1 hy
   exact⟨AE _,λ_=>⟨Jv (by simp[Ai]),Jv (by simp[Ai])⟩⟩
  have HST:=Aa hst
  clear hst hI aC
  gi_wp2
  gi_loopg [7] g0 (λg ev wr=>M2 w (w.heap.size+1) w.heap.size (w.heap.size+3) V R D g ev wr)
  case atStart=>exact HST.out
  case round=>
   have hDl:w.heap.size+3<=D:=by omega
   obtain⟨ah,ar,ay⟩:=hrel
   rcases Zd hV ay with ⟨code,h,f,Y,td,rfl,hE,hgd,aD,aF,hR,ai⟩|⟨rfl,h,cs,x,hT,az,hbx,aG,aH⟩
   ·have HE:=Aa hE
    have HR:=Aa hR
    have HB:=Aa ar
    have HD:=Aa ah
    clear ay hR ar ah
    obtain⟨⟨L,hB,hM,a6⟩,_⟩:=hE
    have s0:=hB.c0
    clear hB hM a6
    rcases ai with hne|⟨rfl,a0,c0,rfl⟩
    ·have hce:(code==0)=false:=DL.2 hne
     have bm:(code !=0)=true:=by simp[bne,hce]
     gi_wp2_with (gi_at_call 101; refine(DN.2 (QI aA (w.heap.size+1) w.heap.size td h hgd aD aF wr Y f HE.out)).mono ?_; rintro e w5 ⟨af,aj⟩; obtain⟨v5,ak,rfl,aI⟩:=Rx aj; clear aj)
     ·have au:ak=false:=by simp_all
      refine⟨by simp,.inl ⟨_,_,rfl,run_takeDeferred (KV hDl HD.out af),?_⟩⟩
      refine⟨.tuple #[.slice none 0 0,.int .i64 8],by simp[results,Tryz.results85,go_sem],KW hDl HB.out af _,Ad ⟨Rv HR.out (by simp_all),rfl⟩⟩
     ·have au:ak=true:=by simp_all
      have ao:=Rw HR.out (show AD (Ai h)=false by simp_all)
      refine⟨by simp,.inl ⟨_,_,rfl,run_takeDeferred (KV hDl HD.out af),?_⟩⟩
      refine⟨.tuple #[.slice none 0 0,.int .i64 code],by simp[results,Tryz.results85,go_sem],KW hDl HB.out af _,Ae (Ad ?_)⟩
      rw[ao.1]
      exact⟨ao.2,hne,rfl⟩
    ·gi_wp2_with (gi_at_call 101; refine(DN.2 (QI aA (w.heap.size+1) w.heap.size (.slice a0 0 c0) h hgd aD aF wr Y f HE.out)).mono ?_; rintro e w5 ⟨af,aj⟩; obtain⟨v5,ak,rfl,aI⟩:=Rx aj; clear aj)
     ·have au:ak=false:=by simp_all
      refine⟨by simp,.inl ⟨_,_,rfl,run_takeDeferred (KV hDl HD.out af),?_⟩⟩
      refine⟨.tuple #[.slice none 0 0,.int .i64 8],by simp[results,Tryz.results85,go_sem],KW hDl HB.out af _,Ad ⟨Rv HR.out (by simp_all),rfl⟩⟩
     ·have au:ak=true:=by simp_all
      have ao:=Rw HR.out (show AD (Ai h)=false by simp_all)
      have aT:BV w5 (λb=>wr.heap.size<=b) v5 (Ai h):=by
       rcases aI with h1|h1
       ·rw[au]at h1; cases h1.2
       ·exact h1.2.2
      refine⟨by simp,.inl ⟨_,_,rfl,run_takeDeferred (KV hDl HD.out af),?_⟩⟩
      refine⟨.tuple #[v5,.int .i64 0],by simp[results,Tryz.results85,go_sem],KW hDl HB.out af _,Ae (Ae ?_)⟩
      rw[ao.1]
      exact⟨ao.2,rfl,v5,rfl,(aT.kept λb hb=>World.putObj_heap_other (by have:=(DM.1 HD.out).1; omega)).mono λb hb _=>AX HB.out.size hb⟩
   ·obtain⟨td,Y,hE,a7,hY,_,_,bn⟩:=hT
    have hlen:cs.length<=900000000:=by
     have h1:=az.llen
     simp at h1
     omega
    have hown:=a7.own
    rw[Dm]at hown
    obtain⟨g,cap,rfl⟩:=Rt hown
    have aq:=Ze rfl hown
    have aU:cs.length+1<=cap:=by
     rcases hown.2 with ⟨h1,_⟩|⟨g',cap',cur,h1,h2,h3,h4,_⟩
     ·cases h1
     ·simp at h1
      obtain⟨_,rfl⟩:=h1
      simpa using h4
    obtain⟨⟨p,⟨a1,c1⟩,⟨a2,c2⟩⟩,j⟩:=x
    have cc:∀i u,(EI ((p,(a1,c1),(a2,c2)),j))[i]? = some u->i<5->wr.cell? ⟨g,cs.length*5+i,none⟩=some u:=λi u hu hi=>by
     have h1:=hown.cells (g:=g) rfl (cs.length*5+i) u (by rw[QQ (cs++[_]) cs.length (by simp) i hi]; simpa using hu)
     rw[Zh]at h1
     exact h1
    have k0:=cc 0 _ rfl (by decide)
    have k1:=cc 1 _ rfl (by decide)
    have k2:=cc 2 _ rfl (by decide)
    have k3:=cc 3 _ rfl (by decide)
    have k4:=cc 4 _ rfl (by decide)
    simp only[FL] at k0
    obtain⟨⟨L,hB,hM,a6⟩,_⟩:=id hE
    have s0:wr.cell? ⟨w.heap.size+1,0,none⟩=some (.slice (some ⟨g,0,none⟩) (cs.length+1) cap):=hB.cell 0
    have bo:∀o,(wr.alloc o).cell? ⟨w.heap.size+1,0,none⟩=some (.slice (some ⟨g,0,none⟩) (cs.length+1) cap):=λo=>(hB.alloc o).cell 0
    have bp:∀o,(wr.alloc o).frozen? ⟨w.heap.size+1,0,none⟩=false:=λo=>(hB.alloc o).frozen 0
    have HE:=Aa hE
    have aJ:=Aa a7
    have HY:=Aa hY
    have ag:=Aa aq
    have HU:=Aa az
    have aK:=Aa hbx
    have aV:=Aa aG
    have aW:=Aa aH
    have HB:=Aa ar
    have HD:=Aa ah
    clear hE a7 hY aq az hbx aG aH ar ah hB hM a6 hown cc ay
    gi_wp2_with fail
    have aL:w.heap.size+1<w.heap.size+3:=by omega
    have aX:w.heap.size<w.heap.size+3:=by omega
    have av:Below (wr.setCell ⟨w.heap.size+1,0,none⟩ (.slice (some ⟨g,0,none⟩) cs.length cap)).heap.size (wr.setCell ⟨w.heap.size+1,0,none⟩ (.slice (some ⟨g,0,none⟩) cs.length cap)) ((wr.setCell ⟨w.heap.size+1,0,none⟩ (.slice (some ⟨g,0,none⟩) cs.length cap)).alloc (.cells #[.string p.l.name,.slice a1 p.l.args.length c1,.string p.r.name,.slice a2 p.r.args.length c2,.int .i64 (j:Int)] 141)):=(Af _ _).alloc (Aj _) _
    have hz1:(wr.setCell ⟨w.heap.size+1,0,none⟩ (.slice (some ⟨g,0,none⟩) cs.length cap)).heap.size=wr.heap.size:=by simp[World.setCell]
    have hr1:CZ wr (w.heap.size+3) (λb=>b<w.heap.size+3/\b≠w.heap.size+1/\b≠w.heap.size) (.slice (some ⟨g,0,none⟩) cs.length cap) cs:=⟨ag.out,λy hy=>aJ.out.row y (by simp[hy])⟩
    have hx1:=aJ.out.row ((p,(a1,c1),(a2,c2)),j) (by simp)
    have aM:∀(aa:Option Addr) (l:List Tm),Sl wr (λb=>(b<w.heap.size+3/\b≠w.heap.size+1/\b≠w.heap.size)∨(w.heap.size+3<=b/\some b≠some g)) aa l->Sl ((wr.setCell ⟨w.heap.size+1,0,none⟩ (.slice (some ⟨g,0,none⟩) cs.length cap)).alloc (.cells #[.string p.l.name,.slice a1 p.l.args.length c1,.string p.r.name,.slice a2 p.r.args.length c2,.int .i64 (j:Int)] 141)) (λb=>(b<w.heap.size+3/\b≠w.heap.size+1/\b≠w.heap.size)∨(w.heap.size+3<=b/\some b≠some g)) aa l:=λaa l aY=>(aY.kept λb hb=>Aq _ _ _ _ (by
     simp
     rcases hb with hb|hb
     ·exact hb.2.1
     ·omega)).later av
    have bq:w.heap.size+3<=g/\g<wr.heap.size:=ag.out.lt g rfl
    have aZ:D≠g:=λe=>by
     subst e
     rcases ag.out.2 with ⟨h1,_⟩|⟨g',cap',cur,h1,h2,h3,_⟩
     ·cases h1
     ·simp at h1
      obtain⟨rfl,rfl⟩:=h1
      rw[HD.out]at h3
      cases h3
    have ah:D<wr.heap.size:=(DM.1 HD.out).1
    have WO:=Ys (w.heap.size+1) w.heap.size (w.heap.size+3) V h cs p ((cs.map Da).reverse.map (·.1)) HU.out j aK.out.1 aK.out.2 hlen hV a1 c1 a2 c2 _ (.slice (some ⟨g,0,none⟩) cs.length cap) Y ((Dd _ _ _ h).below (QR HE.out (λ_ _=>rfl)) av) ((hr1.setCell aL (λhb=>hb.2.1 rfl) _).below av) HY.out aL aX (by simp[World.setCell]; omega) (aM _ _ hx1.1) (aM _ _ hx1.2)
    refine(DN.2 WO).mono ?_
    clear WO
    rintro e w4 aN
    obtain⟨code,g1,rfl,a8,aO⟩:=Zf (x:=((p,(a1,c1),(a2,c2)),j)) (w:=w) (wr:=wr) (D:=D) (R:=R) hV HU.out aV.out aW.out (by rw[AP _ _ _ (by rw[hz1]; exact ah),Aq _ _ _ _ (by simp; omega)]; exact HD.out) (by omega) (by omega) (λe=>aZ (by simpa [Value.ownBlock] using e)) (Bx HB.out hz1 av) (by omega) (Aj _) (λb hb=>by (have e:b=g:=Hf hb); rw[e]; omega) aN
    have ba:=Aa aO
    clear aO aN
    gi_wp2
    gi_roundg g1
    case rel=>exact ba.out
    case measure=>exact a8
 case stop=>
  rintro D c pre W _ _ h _
  exact h.elim
end Go.Proofs.YtlkeafenklamjaaGreatDoor
