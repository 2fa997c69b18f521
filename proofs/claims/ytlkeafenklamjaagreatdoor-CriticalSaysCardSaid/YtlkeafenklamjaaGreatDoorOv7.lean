import Derived.Test.YtlkeafenklamjaaGreatDoorOv6
namespace Go.Proofs.YtlkeafenklamjaaGreatDoor
set_option linter.all false
set_option maxRecDepth 20000
set_option maxHeartbeats 8000000
open Go.RowKit
structure IU (U:List Pr->Int×List Bd) (ab:Pr×Pr) (same:Bool) (K:Nat->Prop) (A R4 R5 L:Nat) (lo:Loop) (W0:World) (pre:List Dn) (s:Bool) (f:Nat->Prop) (W:World) (v:Value) (cs:List Pc) (F:Nat->Prop):Prop where
 ky:∀b,K b->b<W0.heap.size/\¬f b
 sz:W0.heap.size<=W.heap.size
 kp:∀b,K b->W.heap[b]? = W0.heap[b]?
 lp:W.heap[L]? = some (.loop lo)
 b4:Ac W R4 #[.slice none 0 0] 22
 b5:Ac W R5 #[.int .i64 (if s=true then 0 else 8)] 24
 ff:∀b,f b↔b=L∨b=A∨b=R4∨b=R5∨F b
 fi:∀b,F b->W0.heap.size<=b/\b<W.heap.size
 fo:∀b,v.ownBlock=some b->F b
 ba:Ac W A #[v] 22
 ow:W.ownsRow W0.heap.size 31 4 v cs.length (CH cs)
 ro:∀x∈cs,Sl W (λb=>F b/\some b≠v.ownBlock) x.2.1.1 x.1.l.args/\Sl W (λb=>F b/\some b≠v.ownBlock) x.2.2.1 x.1.r.args
 yes:s=true->cs.map (·.1)=pre.filterMap (Eg U ab same)/\∀d∈pre,¬Dk U ab same d
 no:s=false->∃d∈pre,Dk U ab same d
def JO (U:List Pr->Int×List Bd) (ab:Pr×Pr) (same:Bool) (K:Nat->Prop) (A R4 R5 L:Nat) (r rd:Loop) (W0:World):Tk Dn:=λpre s f W=>
 ∃v cs F,IU U ab same K A R4 R5 L (if s=true then r else rd) W0 pre s f W v cs F
def Hz (A R4 R5 L N:Nat):Prop:=A<N/\R4<N/\R5<N/\L<N/\A≠R4/\A≠R5/\A≠L/\R4≠R5/\R4≠L/\R5≠L
section
variable {U:List Pr->Int×List Bd} {ab:Pr×Pr} {same:Bool} {K:Nat->Prop} {A R4 R5 L:Nat} {r rd rb:Loop} {W0:World}
theorem JO.ok:Fx (JO U ab same K A R4 R5 L r rd W0) K where
 inside:=by
  rintro pre s f W ⟨v,cs,F,h⟩ b hb
  rcases hb with hb|hb
  ·rcases(h.ff b).1 hb with e|e|e|e|e
   ·subst e; exact(DM.1 h.lp).1
   ·subst e; exact h.ba.lt
   ·subst e; exact h.b4.lt
   ·subst e; exact h.b5.lt
   ·exact(h.fi b e).2
  ·have:=(h.ky b hb).1; have:=h.sz; omega
 apart:=by
  rintro pre s f W ⟨v,cs,F,h⟩ b hb
  exact(h.ky b hb).2
 abide:=by
  rintro pre s f W W' ⟨v,cs,F,h⟩ hs hk
  have kf:∀b,f b->W'.heap[b]? = W.heap[b]? := λb hb=>hk b (Ad hb)
  have kF:∀b,F b->W'.heap[b]? = W.heap[b]? := λb hb=>kf b ((h.ff b).2 (Ae (Ae (Ae (Ae hb)))))
  exact⟨v,cs,F,{ ky:=h.ky,sz:=AX h.sz hs,kp:=λb hb=>(hk b (Ae hb)).trans (h.kp b hb),lp:=(kf L ((h.ff L).2 (Ad rfl))).trans h.lp,b4:=(kf R4 ((h.ff R4).2 (Ae (Ae (Ad rfl))))).trans h.b4,b5:=(kf R5 ((h.ff R5).2 (Ae (Ae (Ae (Ad rfl)))))).trans h.b5,ff:=h.ff,fi:=λb hb=>⟨(h.fi b hb).1,Do (h.fi b hb).2 hs⟩,fo:=h.fo,ba:=(kf A ((h.ff A).2 (Ae (Ad rfl)))).trans h.ba,ow:=DG h.ow λg hg=>kF g (h.fo g hg),ro:=λx hx=>⟨(h.ro x hx).1.kept λb hb=>kF b hb.1,(h.ro x hx).2.kept λb hb=>kF b hb.1⟩,yes:=h.yes,no:=h.no}⟩
theorem JD (hd:Hz A R4 R5 L W0.heap.size) {pre:List Dn} {f:Nat->Prop} {W V:World} {v:Value} {cs:List Pc} {F:Nat->Prop} (h:IU U ab same K A R4 R5 L r W0 pre true f W v cs F) (hz:W.heap.size<=V.heap.size) (aa:V.os=W.os/\V.tape=W.tape/\V.output=W.output) (hk:∀b,b<W.heap.size->b≠L->V.heap[b]? = W.heap[b]?) (hL:V.heap[L]? = some (.loop rb)) {d:Dn} (hs:CS U ab same d=true):
  V.heap[L]? = some (.loop rb)/\∃f',JO U ab same K A R4 R5 L r rd W0 (pre++[d]) true f' (V.putObj L (.loop r))/\Al f W (V.putObj L (.loop r))/\∀b,f' b->f b∨W.heap.size<=b:=by
 have ae:=(DM.1 hL).1
 have po:∀b,b<W.heap.size->b≠L->(V.putObj L (.loop r)).heap[b]? = W.heap[b]? := λb hb hne=>(World.putObj_heap_other hne).trans (hk b hb hne)
 have hsz:=h.sz
 obtain⟨d1,d2,d3,d4,d5,d6,d7,d8,d9,d10⟩:=hd
 have pF:∀b,F b->(V.putObj L (.loop r)).heap[b]? = W.heap[b]? := λb hb=>po b (h.fi b hb).2 (by have:=(h.fi b hb).1; omega)
 refine⟨hL,f,⟨v,cs,F,{ ky:=h.ky,sz:=by simp; omega,kp:=λb hb=>(po b (by have:=(h.ky b hb).1; omega) (λe=>(h.ky b hb).2 ((h.ff b).2 (Ad e)))).trans (h.kp b hb),lp:=World.putObj_heap_same ae,b4:=(po _ h.b4.lt d9).trans h.b4,b5:=(po _ h.b5.lt d10).trans h.b5,ff:=h.ff,fi:=λb hb=>⟨(h.fi b hb).1,by have:=(h.fi b hb).2; simp; omega⟩,fo:=h.fo,ba:=(po _ h.ba.lt d7).trans h.ba,ow:=DG h.ow λg hg=>pF g (h.fo g hg),ro:=λx hx=>⟨(h.ro x hx).1.kept λb hb=>pF b hb.1,(h.ro x hx).2.kept λb hb=>pF b hb.1⟩,yes:=λ_=>?_,no:=λe=>by cases e}⟩,⟨aa.1,aa.2.1,aa.2.2,by simpa using hz,λb hb hn=>po b hb (λe=>hn ((h.ff b).2 (Ad e)))⟩,λb hb=>Ad hb⟩
 obtain⟨y1,y2⟩:=h.yes rfl
 refine⟨by rw[y1]; simp[Eg,hs],λc hc=>?_⟩
 rcases Bg.1 hc with e|e
 ·exact y2 c e
 ·rw[Gf.1 e]
  intro q
  have:=q.1
  rw[hs]at this
  cases this
theorem RN (hd:Hz A R4 R5 L W0.heap.size) {pre:List Dn} {f:Nat->Prop} {W V:World} {v:Value} {cs:List Pc} {F:Nat->Prop} (h:IU U ab same K A R4 R5 L r W0 pre true f W v cs F) (hz:W.heap.size<=V.heap.size) (aa:V.os=W.os/\V.tape=W.tape/\V.output=W.output) (hk:∀b,b<W.heap.size->b≠L->b≠R4->b≠R5->V.heap[b]? = W.heap[b]?) (hL:V.heap[L]? = some (.loop rb)) (h4:Ac V R4 #[.slice none 0 0] 22) (h5:Ac V R5 #[.int .i64 8] 24) {d:Dn} (hs:Dk U ab same d):
  V.heap[L]? = some (.loop rb)/\∃f',JO U ab same K A R4 R5 L r rd W0 (pre++[d]) false f' (V.putObj L (.loop rd))/\Al f W (V.putObj L (.loop rd))/\∀b,f' b->f b∨W.heap.size<=b:=by
 have ae:=(DM.1 hL).1
 have po:∀b,b<W.heap.size->b≠L->b≠R4->b≠R5->(V.putObj L (.loop rd)).heap[b]? = W.heap[b]? := λb hb hne h1 h2=>(World.putObj_heap_other hne).trans (hk b hb hne h1 h2)
 have hsz:=h.sz
 obtain⟨d1,d2,d3,d4,d5,d6,d7,d8,d9,d10⟩:=hd
 have pF:∀b,F b->(V.putObj L (.loop rd)).heap[b]? = W.heap[b]? := λb hb=>by have h1:=h.fi b hb; exact po b h1.2 (by omega) (by omega) (by omega)
 refine⟨hL,f,⟨v,cs,F,{ ky:=h.ky,sz:=by simp; omega,kp:=λb hb=>(po b (by have:=(h.ky b hb).1; omega) (λe=>(h.ky b hb).2 ((h.ff b).2 (Ad e))) (λe=>(h.ky b hb).2 ((h.ff b).2 (Ae (Ae (Ad e))))) (λe=>(h.ky b hb).2 ((h.ff b).2 (Ae (Ae (Ae (Ad e))))))).trans (h.kp b hb),lp:=World.putObj_heap_same ae,b4:=(World.putObj_heap_other d9).trans h4,b5:=(World.putObj_heap_other d10).trans h5,ff:=h.ff,fi:=λb hb=>⟨(h.fi b hb).1,by have:=(h.fi b hb).2; simp; omega⟩,fo:=h.fo,ba:=(po _ h.ba.lt d7 d5 d6).trans h.ba,ow:=DG h.ow λg hg=>pF g (h.fo g hg),ro:=λx hx=>⟨(h.ro x hx).1.kept λb hb=>pF b hb.1,(h.ro x hx).2.kept λb hb=>pF b hb.1⟩,yes:=(λe=>by cases e),no:=λ_=>⟨d,by simp,hs⟩}⟩,⟨aa.1,aa.2.1,aa.2.2,by simpa using hz,λb hb hn=>po b hb (λe=>hn ((h.ff b).2 (Ad e))) (λe=>hn ((h.ff b).2 (Ae (Ae (Ad e))))) (λe=>hn ((h.ff b).2 (Ae (Ae (Ae (Ad e))))))⟩,λb hb=>Ad hb⟩
theorem RO (hd:Hz A R4 R5 L W0.heap.size) {pre:List Dn} {f:Nat->Prop} {W V:World} {v v2:Value} {cs:List Pc} {F:Nat->Prop} (h:IU U ab same K A R4 R5 L r W0 pre true f W v cs F) (hz:W.heap.size<=V.heap.size) (af:V.os=W.os/\V.tape=W.tape/\V.output=W.output) (hk:∀b,b<W.heap.size->b≠L->b≠A->some b≠v.ownBlock->V.heap[b]? = W.heap[b]?) (hL:V.heap[L]? = some (.loop rb)) (hA:Ac V A #[v2] 22) (x:Pc) (ho:V.ownsRow W0.heap.size 31 4 v2 (cs++[x]).length (CH (cs++[x]))) (hv2:∀k,v2.ownBlock=some k->v.ownBlock=some k∨W.heap.size<=k) (hx:Sl V (λb=>W.heap.size<=b/\some b≠v2.ownBlock) x.2.1.1 x.1.l.args/\Sl V (λb=>W.heap.size<=b/\some b≠v2.ownBlock) x.2.2.1 x.1.r.args) {d:Dn} (hq:CS U ab same d=false) (hx1:x.1=Dz (DT U ab d)) (ah:¬Dk U ab same d):
  V.heap[L]? = some (.loop rb)/\∃f',JO U ab same K A R4 R5 L r rd W0 (pre++[d]) true f' (V.putObj L (.loop r))/\Al f W (V.putObj L (.loop r))/\∀b,f' b->f b∨W.heap.size<=b:=by
 have ai:=(DM.1 hL).1
 have po:∀b,b<W.heap.size->b≠L->b≠A->some b≠v.ownBlock->(V.putObj L (.loop r)).heap[b]? = W.heap[b]? := λb hb hne h1 h2=>(World.putObj_heap_other hne).trans (hk b hb hne h1 h2)
 have hsz:=h.sz
 obtain⟨d1,d2,d3,d4,d5,d6,d7,d8,d9,d10⟩:=hd
 have ag:=h.ow.lt
 have aa:=ho.lt
 have nv:∀b,b<W0.heap.size->some b≠v.ownBlock:=λb hb e=>by have:=(ag b e.symm).1; omega
 have ae:(V.putObj L (.loop r)).heap.size=V.heap.size:=by simp
 have pF:∀b,F b/\some b≠v.ownBlock->(V.putObj L (.loop r)).heap[b]? = W.heap[b]? := λb hb=>by have h1:=h.fi b hb.1; exact po b h1.2 (by omega) (by omega) hb.2
 have pV:∀b,W0.heap.size<=b->(V.putObj L (.loop r)).heap[b]? = V.heap[b]? := λb hb=>World.putObj_heap_other (by omega)
 have old:∀ {a:Option Addr} {l:List Tm},Sl W (λb=>F b/\some b≠v.ownBlock) a l->Sl (V.putObj L (.loop r)) (λb=>(F b∨(W.heap.size<=b/\b<V.heap.size))/\some b≠v2.ownBlock) a l:=λhs=>(hs.kept pF).mono λb hb _=>⟨Ad hb.1,λe=>by
  rcases hv2 b e.symm with q|q
  ·exact hb.2 q.symm
  ·have:=(h.fi b hb.1).2; omega⟩
 have new:∀ {a:Option Addr} {l:List Tm},Sl V (λb=>W.heap.size<=b/\some b≠v2.ownBlock) a l->Sl (V.putObj L (.loop r)) (λb=>(F b∨(W.heap.size<=b/\b<V.heap.size))/\some b≠v2.ownBlock) a l:=λhs=>(hs.kept λb hb=>pV b (by omega)).mono λb hb hl=>⟨Ae ⟨hb.1,by rw[ae] at hl; exact hl⟩,hb.2⟩
 refine⟨hL,λb=>b=L∨b=A∨b=R4∨b=R5∨(F b∨(W.heap.size<=b/\b<V.heap.size)),⟨v2,cs++[x],λb=>F b∨(W.heap.size<=b/\b<V.heap.size),{ ky:=λb hb=>⟨(h.ky b hb).1,λe=>(h.ky b hb).2 ((h.ff b).2 ?_)⟩,sz:=by rw[ae]; omega,kp:=λb hb=>?_,lp:=World.putObj_heap_same ai,b4:=(po _ h.b4.lt d9 (D6 d5) (nv _ d2)).trans h.b4,b5:=(po _ h.b5.lt d10 (D6 d6) (nv _ d3)).trans h.b5,ff:=λb=>Iff.rfl,fi:=λb hb=>?_,fo:=λb hb=>?_,ba:=(World.putObj_heap_other d7).trans hA,ow:=DG ho λg hg=>pV g (aa g hg).1,ro:=λy hy=>?_,yes:=λ_=>?_,no:=λe=>by cases e}⟩,⟨af.1,af.2.1,af.2.2,by rw[ae]; exact hz,λb hb hn=>po b hb (λe=>hn ((h.ff b).2 (Ad e))) (λe=>hn ((h.ff b).2 (Ae (Ad e)))) (λe=>hn ((h.ff b).2 (Ae (Ae (Ae (Ae (h.fo b e.symm)))))))⟩,λb hb=>?_⟩
 ·have h1:=(h.ky b hb).1
  rcases e with e|e|e|e|e|e
  ·exact Ad e
  ·exact Ae (Ad e)
  ·exact Ae (Ae (Ad e))
  ·exact Ae (Ae (Ae (Ad e)))
  ·exact Ae (Ae (Ae (Ae e)))
  ·omega
 ·have h1:=(h.ky b hb).1
  exact(po b (by omega) (λe=>(h.ky b hb).2 ((h.ff b).2 (Ad e))) (λe=>(h.ky b hb).2 ((h.ff b).2 (Ae (Ad e)))) (nv b h1)).trans (h.kp b hb)
 ·rw[ae]
  rcases hb with e|e
  ·have:=h.fi b e; omega
  ·omega
 ·have h1:=aa b hb
  rcases hv2 b hb with e|e
  ·exact Ad (h.fo b e)
  ·exact Ae ⟨e,h1.2⟩
 ·rcases Bg.1 hy with e|e
  ·exact⟨old (h.ro y e).1,old (h.ro y e).2⟩
  ·rw[Gf.1 e]
   exact⟨new hx.1,new hx.2⟩
 ·obtain⟨y1,y2⟩:=h.yes rfl
  refine⟨by rw[Cr,y1]; simp[Eg,hq,hx1],λc hc=>?_⟩
  rcases Bg.1 hc with e|e
  ·exact y2 c e
  ·rw[Gf.1 e]
   exact ah
 ·rcases hb with e|e|e|e|e|e
  ·exact Ad ((h.ff b).2 (Ad e))
  ·exact Ad ((h.ff b).2 (Ae (Ad e)))
  ·exact Ad ((h.ff b).2 (Ae (Ae (Ad e))))
  ·exact Ad ((h.ff b).2 (Ae (Ae (Ae (Ad e)))))
  ·exact Ad ((h.ff b).2 (Ae (Ae (Ae (Ae e)))))
  ·exact Ae e.1
end
end Go.Proofs.YtlkeafenklamjaaGreatDoor
