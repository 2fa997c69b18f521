/- Several texts in one. -/
import Derived.Test.YtlkeafenklamjaaGreatDoorZCriticalSaysOwn
import Derived.Deep.RegionHeld
import Derived.Deep.RegionHeld3
import Derived.Deep.DeepCutAuto
import Derived.Laws.OwnMore
import Derived.Lib.AppendIntMem
import Derived.Deep.AppendSrc
import Derived.Sort.Grow
import Derived.Maps.RangeRun
namespace Go.Proofs.YtlkeafenklamjaaGreatDoor
set_option linter.all false
set_option maxRecDepth 20000
set_option maxHeartbeats 8000000
open Go.RowKit
def D2 (w:World) (X:Nat->Prop):List Lm->List Value->Prop
 | [],xs=>xs=[]
 |t::l,xs=>∃a c r,xs=.int .i64 t.kind::.int .i64 t.idx::.slice a t.subs.length c::r/\CV w X a t.subs/\D2 w X l r
theorem D2.len {w:World} {X:Nat->Prop}:∀ {l:List Lm} {xs:List Value},D2 w X l xs->xs.length=l.length*3
 | [],xs,h=>by simp[D2] at h; simp[h]
 |t::l,xs,h=>by
  obtain⟨a,c,r,rfl,_,h⟩:=h
  simp only[Bs]
  rw[D2.len h]; omega
theorem D2.append {w:World} {X:Nat->Prop}:∀ {l k:List Lm} {xs ys:List Value},D2 w X l xs->D2 w X k ys->D2 w X (l++k) (xs++ys)
 | [],k,xs,ys,h,h'=>by simp[D2] at h; subst h; simpa using h'
 |t::l,k,xs,ys,h,h'=>by
  obtain⟨a,c,r,rfl,hs,h⟩:=h
  exact⟨a,c,r++ys,rfl,hs,D2.append h h'⟩
theorem D2.imp {w w':World} {X Y:Nat->Prop} (hs:∀a l,CV w X a l->CV w' Y a l):∀ {l:List Lm} {xs:List Value},D2 w X l xs->D2 w' Y l xs
 | [],xs,h=>h
 |t::l,xs,h=>by
  obtain⟨a,c,r,e,h1,h⟩:=h
  exact⟨a,c,r,e,hs _ _ h1,D2.imp hs h⟩
theorem UX {w w':World} {X Y:Nat->Prop} (b:Nat) (hb:Y b):∀(l:List Lm) (xs:List Value) (o:Nat),D2 w X l xs->(∀a k,CV w X a k->CV w' Y a k)->(∀j u,xs[j]? = some u->w'.cell? ⟨b,o+j,none⟩=some u)->En w' Y b o l:=by
 intro l
 induction l with
 |nil=>intro xs o _ _ _; simp[En]
 |cons t r ih=>
  intro xs o h hs hc
  obtain⟨s,x,k⟩:=t
  obtain⟨a,c,r',rfl,h1,h2⟩:=h
  simp only[En]
  obtain⟨h3,h4⟩:=hs _ _ h1
  refine⟨hb,hc 0 _ rfl,hc 1 _ rfl,⟨a,c,hc 2 _ rfl,h3,h4⟩,ih r' (o+3) h2 hs λj u hj=>?_⟩
  have:=hc (j+3) u (by simpa using hj)
  rwa [show o+(j+3)=o+3+j by omega] at this
structure ED (w:World) (N:Nat) (T:Nat) (Y:Nat->Prop) (v:Value) (l:List Lm) (xs:List Value):Prop where
 own:w.ownsRow N T 3 v l.length xs
 row:D2 w (λb=>Y b∨(N<=b/\some b≠v.ownBlock)) l xs
theorem ED.start (w:World) (N T:Nat) (Y:Nat->Prop):ED w N T Y (.slice none 0 0) [] []:=⟨Ga w N T 3,rfl⟩
theorem ED.below {w w':World} {N T:Nat} {Y:Nat->Prop} {v:Value} {l:List Lm} {xs:List Value} (h:ED w N T Y v l xs) (hb:Below w.heap.size w w'):ED w' N T Y v l xs:=
 ⟨h.own.kept (w' := w') (row := none) ⟨hb.os, hb.tape, hb.output, hb.size, λj hj _ => hb.block j hj⟩ (by rcases F9 (Value.ownBlock v) with h | ⟨x, h⟩; exact Ad h; exact Ae (by rw [h]; simp)),
  h.row.imp λa l h=>h.later hb⟩
theorem ED.ne {w:World} {N T:Nat} {Y:Nat->Prop} {v:Value} {l:List Lm} {xs:List Value} (h:ED w N T Y v l xs) {b:Nat} (hb:b<N):some b≠v.ownBlock:=λe=>by
 have:=(h.own.lt b e.symm).1; omega
theorem ED.push {w w1 w2 w3:World} {N T:Nat} {Y:Nat->Prop} {v:Value} {l:List Lm} {xs:List Value} (h:ED w N T Y v l xs) (hN:N<=w.heap.size) (hY:∀b,Y b->b<N) (hb:Below w.heap.size w w1) {s s2:Int} {a:Option Addr} {n c:Nat} {t:Lm}
  (ht:MV w1 (λb=>Y b∨w.heap.size<=b) (.agg #[.int .i64 s,.int .i64 s2,.slice a n c]) t) (o:Obj) (hw2:w2=w1.alloc o) {g cap:Nat}
  (hown:w3.ownsRow N T 3 (.slice (some ⟨g,0,none⟩) (l.length+1) cap) (l.length+1) (xs++[.int .i64 s,.int .i64 s2,.slice a n c])) (hg:w2.grownBy w3 v.ownBlock) (aa:v.ownBlock=some g∨g=w2.heap.size):
  ED w3 N T Y (.slice (some ⟨g,0,none⟩) (l.length+1) cap) (l++[t]) (xs++[.int .i64 s,.int .i64 s2,.slice a n c]):=by
 subst hw2
 have hlt:=h.own.lt
 refine⟨by simpa using hown,?_⟩
 have hsz:w1.heap.size<=(w1.alloc o).heap.size:=by simp
 have ae:=hb.size
 have af:N<=g:=by
  rcases aa with e|e
  ·exact(hlt g e).1
  ·simp at e; omega
 refine D2.append (h.row.imp λa' k' hs=>?_) ?_
 ·have h1:CV w (λb=>(Y b∨(N<=b/\some b≠v.ownBlock))/\b<w.heap.size) a' k':=hs.mono λb h1 h2=>⟨h1,h2⟩
  have h2:CV w3 (λb=>(Y b∨(N<=b/\some b≠v.ownBlock))/\b<w.heap.size) a' k':=h1.kept λb hx=>by
   have hne:some b≠v.ownBlock:=by
    rcases hx.1 with hy|hy
    ·exact h.ne (hY b hy)
    ·exact hy.2
   rw[hg.block b (by simp; omega) hne,AP _ _ _ (by omega),hb.block b hx.2]
  refine h2.mono λb hx _=>?_
  rcases hx.1 with hy|hy
  ·exact Ad hy
  ·refine Ae ⟨hy.1,λe=>?_⟩
   simp[Value.ownBlock]at e
   rcases aa with e'|e'
   ·exact hy.2 (by rw[e',e])
   ·simp at e'; omega
 ·obtain⟨a2,c2,e,hs⟩:=ht
  simp at e
  obtain⟨rfl,rfl,rfl,rfl,rfl⟩:=e
  refine⟨a,c,[],rfl,?_,rfl⟩
  have h1:CV w1 (λb=>(Y b∨w.heap.size<=b)/\b<w1.heap.size) a t.subs:=hs.mono λb h1 h2=>⟨h1,h2⟩
  have h2:CV w3 (λb=>(Y b∨w.heap.size<=b)/\b<w1.heap.size) a t.subs:=h1.kept λb hx=>by
   have hne:some b≠v.ownBlock:=by
    rcases hx.1 with hy|hy
    ·exact h.ne (hY b hy)
    ·intro e; have:=(hlt b e.symm).2; omega
   rw[hg.block b (by simp; omega) hne,AP _ _ _ hx.2]
  refine h2.mono λb hx _=>?_
  rcases hx.1 with hy|hy
  ·exact Ad hy
  ·refine Ae ⟨by omega,λe=>?_⟩
   simp[Value.ownBlock]at e
   rcases aa with e'|e'
   ·have:=(hlt g e').2; omega
   ·simp at e'; omega
theorem ED.setCell {w:World} {N T:Nat} {Y:Nat->Prop} {v:Value} {l:List Lm} {xs:List Value} (h:ED w N T Y v l xs) {b i:Nat} (hb:b<N) (hY:¬Y b) (u:Value):ED (w.setCell ⟨b,i,none⟩ u) N T Y v l xs:=
 ⟨ownsRow_setCell_below h.own (by simpa using hb) u, h.row.imp λa k hs => hs.kept λc hc => Aq _ _ _ _ (by
  simp
  rcases hc with hc|hc
  ·intro e; subst e; exact hY hc
  ·omega)⟩
theorem ED.sl {w:World} {N T:Nat} {Y:Nat->Prop} {v:Value} {l:List Lm} {xs:List Value} (h:ED w N T Y v l xs):∃a c,v=.slice a l.length c/\CV w (λb=>Y b∨N<=b) a l:=by
 have aa:l.length<=9223372036854775807:=by
  rcases h.own.2 with ⟨_,h0⟩|⟨g,cap,cur,_,_,_,h1,h2,_⟩
  ·omega
  ·unfold maxLen at h2; omega
 by_cases h0:0<l.length
 ·obtain⟨g,cap,rfl,hg,hlt,hc⟩:=EA h.own h0
  exact⟨_,_,rfl,aa,Ae ⟨g,0,rfl,UX g (Ae hg) l xs 0 h.row (λa k hs=>hs.mono λb hb _=>hb.imp id (λh=>h.1)) (λj u hj=>by simpa using hc j u hj)⟩⟩
 ·have e:l=[]:=Ew.1 (by omega)
  subst e
  rcases h.own.2 with ⟨hv,_⟩|⟨g,cap,cur,hv,_⟩
  ·exact⟨none,0,hv,aa,Ad rfl⟩
  ·exact⟨_,_,hv,aa,Ad rfl⟩
def Fe:List Lm->Prop
 | []=>True
 | ⟨_,x,l⟩::r=>(0<=x/\x<=100000)/\Fe l/\Fe r
theorem UY:Fe []:=by simp[Fe]
theorem LR (k x:Int) (l r:List Lm):Fe (⟨k,x,l⟩::r)↔(0<=x/\x<=100000)/\Fe l/\Fe r:=by simp[Fe]
theorem Fe.at:∀ {l:List Lm} (k:Nat) (h:k<l.length),Fe l->Fe [l[k]]
 | [],k,h,_=>by simp at h
 | ⟨s,x,l⟩::r,0,h,hb=>by
  rw[LR]at hb
  exact(LR s x l []).2 ⟨hb.1,hb.2.1,UY⟩
 | ⟨s,x,l⟩::r,k+1,h,hb=>by
  rw[LR]at hb
  have:=Fe.at (l:=r) k (by simpa using h) hb.2.2
  simpa using this
theorem FV {P:Program} {ops:Array Oper} {o:Oper} {a:Act} {K:Act->World->Prop} {Q:Exit->Act->World->Prop} {E:Prop} {w w':World} {v u v':Value} (hgd:o.guard=none) (s x:Operand) (t t':TypeId)
  (ho:o.op=.call { callee:=.builtin .append,args:=#[s,x],argTypes:=#[t,t']}) (hs:a.eval s=v) (hx:a.eval x=u)
  (hr:(Builtin.append_ #[t,t'] o.type #[v,u]).run P w=.ok v' w') (h:K (a.put o.dst v') w'):if Region.wanted o (yielded ops a.tmps)=true then Oper.wp P o a w K Q else E:=by
 have hw:Region.wanted o (yielded ops a.tmps)=true:=by simp[Region.wanted,hgd]
 rw[As hw]
 unfold Oper.wp execOp
 simp only[ho,resolve,invoke,builtin,Sem.run_bind,Sem.run_pure,Result.andThen_ok,List.map_toArray,BP,G9,hs,hx,hr]
 exact h
def Tb (B : Nat) (w : World) : Prop := Lib.TabBelow Tryz.prog B w "internal/strconv.uint64pow10" .u64 Lib.pow10Tab
theorem Tb.on {B:Nat} {w w1:World} (h:Tb B w) (hb:Below B w w1):Tb B w1:=Lib.TabBelow.on h hb
theorem LS (n B:Nat) (hn:n<=1000000) (w:World) (hT:Tb B w):Calls Tryz.prog 56 #[.int .i64 n] w λe w'=>e=.returned (.string ⟨(Lib.decDigits n).toArray⟩)/\Below w.heap.size w w':=by
 refine(Tryz.strconv_Itoa n (by omega) (by omega) w hT.here).mono ?_
 rintro e w' ⟨rfl,k,os,rfl⟩
 refine⟨?_,Lib.below_grow _ _ (Aj _) _ _⟩
 have:Lib.itoa (n:Int)=Lib.decDigits n:=by simp[Lib.itoa]
 rw[this]
def Gn:List (ByteArray×Value)->ByteArray->Value->List (ByteArray×Value)
 | [],_,_=>[]
 |p::r,n,v=>if p.1=n then (p.1,v)::r else p::Gn r n v
theorem Of (n:ByteArray) (x:Value):∀(l:List MapEntry) (L:List (ByteArray×Value)) (i:Nat) (v:Value),l.map (λe=>(e.key,e.val))=L.map (λp=>(Value.string p.1,p.2))->Bb L n=some v->
  ∃j e,Instr.findNow .string (.string n) l i=some (some (i+j,v))/\l[j]? = some e/\e.key=.string n/\(l.modify j λe=>{ e with key:=.string n,val:=x}).map (λe=>(e.key,e.val))=(Gn L n x).map (λp=>(Value.string p.1,p.2))
 | [],[],i,v,h,hv=>by simp[Bb] at hv
 | [],p::L,i,v,h,hv=>by simp at h
 |e::l,[],i,v,h,hv=>by simp at h
 |e::l,p::L,i,v,h,hv=>by
  simp only[BP,Gd,Prod.mk.injEq] at h
  obtain⟨⟨hk,he⟩,ht⟩:=h
  by_cases hn:p.1=n
  ·have hs:Instr.sameNow .string (.string n) e.key=some true:=by
    rw[hk,hn]
    show some (n==n)=some true
    rw[show(n==n)=true from (JM _ _).2 rfl]
   simp only[Bb,hn,if_true,GH] at hv
   refine⟨0,e,by simp[Instr.findNow,hs,he,hv],rfl,by rw[hk,hn],?_⟩
   simp[Gn,hn,ht]
  ·have hs:Instr.sameNow .string (.string n) e.key=some false:=by
    rw[hk]
    show some (n==p.1)=some false
    have hb:(n==p.1)=false:=by
     cases hh:(n==p.1) with
     |false=>rfl
     |true=>exact absurd ((JM _ _).1 hh).symm hn
    rw[hb]
   rw[Bb,An hn]at hv
   obtain⟨j,e',h1,h2,h3,h4⟩:=Of n x l L (i+1) v ht hv
   refine⟨j+1,e',by simp[Instr.findNow,hs,h1]; omega,by simpa using h2,h3,?_⟩
   rw[Gn,An hn]
   simp[List.modify_succ_cons,h4,hk,he]
theorem U0 {P:Program} {w:World} {T kt et:TypeId} {r:Nat} {L:List (ByteArray×Value)} {z:Value} (hm:P.underlying T=some (.map kt et)) (hk:P.underlying kt=some .string) (hz:(zeroValue et).run P w=.ok z w) (h:Bl w r L) (n:ByteArray):
  (Instr.lookup T (.map (some r)) (.string n) false).run P w=.ok ((Bb L n).getD z) w:=by
 obtain⟨es,ae,hb,he,aa⟩:=h
 obtain⟨h1,h2⟩:=J9 n es.toList L 0 he
 have hc:∀b,(Instr.checkKey b 10000 kt (.string n)).run P w=.ok () w:=λb=>JN (k:=.string n) hk (by simp[MapKept.IsKey]) b 9999
 cases hg:Bb L n with
 |none=>simp[Instr.lookup,FM hm,Hg hb,hc,Ia hk (h1 hg),Result.andThen,hz]
 |some v=>
  obtain⟨j,hj⟩:=h2 v hg
  simp[Instr.lookup,FM hm,Hg hb,hc,Ia hk hj,Result.andThen]
theorem U1 {P:Program} {w:World} {T kt et:TypeId} {r:Nat} {L:List (ByteArray×Value)} (hm:P.underlying T=some (.map kt et)) (hk:P.underlying kt=some .string) (h:Bl w r L) (n:ByteArray) (v old:Value) (hn:Bb L n=some old):
  ∃w',(Instr.mapUpdate T (.map (some r)) (.string n) v).run P w=.ok () w'/\Bl w' r (Gn L n v)/\w'.heap.size=w.heap.size/\w'.os=w.os/\w'.tape=w.tape/\w'.output=w.output/\(∀b,b≠r->w'.heap[b]? = w.heap[b]?):=by
 obtain⟨es,ae,hb,he,aa⟩:=h
 obtain⟨j,e0,h1,h2,h3,h4⟩:=Of n v es.toList L 0 old he hn
 have hc:(Instr.checkKey false 10000 kt (.string n)).run P w=.ok () w:=JN (k:=.string n) hk (by simp[MapKept.IsKey]) false 9999
 have hj:es[j]? = some e0:=by simpa using h2
 rw[Ey]at h1
 have hst:(Instr.keyThatStays (.string n) (.string n)).run P w=.ok (.string n) w:=MapKept.run_keyThatStays (d:=.string) (by simp[MapKept.IsKey])
 refine⟨{ w with heap:=w.heap.setIfInBounds r (.map (es.modify j λe=>{ e with key:=.string n,val:=v}) ae)},?_,⟨_,_,(Ib hb).1,by rw[Array.toList_modify]; exact h4,aa.modify _ _ _⟩,by simp,rfl,rfl,rfl,λb hne=>(Ib hb).2 b hne⟩
 simp[Instr.mapUpdate,FM hm,Hg hb,hc,Ia hk h1,hj,h3,hst,MapKept.run_setObj_map _ hb,Result.andThen]
structure Al (Q:Nat->Prop) (w w':World):Prop where
 os:w'.os=w.os
 tape:w'.tape=w.tape
 output:w'.output=w.output
 size:w.heap.size<=w'.heap.size
 block:∀k,k<w.heap.size->¬Q k->w'.heap[k]? = w.heap[k]?
theorem Al.refl (Q:Nat->Prop) (w:World):Al Q w w:=⟨rfl,rfl,rfl,Aj _,λ_ _ _=>rfl⟩
theorem Al.trans {Q:Nat->Prop} {a b c:World} (h:Al Q a b) (k:Al Q b c):Al Q a c:=
 ⟨k.os.trans h.os,k.tape.trans h.tape,k.output.trans h.output,AX h.size k.size,λi hi hn=>(k.block i (Do hi h.size) hn).trans (h.block i hi hn)⟩
theorem Al.transN {Q R:Nat->Prop} {a b c:World} (h:Al Q a b) (k:Al R b c) (hR:∀i,R i->i<a.heap.size->Q i):Al Q a c:=
 ⟨k.os.trans h.os,k.tape.trans h.tape,k.output.trans h.output,AX h.size k.size,λi hi hn=>(k.block i (Do hi h.size) (λhr=>hn (hR i hr hi))).trans (h.block i hi hn)⟩
theorem Al.mono {Q R:Nat->Prop} {a b:World} (h:Al Q a b) (hR:∀i,Q i->i<a.heap.size->R i):Al R a b:=⟨h.os,h.tape,h.output,h.size,λi hi hn=>h.block i hi (λhq=>hn (hR i hq hi))⟩
theorem Al.drewN {Q:Nat->Prop} {a w:World} (h:Al Q a w) (n:Nat):Al Q a (w.drewN n):=⟨h.os,h.tape,h.output,h.size,h.block⟩
theorem Al.drew {Q:Nat->Prop} {a w:World} (h:Al Q a w):Al Q a w.drew:=⟨h.os,h.tape,h.output,h.size,h.block⟩
theorem Al.set {Q:Nat->Prop} {a w:World} (h:Al Q a w) {B:Nat} (hB:Q B) (i:Nat) (v:Value):Al Q a (w.setCell ⟨B,i,none⟩ v):=
 ⟨h.os,h.tape,h.output,by simpa [World.setCell] using h.size,λk hk hn=>(Aq _ _ _ _ (by simp; intro e; subst e; exact hn hB)).trans (h.block k hk hn)⟩
theorem Al.alloc {Q:Nat->Prop} {a w:World} (h:Al Q a w) (o:Obj):Al Q a (w.alloc o):=
 ⟨h.os,h.tape,h.output,by have:=h.size; simp; omega,λk hk hn=>(AP _ _ _ (Do hk h.size)).trans (h.block k hk hn)⟩
theorem Al.grown {Q:Nat->Prop} {a w w':World} {row:Option Nat} (h:Al Q a w) (hg:w.grownBy w' row) (hr:∀k,row=some k->a.heap.size<=k∨Q k):Al Q a w':=
 ⟨hg.os.trans h.os,hg.tape.trans h.tape,hg.output.trans h.output,AX h.size hg.size,λk hk hn=>(hg.block k (Do hk h.size) (λe=>by rcases hr k e.symm with h1|h1; omega; exact hn h1)).trans (h.block k hk hn)⟩
theorem Al.setNew {Q:Nat->Prop} {a w:World} (h:Al Q a w) {b:Nat} (hb:a.heap.size<=b) (i:Nat) (v:Value):Al Q a (w.setCell ⟨b,i,none⟩ v):=
 ⟨h.os,h.tape,h.output,by simpa [World.setCell] using h.size,λk hk hn=>(Aq _ _ _ _ (by simp; omega)).trans (h.block k hk hn)⟩
theorem Al.ofBelow {Q:Nat->Prop} {w w':World} (h:Below w.heap.size w w'):Al Q w w':=⟨h.os,h.tape,h.output,h.size,λk hk _=>h.block k hk⟩
theorem Al.ofEx {Q:Nat->Prop} {B:Nat} {w w':World} (h:Ex B w w') (hB:Q B):Al Q w w':=⟨h.os,h.tape,h.output,h.size,λk hk hn=>h.block k hk (λe=>hn (by rw[e]; exact hB))⟩
theorem Al.below {Q:Nat->Prop} {w w':World} {B:Nat} (h:Al Q w w') (hB:B<=w.heap.size) (hQ:∀b,Q b->B<=b):Below B w w':=
 ⟨h.os,h.tape,h.output,h.size,λk hk=>h.block k (by omega) (λhq=>by have:=hQ k hq; omega)⟩
theorem Ac.exq {w w':World} {Q:Nat->Prop} {b T:Nat} {cs:Array Value} (h:Ac w b cs T) (he:Al Q w w') (hne:¬Q b):Ac w' b cs T:=by
 unfold Ac at *
 rw[he.block b (Ac.lt h) hne]; exact h
theorem Sl.exq {w w':World} {Q X:Nat->Prop} {a:Option Addr} {l:List Tm} (h:Sl w X a l) (he:Al Q w w') (hX:∀b,X b->¬Q b):Sl w' X a l:=
 ((h.mono (Y:=λb=>X b/\b<w.heap.size) λb h1 h2=>⟨h1,h2⟩).kept λb hb=>he.block b hb.2 (hX b hb.1)).mono λb hb _=>hb.1
theorem Al.mid {Q:Nat->Prop} {w w1:World} (h:Al Q w w1):∃wm,Below wm.heap.size wm w1/\wm.heap.size=w.heap.size/\Al Q w wm:=by
 have hs:=h.size
 have hz:(w1.heap.extract 0 w.heap.size).size=w.heap.size:=by simp; omega
 refine⟨{ w1 with heap:=w1.heap.extract 0 w.heap.size},⟨rfl,rfl,rfl,by simp; omega,λk hk=>?_⟩,hz,⟨h.os,h.tape,h.output,by simp[hz],λk hk hn=>?_⟩⟩
 ·have hk2:k<w.heap.size:=by simp at hk; omega
  simp[Array.getElem?_extract,hk2]
  omega
 ·rw[<-h.block k hk hn]
  simp[Array.getElem?_extract,hk]
  omega
theorem DG {w w':World} {base e size n:Nat} {v:Value} {xs:List Value} (h:w.ownsRow base e size v n xs) (hk:∀g,v.ownBlock=some g->w'.heap[g]? = w.heap[g]?):w'.ownsRow base e size v n xs:=by
 obtain⟨hl,h1⟩:=h
 refine⟨hl,?_⟩
 rcases h1 with h1|⟨g,cap,cur,hv,hg,hh,hr⟩
 ·exact Ad h1
 ·refine Ae ⟨g,cap,cur,hv,hg,?_,hr⟩
  rw[hk g (by rw[hv]; rfl)]
  exact hh
theorem AN.exq {w w':World} {Q:Nat->Prop} {N T:Nat} {Y:Nat->Prop} {v:Value} {l:List Tm} {xs:List Value} (h:AN w N T Y v l xs) (he:Al Q w w') (hQ:∀b,Q b->b<N) (hY:∀b,Q b->¬Y b):AN w' N T Y v l xs:=
 ⟨DG h.own λg hg => he.block g (h.own.lt g hg).2 (λhq => by have := hQ g hq; have := (h.own.lt g hg).1; omega),
  h.row.imp λa l hs=>hs.exq he λb hb hq=>by
   rcases hb with h1|h1
   ·exact hY b hq h1
   ·have:=hQ b hq; omega⟩
theorem Bh.exq {w w':World} {Q:Nat->Prop} {N:Nat} {Y:Nat->Prop} {v:Value} {cs:List Bc} (h:Bh w N Y v cs) (he:Al Q w w') (hQ:∀b,Q b->b<N) (hY:∀b,Q b->¬Y b):Bh w' N Y v cs:=
 ⟨DG h.own λg hg => he.block g (h.own.lt g hg).2 (λhq => by have := hQ g hq; have := (h.own.lt g hg).1; omega),
  λx hx=>(h.row x hx).exq he λb hb hq=>by
   rcases hb with h1|h1
   ·exact hY b hq h1
   ·have:=hQ b hq; omega⟩
def BR (k:Nat):ByteArray:=⟨(90::Lib.decDigits k).toArray⟩
def EU:Nat->List ByteArray->List (ByteArray×Value)
 |_,[]=>[]
 |k,n::r=>(n,.int .i64 ((k+1:Nat):Int))::EU (k+1) r
def Az (s:ByteArray):List ByteArray->Nat
 | []=>0
 |n::r=>if n=s then 0 else Az s r+1
def Cc (ns:List ByteArray) (s:ByteArray):List ByteArray:=if Az s ns<ns.length then ns else ns++[s]
theorem LT (s:ByteArray):∀ns:List ByteArray,Az s ns<=ns.length
 | []=>by simp[Az]
 |n::r=>by
  have:=LT s r
  simp only[Az,Bs]
  split<;>omega
theorem Og:∀(k:Nat) (ns:List ByteArray),(EU k ns).length=ns.length
 |_,[]=>rfl
 |k,n::r=>by simp[EU,Og (k+1) r]
theorem Oh (s:ByteArray):∀(k:Nat) (ns:List ByteArray),Bb (EU k ns) s=if Az s ns<ns.length then some (.int .i64 ((k+Az s ns+1:Nat):Int)) else none
 |_,[]=>by simp[EU,Bb]
 |k,n::r=>by
  have ih:=Oh s (k+1) r
  by_cases h:n=s
  ·have e:Az s (n::r)=0:=by simp[Az,h]
   rw[As (show Az s (n::r)<(n::r).length by rw[e]; simp),e]
   simp[EU,Bb,h]
  ·have e:Az s (n::r)=Az s r+1:=by simp[Az,h]
   have e2:Bb (EU k (n::r)) s=Bb (EU (k+1) r) s:=by simp[EU,Bb,h]
   rw[e2,ih]
   by_cases h2:Az s r<r.length
   ·rw[As h2,As (show Az s (n::r)<(n::r).length by rw[e]; simp; omega),e]
    rw[show k+1+Az s r+1=k+(Az s r+1)+1 by omega]
   ·rw[An h2,An (show ¬Az s (n::r)<(n::r).length by rw[e]; simp; omega)]
theorem Oi (s:ByteArray):∀(k:Nat) (ns:List ByteArray),EU k (ns++[s])=EU k ns++[(s,.int .i64 ((k+ns.length+1:Nat):Int))]
 |k,[]=>by simp[EU]
 |k,n::r=>by
  simp only[Cf,EU,Oi s (k+1) r,Bs]
  rw[show k+1+r.length+1=k+(r.length+1)+1 by omega]
theorem LU (ns:List ByteArray) (s:ByteArray):(Cc ns s).length<=ns.length+1:=by
 unfold Cc; split<;>simp
theorem Oj (s:ByteArray):∀ns:List ByteArray,Az s (Cc ns s)=Az s ns:=by
 intro ns
 unfold Cc
 split
 ·rfl
 ·rename_i h
  induction ns with
  |nil=>simp[Az]
  |cons n r ih=>
   simp only[Az,Bs,Cf] at h ⊢
   by_cases h2:n=s
   ·rw[As h2,As h2]
   ·rw[An h2]at h
    rw[An h2,An h2,ih (by omega)]
structure CW (w:World) (B r:Nat) (ns:List ByteArray):Prop where
 box:Ac w B #[.map (some r)] 114
 map:Bl w r (EU 0 ns)
 ne:B≠r
theorem CW.later {w w':World} {B r:Nat} {ns:List ByteArray} (h:CW w B r ns) (hb:Below w.heap.size w w'):CW w' B r ns:=⟨h.box.below hb h.box.lt,h.map.below hb h.map.lt,h.ne⟩
theorem CW.alloc {w:World} {B r:Nat} {ns:List ByteArray} (h:CW w B r ns) (o:Obj):CW (w.alloc o) B r ns:=h.later ((Af _ _).alloc (Aj _) o)
theorem Ok (k:Nat):(⟨#[90]⟩:ByteArray)++⟨(Lib.decDigits k).toArray⟩=BR k:=by
 apply ByteArray.ext
 unfold BR
 apply Array.ext'
 simp[ByteArray.toList_data_append]
theorem U2 {P:Program} {w:World} {T kt et:TypeId} {r:Nat} {L:List (ByteArray×Value)} (hm:P.underlying T=some (.map kt et)) (h:Bl w r L) (ty:TypeId):(Builtin.len_ #[T] ty #[.map (some r)]).run P w=.ok (.int .i64 (L.length:Int)) w:=by
 obtain⟨es,aa,hb,he,_⟩:=h
 have hl:es.size=L.length:=by have:=Bu List.length he; simpa using this
 simp[Builtin.len_,FM hm,Hg hb,goInt,Result.andThen,hl]
theorem Ol (w:World):
  Calls Tryz.prog 54 #[] w λe w'=>∃B r,e=.returned (.func (.func 80) #[] #[.pointer (some ⟨B,0,none⟩)])/\CW w' B r []/\w.heap.size<=r/\w.heap.size<=B/\Below w.heap.size w w':=by
 have aa:=@hmq Tryz.prog
 have ae:=@run_makeMap Tryz.prog
 go_enter Tryz.func54,Tryz.ntmps54
 go_wp2_with fail
 go_ret
 have h:=Ac.new (w.alloc (.map #[] 0)) #[.map (some w.heap.size)] 114
 have hz:(w.alloc (.map #[] 0)).heap.size=w.heap.size+1:=by simp
 rw[hz]at h
 have hb:Below w.heap.size w ((w.alloc (.map #[] 0)).alloc (.cells #[.map (some w.heap.size)] 114)):=((Af _ _).alloc (Aj _) _).alloc (by simp) _
 exact⟨w.heap.size+1,w.heap.size,rfl,⟨h,(Bl.new w).below (B:=w.heap.size+1) ((Af _ _).alloc (by simp) _) (by omega),by omega⟩,Aj _,by omega,hb⟩
theorem Om (BT:Nat) (s:ByteArray) (ns:List ByteArray) (B r:Nat) (w:World) (h:CW w B r ns) (hT:Tb BT w) (aB:BT<=r) (az:BT<=w.heap.size) (hl:ns.length<=100000):
  Calls Tryz.prog 80 #[.string s,.pointer (some ⟨B,0,none⟩)] w λe w'=>e=.returned (.string (BR (Az s ns+1)))/\CW w' B r (Cc ns s)/\Al (λb=>b=r) w w':=by
 have HN:=Aa h
 have ak:=Aa hT
 have b0:=h.box.c0
 have aa:=Oh s 0 ns
 have hz:=Tryz.zeroValue3 w
 have ao:=LT s ns
 by_cases af:Az s ns<ns.length
 ·rw[As af]at aa
  have ae:(Instr.lookup 114 (.map (some r)) (.string s) true).run Tryz.prog w=.ok (.tuple #[.int .i64 ((Az s ns+1:Nat):Int),.bool true]) w:=by
   rw[ET (P:=Tryz.prog) Tryz.underlying114 Tryz.underlying9 hz h.map _,aa]
   simp
  have HA:Hid (Cc ns s=ns):=by unfold Hid Cc; rw[As af]
  obtain⟨k,hk⟩:∃k,k=Az s ns+1:=⟨_,rfl⟩
  rw[<-hk]at ae
  rw[<-hk]
  have hk2:k<=1000000:=by omega
  have HST:=Aa (Ok k)
  have a6:(Lib.decDigits k).length<=1000001:=by have:=Ir k; omega
  have ah:1+(Lib.decDigits k).length<=9223372036854775807:=by omega
  have ai:¬9223372036854775807<1+(Lib.decDigits k).length:=by omega
  clear aa hz af ao hk h
  go_enter Tryz.func80,Tryz.ntmps80
  go_wp2_with fail
  refine(LS k BT hk2 _ ak.out).mono ?_
  rintro e w1 ⟨rfl,hb1⟩
  have ag:=Aa hb1
  clear hb1 b0 ae
  go_wp2_with fail
  rw[HST.out]
  go_ret
  exact⟨rfl,by rw[HA.out]; exact HN.out.later ag.out,Al.ofBelow ag.out⟩
 ·rw[An af]at aa
  have ae:(Instr.lookup 114 (.map (some r)) (.string s) true).run Tryz.prog w=.ok (.tuple #[.int .i64 0,.bool false]) w:=by
   rw[ET (P:=Tryz.prog) Tryz.underlying114 Tryz.underlying9 hz h.map _,aa]
   simp
  have hlen:(Builtin.len_ #[114] 3 #[.map (some r)]).run Tryz.prog w=.ok (.int .i64 (ns.length:Int)) w:=by
   rw[U2 Tryz.underlying114 h.map,Og]
  have HA:Hid (Cc ns s=ns++[s]):=by unfold Hid Cc; rw[An af]
  have a7:Az s ns=ns.length:=by omega
  obtain⟨k,hk⟩:∃k,k=ns.length+1:=⟨_,rfl⟩
  have aq:(ns.length:Int)+1=(k:Int):=by omega
  have hk2:k<=1000000:=by omega
  have hwr:IntKind.i64.wrap ((ns.length:Int)+1)=(k:Int):=by rw[E4]; omega
  obtain⟨w2,ar,au,hz2,av,aw,ax,aj⟩:=Je (P:=Tryz.prog) Tryz.underlying114 Tryz.underlying9 h.map s (.int .i64 (k:Int)) aa
  have ay:Hid (Al (λb=>b=r) w w2):=⟨av,aw,ax,by omega,λb _ hn=>aj b hn⟩
  have a8:Hid (CW w2 B r (Cc ns s)):=⟨(aj B h.ne).trans h.box,by rw[HA.out,Oi]; rw[show 0+ns.length+1=k by omega]; exact au,h.ne⟩
  have aA:Hid (Tb BT w2):=ak.out.on (ay.out.below (B:=BT) az (λb hb=>by omega))
  rw[show Az s ns+1=k by omega]
  have HST:=Aa (Ok k)
  have a6:(Lib.decDigits k).length<=1000001:=by have:=Ir k; omega
  have ah:1+(Lib.decDigits k).length<=9223372036854775807:=by omega
  have ai:¬9223372036854775807<1+(Lib.decDigits k).length:=by omega
  have aC:=Aa aq
  generalize (ns.length:Int)=nl at *
  clear aa hz af ao hk h au hz2 av aw ax aj a7 aq
  go_enter Tryz.func80,Tryz.ntmps80
  go_wp2_with fail
  refine(LS k BT hk2 _ aA.out).mono ?_
  rintro e w1 ⟨rfl,hb1⟩
  have ag:=Aa hb1
  clear hb1 b0 ae
  go_wp2_with fail
  rw[HST.out]
  go_ret
  exact⟨rfl,a8.out.later ag.out,ay.out.trans (Al.ofBelow ag.out)⟩
theorem Ka (s:ByteArray):∀(l:List ByteArray) (h:Az s l<l.length),l[Az s l]=s
 |n::r,h=>by
  by_cases e:n=s
  ·simp[Az,e]
  ·have h2:Az s r<r.length:=by simp[Az,e] at h; omega
   have:=Ka s r h2
   simp[Az,e,this]
theorem U3 {t:Tm} {r:List Tm} (h:Ah (t::r)=0):Ah [t]=0/\Ah r=0:=by
 rw[GK]at h
 split at h
 ·rename_i h1; exact⟨h1,h⟩
 ·rename_i h1; exact absurd h h1
def Jf (l:List UInt8):Nat:=l.foldl (λa b=>10*a+(b.toNat-48)) 0
theorem On (l:List UInt8) (b:UInt8):Jf (l++[b])=10*Jf l+(b.toNat-48):=by simp[Jf]
theorem Oo {n:Nat} (h:n<10):(UInt8.ofNat (48+n)).toNat-48=n:=by
 rw[UInt8.toNat_ofNat']
 omega
theorem Kb (n:Nat):Jf (Lib.decDigits n)=n:=by
 induction n using Nat.strongRecOn with
 |ind n ih=>
  by_cases h:n<10
  ·rw[Lib.decDigits,DX h]
   have:=On [] (UInt8.ofNat (48+n))
   simp only[DY] at this
   rw[this,Oo h]
   simp[Jf]
  ·have e:Lib.decDigits n=Lib.decDigits (n / 10)++[UInt8.ofNat (48+n % 10)]:=by
    conv=>lhs; rw[Lib.decDigits,dif_neg h]
   rw[e,On,ih (n / 10) (by omega),Oo (by omega)]
   omega
theorem U4 {j k:Nat} (h:BR j=BR k):j=k:=by
 unfold BR at h
 simp only[ByteArray.mk.injEq] at h
 have h1:=Bu Array.toList h
 simp only[List.toList_toArray,Gd,true_and] at h1
 rw[<-Kb j,h1,Kb]
def GP (w:World) (Y:Nat->Prop) (r:Nat) (ls:List Bd):Prop:=∃Z:List Bc,Bl w r (Z.map Gi)/\Z.map (·.1)=ls/\∀x∈Z,Sl w Y x.2.1 x.1.t.args
theorem GP.kept {w w':World} {Y:Nat->Prop} {r:Nat} {ls:List Bd} (h:GP w Y r ls) (hr:w'.heap[r]? = w.heap[r]?) (hs:∀a l,Sl w Y a l->Sl w' Y a l):GP w' Y r ls:=by
 obtain⟨Z,h1,h2,h3⟩:=h
 exact⟨Z,h1.kept hr,h2,λx hx=>hs _ _ (h3 x hx)⟩
theorem GP.lt {w:World} {Y:Nat->Prop} {r:Nat} {ls:List Bd} (h:GP w Y r ls):r<w.heap.size:=by obtain⟨Z,h1,_⟩:=h; exact h1.lt
theorem GP.later {w w':World} {Y:Nat->Prop} {r:Nat} {ls:List Bd} (h:GP w Y r ls) (hb:Below w.heap.size w w'):GP w' Y r ls:=h.kept (hb.block r h.lt) (λa l hs=>hs.later hb)
theorem Kc {w w1:World} {n:Nat} {p1 p2 p3 p4 p5 p6:Addr} {v1 v2 v3 v4 v5 v6:Value} (hb:Below (w.drewN n).heap.size (w.drewN n) w1)
  (h:w.cell? p1=some v1/\w.cell? p2=some v2/\w.cell? p3=some v3/\w.cell? p4=some v4/\w.cell? p5=some v5/\w.cell? p6=some v6):
  w1.cell? p1=some v1/\w1.cell? p2=some v2/\w1.cell? p3=some v3/\w1.cell? p4=some v4/\w1.cell? p5=some v5/\w1.cell? p6=some v6:=by
 have hb':Below w.heap.size w w1:=(below_drewN (Af _ _) n).trans (hb.mono (by simp))
 exact⟨cell_later hb' h.1,cell_later hb' h.2.1,cell_later hb' h.2.2.1,cell_later hb' h.2.2.2.1,cell_later hb' h.2.2.2.2.1,cell_later hb' h.2.2.2.2.2⟩
def Dp:List Tm->List Tm->Bool
 | [],[]=>true
 | ⟨s,a⟩::r,t::ts=>((s.toList==t.name.toList)&&((a.length==t.args.length)&&Dp a t.args))&&Dp r ts
 |_,_=>false
def BI (a b:Tm):Bool:=(a.name.toList==b.name.toList)&&((a.args.length==b.args.length)&&Dp a.args b.args)
theorem Jg (x t:Tm) (r ts:List Tm):Dp (x::r) (t::ts)=(BI x t&&Dp r ts):=by obtain⟨s,a⟩:=x; simp only[Dp,BI]
theorem LW:∀(a b c d:List Tm),a.length=b.length->Dp (a++c) (b++d)=(Dp a b&&Dp c d)
 | [],[],c,d,_=>by simp[Dp]
 | [],_::_,_,_,h=>by simp at h
 |_::_,[],_,_,h=>by simp at h
 |x::r,t::ts,c,d,h=>by rw[Cf,Cf,Jg,Jg,LW r ts c d (by simpa using h),Bool.and_assoc]
theorem LX {l m:List Tm} {k:Nat} (h:k<l.length) (h2:k<m.length):Dp (l.take (k+1)) (m.take (k+1))=(Dp (l.take k) (m.take k)&&BI l[k] m[k]):=by
 rw[Bm h,Bm h2,LW _ _ _ _ (by simp; omega),Jg]
 simp[Dp]
theorem Oq {l m:List Tm} {k:Nat} (h:k<l.length) (aa:l.length=m.length) (h0:BI l[k] (m[k]'(by omega))=false):Dp l m=false:=by
 have e1:l=l.take (k+1)++l.drop (k+1):=(Eu _ _).symm
 have e2:m=m.take (k+1)++m.drop (k+1):=(Eu _ _).symm
 rw[e1,e2,LW _ _ _ _ (by simp; omega),LX h (by omega),h0]
 simp
def Ot (w:World) (l m:List Tm) (a a2:Option Addr) (c c2:Nat) (i:Value) (wr:World):Prop:=
 ∃(k:Nat),k<=l.length/\i=.int .i64 k/\Dp (l.take k) (m.take k)=true/\Below w.heap.size w wr/\wr.cell? ⟨w.heap.size,1,none⟩=some (.slice a l.length c)/\wr.cell? ⟨w.heap.size+1,1,none⟩=some (.slice a2 l.length c2)/\w.heap.size+2<=wr.heap.size
theorem Kd (t:Tm):∀(x:Tm) (v u:Value) (w:World) (X Y:Nat->Prop),TV w X v t->TV w Y u x->
  Calls Tryz.prog 22 #[v,u] w λe w'=>e=.returned (.bool (BI t x))/\Below w.heap.size w w':=by
 induction t using Tm.ind with
 |h s l ih=>
  intro x v u w X Y hv hu
  obtain⟨s2,m⟩:=x
  have IH:=Aa ih
  clear ih
  obtain⟨a,c,rfl,hs⟩:=hv
  obtain⟨a2,c2,rfl,hs2⟩:=hu
  have hl:=hs.1
  have hl2:=hs2.1
  dsimp only
  cases hn:(s.toList==s2.toList) with
  |false=>
   have HR:Hid (false=BI ⟨s,l⟩ ⟨s2,m⟩):=by unfold Hid BI; rw[hn]; rfl
   go_enter Tryz.func22,Tryz.ntmps22
   go_wp2_with fail
   go_ret
   exact⟨BH HR.out,CO _ _⟩
  |true=>
   by_cases hm:l.length=m.length
   ·have HR:Hid (Dp l m=BI ⟨s,l⟩ ⟨s2,m⟩):=by unfold Hid BI; simp[hn,hm]
    have HM:=Aa hm
    rw[<-hm]
    clear hm
    go_enter Tryz.func22,Tryz.ntmps22
    go_wp2_with fail
    go_loopw [5] (λi wr=>Ot w l m a a2 c c2 i wr) (λi wr=>l.length-(intOf i).toNat)
    case atStart=>exact⟨0,AE _,rfl,by simp[Dp],CO _ _,by simp,by simp,by simp⟩
    case round=>
     obtain⟨k,hk,rfl,hq,hb,ak,hc2,hsz⟩:=hrel
     have HQ:=Aa hq
     clear hq
     by_cases hlt:k<l.length
     ·obtain⟨b,o,a',c',rfl,d0,d1,hx⟩:=hs.get hb (λ_ _ h=>h) k hlt
      obtain⟨b2,o2,ag,ah,rfl,e0,e1,hx2⟩:=hs2.get hb (λ_ _ h=>h) k (by have:=HM.out; omega)
      have ai:k<m.length:=by have:=HM.out; omega
      have HX:=Aa hx
      have aj:=Aa hx2
      have HB:=Aa hb
      have ae:=Aa (And.intro ak (And.intro hc2 (And.intro d0 (And.intro d1 (And.intro e0 e1)))))
      have af:=Aa (λ(w':World)=>IH.out l[k] (AV hlt) m[k] (.agg #[.string l[k].name,.slice a' l[k].args.length c']) (.agg #[.string m[k].name,.slice ag m[k].args.length ah]) w' X Y)
      have HT:=Aa (LX hlt ai)
      have ao:=Aa (Oq hlt HM.out)
      clear hx hx2 hb
      generalize l[k]=y at *
      generalize m[k]=z at *
      go_wp2_with fail
      cases hsm:BI y z with
      |true=>
       rw[hsm]at af HT
       go_region_held3 (λw'=>w'.cell? ⟨w.heap.size,1,none⟩=some (.slice (some ⟨b,o,none⟩) l.length c)/\w'.cell? ⟨w.heap.size+1,1,none⟩=some (.slice (some ⟨b2,o2,none⟩) l.length c2)/\w'.cell? ⟨b,o+k*2,none⟩=some (.string y.name)/\w'.cell? ⟨b,o+k*2+1,none⟩=some (.slice a' y.args.length c')/\w'.cell? ⟨b2,o2+k*2,none⟩=some (.string z.name)/\w'.cell? ⟨b2,o2+k*2+1,none⟩=some (.slice ag z.args.length ah)) (first|exact ae.out|exact aa|go_keep)
        ((go_at_call 22; refine(af.out _ (by exact HX.out.later (below_drewN (Af _ _) 1)) (by exact aj.out.later (below_drewN (Af _ _) 1))).mono ?_; rintro e w1 ⟨rfl,hb1⟩; have aa:=Kc (n:=1) hb1 ae.out))
       go_wp2_with fail
       go_roundw
       case rel=>exact⟨k+1,by omega,by go_num,by rw[HT.out,HQ.out]; rfl,(HB.out.trans (below_drewN (Af _ _) 1)).trans (hb1.mono (by simp; omega)),aa.1,aa.2.1,by have:=hb1.size; simp at this; omega⟩
       case measure=>simp[intOf]; omega
      |false=>
       have HF:Hid (false=BI ⟨s,l⟩ ⟨s2,m⟩):=by unfold Hid; rw[<-HR.out,ao.out hsm]
       rw[hsm]at af
       go_region_held3 (λw'=>w'.cell? ⟨w.heap.size,1,none⟩=some (.slice (some ⟨b,o,none⟩) l.length c)/\w'.cell? ⟨w.heap.size+1,1,none⟩=some (.slice (some ⟨b2,o2,none⟩) l.length c2)/\w'.cell? ⟨b,o+k*2,none⟩=some (.string y.name)/\w'.cell? ⟨b,o+k*2+1,none⟩=some (.slice a' y.args.length c')/\w'.cell? ⟨b2,o2+k*2,none⟩=some (.string z.name)/\w'.cell? ⟨b2,o2+k*2+1,none⟩=some (.slice ag z.args.length ah)) (first|exact ae.out|exact aa|go_keep)
        ((go_at_call 22; refine(af.out _ (by exact HX.out.later (below_drewN (Af _ _) 1)) (by exact aj.out.later (below_drewN (Af _ _) 1))).mono ?_; rintro e w1 ⟨rfl,hb1⟩; have aa:=Kc (n:=1) hb1 ae.out))
       go_wp2_with fail
       go_ret
       exact⟨BH HF.out,(HB.out.trans (below_drewN (Af _ _) 1)).trans (hb1.mono (by simp; omega))⟩
     ·have HF:Hid (true=BI ⟨s,l⟩ ⟨s2,m⟩):=by
       unfold Hid
       rw[<-HR.out,<-HQ.out,AW (by omega),AW (by have:=HM.out; omega)]
      go_wp2_with fail
      go_ret
      exact⟨BH HF.out,hb⟩
   ·have HR:Hid (false=BI ⟨s,l⟩ ⟨s2,m⟩):=by unfold Hid BI; simp[hn,hm]
    have aq:((l.length:Int)==(m.length:Int))=false:=DL.2 (by omega)
    clear hm
    go_enter Tryz.func22,Tryz.ntmps22
    go_wp2_with fail
    go_ret
    exact⟨BH HR.out,CO _ _⟩
theorem Ou:∀(a b:List Tm),Ao (a++b)=Ao a++Ao b
 | [],b=>by simp[Ao]
 | ⟨s,l⟩::r,b=>by
  have:=Ou r b
  simp[Ao,this]
theorem U7:∀l k:List Tm,l.length=k.length->Dp l k=true->l=k:=by
 intro l
 induction l using Tm.indL with
 |h0=>intro k h _; cases k with
  |nil=>rfl
  |cons _ _=>simp at h
 |h s a r aa ae=>
  intro k h he
  cases k with
  |nil=>simp at h
  |cons u q=>
   obtain⟨s',b⟩:=u
   rw[Jg]at he
   simp only[Hd] at he
   obtain⟨h1,h2⟩:=he
   unfold BI at h1
   simp only[Hd,beq_iff_eq] at h1
   obtain⟨h3,h4,h5⟩:=h1
   rw[ae q (by simpa using h) h2,aa b h4 h5,Ej h3]
theorem U9:∀l:List Tm,Dp l l=true:=by
 intro l
 induction l using Tm.indL with
 |h0=>simp[Dp]
 |h s a r aa ae=>
  rw[Jg,ae]
  simp[BI,aa]
theorem Va {a b:Tm}:BI a b=true↔a=b:=by
 constructor
 ·intro h
  obtain⟨s,l⟩:=a
  obtain⟨s',k⟩:=b
  unfold BI at h
  simp only[Hd,beq_iff_eq] at h
  rw[Ej h.1,U7 l k h.2.1 h.2.2]
 ·rintro rfl
  unfold BI
  simp[U9]
def BK:List Tm->List Tm->List Bd->Option (List Bd)
 | [],_,h=>some h
 | ⟨s,a⟩::r,ts,h=>match ts with
  | []=>none
  |t::ts'=>
   match (if Ak s=true then (match Ar h s with
     |some x=>if BI x t=true then some h else none
     |none=>some (h++[⟨s,t⟩]))
    else if ((s.toList==t.name.toList)&&(a.length==t.args.length))=true then BK a t.args h else none) with
   |some h'=>BK r ts' h'
   |none=>none
def AY (p t:Tm) (h:List Bd):Option (List Bd):=
 if Ak p.name=true then (match Ar h p.name with
   |some x=>if BI x t=true then some h else none
   |none=>some (h++[⟨p.name,t⟩]))
  else if ((p.name.toList==t.name.toList)&&(p.args.length==t.args.length))=true then BK p.args t.args h else none
theorem GQ (p t:Tm) (r ts:List Tm) (h:List Bd):BK (p::r) (t::ts) h=(match AY p t h with
   |some h'=>BK r ts h'
   |none=>none):=by obtain⟨s,a⟩:=p; simp only[BK,AY]
theorem LY:∀(a b c d:List Tm) (h:List Bd),a.length=b.length->BK (a++c) (b++d) h=(match BK a b h with
   |some h'=>BK c d h'
   |none=>none)
 | [],[],c,d,h,_=>by simp[BK]
 | [],_::_,_,_,_,e=>by simp at e
 |_::_,[],_,_,_,e=>by simp at e
 |x::r,t::ts,c,d,h,e=>by
  rw[Cf,Cf,GQ,GQ]
  cases AY x t h with
  |none=>rfl
  |some h'=>exact LY r ts c d h' (by simpa using e)
theorem Ov {l m:List Tm} {k:Nat} (h:k<l.length) (h2:k<m.length) (hv:List Bd):BK (l.take (k+1)) (m.take (k+1)) hv=(match BK (l.take k) (m.take k) hv with
   |some h'=>AY l[k] m[k] h'
   |none=>none):=by
 rw[Bm h,Bm h2,LY _ _ _ _ _ (by simp; omega)]
 cases BK (l.take k) (m.take k) hv with
 |none=>rfl
 |some h'=>
  show BK [l[k]] [m[k]] h'=AY l[k] m[k] h'
  rw[GQ]
  cases AY l[k] m[k] h' with
  |none=>rfl
  |some aa=>simp[BK]
theorem Ow {l m:List Tm} {k:Nat} {hv h':List Bd} (h:k<l.length) (aa:l.length=m.length) (h1:BK (l.take k) (m.take k) hv=some h') (h0:AY l[k] (m[k]'(by omega)) h'=none):BK l m hv=none:=by
 have e1:l=l.take (k+1)++l.drop (k+1):=(Eu _ _).symm
 have e2:m=m.take (k+1)++m.drop (k+1):=(Eu _ _).symm
 rw[e1,e2,LY _ _ _ _ _ (by simp; omega),Ov h (by omega),h1]
 simp only[h0]
theorem Ox {l m:List Tm} {k:Nat} {hv h' aa:List Bd} (h:k<l.length) (h2:k<m.length) (h1:BK (l.take k) (m.take k) hv=some h') (h0:AY l[k] m[k] h'=some aa):BK (l.take (k+1)) (m.take (k+1)) hv=some aa:=by
 rw[Ov h h2,h1]
 exact h0
theorem LZ {s s2:ByteArray} {l m:List Tm} {h:List Bd} (hv:Ak s=false) (hn:(s.toList==s2.toList)=true) (hl:l.length=m.length):AY ⟨s,l⟩ ⟨s2,m⟩ h=BK l m h:=by
 simp[AY,hv,hn,hl]
theorem L0 {s s2:ByteArray} {l m:List Tm} {h:List Bd} (hv:Ak s=false) (hn:((s.toList==s2.toList)&&(l.length==m.length))=false):AY ⟨s,l⟩ ⟨s2,m⟩ h=none:=by
 unfold AY
 rw[An (by rw[hv]; simp),An (by simp only[hn]; simp)]
theorem Oy {s:ByteArray} {l:List Tm} {t:Tm} {h:List Bd} (hv:Ak s=true) (hf:Ar h s=none):AY ⟨s,l⟩ t h=some (h++[⟨s,t⟩]):=by simp[AY,hv,hf]
theorem Oz {s:ByteArray} {l:List Tm} {t x:Tm} {h:List Bd} (hv:Ak s=true) (hf:Ar h s=some x):AY ⟨s,l⟩ t h=if BI x t=true then some h else none:=by simp[AY,hv,hf]
theorem Vb {h:List Bd} {s:ByteArray} (hf:Ar h s=none):∀d∈h,d.nm≠s:=by
 induction h with
 |nil=>intro d hd; cases hd
 |cons a r ih=>
  intro d hd
  rw[Ar]at hf
  split at hf
  ·cases hf
  ·rename_i hne
   rcases BE.1 hd with rfl|hd
   ·exact hne
   ·exact ih hf d hd
theorem OC {p t:Tm} {h h':List Bd} (ih:∀ts g g',BK p.args ts g=some g'->Ct g->Ct g'/\g'.length<=g.length+Ab p.args) (he:AY p t h=some h') (ha:Ct h):Ct h'/\h'.length<=h.length+(1+Ab p.args):=by
 unfold AY at he
 split at he
 ·split at he
  ·split at he
   ·cases he; exact⟨ha,by omega⟩
   ·cases he
  ·rename_i hf
   cases he
   refine⟨JP.2 ⟨ha,by simp,λa h1 b h2=>?_⟩,by simp⟩
   have e:b=⟨p.name,t⟩:=by simpa using h2
   rw[e]
   exact Vb hf a h1
 ·split at he
  ·obtain⟨h1,h2⟩:=ih _ _ _ he ha
   exact⟨h1,by omega⟩
  ·cases he
theorem OD:∀(l ts:List Tm) (h h':List Bd),BK l ts h=some h'->Ct h->Ct h'/\h'.length<=h.length+Ab l:=by
 intro l
 induction l using Tm.indL with
 |h0=>intro ts h h' he ha; simp[BK] at he; subst he; exact⟨ha,by simp⟩
 |h s l r aa ae=>
  intro ts h h' he ha
  cases ts with
  |nil=>simp[BK] at he
  |cons t ts=>
   rw[GQ]at he
   cases hm:AY ⟨s,l⟩ t h with
   |none=>rw[hm] at he; cases he
   |some g=>
    rw[hm]at he
    obtain⟨h1,h2⟩:=OC (p:=⟨s,l⟩) (λts g g' h3 h4=>aa ts g g' h3 h4) hm ha
    obtain⟨h3,h4⟩:=ae ts g h' he h1
    refine⟨h3,?_⟩
    simp only[Ab]
    simp only at h2
    omega
theorem OG {p t:Tm} {h h':List Bd} (he:AY p t h=some h') (ha:Ct h):Ct h'/\h'.length<=h.length+Ab [p]:=by
 obtain⟨h1,h2⟩:=OC (λts g g' h3 h4=>OD p.args ts g g' h3 h4) he ha
 refine⟨h1,?_⟩
 obtain⟨s,a⟩:=p
 simp[Ab]at h2 ⊢
 omega
def Ca:Nat->List Tm->List (List Int)
 |_,[]=>[]
 |j,⟨_,l⟩::r=>((([]:List Int)::Ca 0 l).map λp=>(j:Int)::p)++Ca (j+1) r
def Bq (t:Tm):List (List Int):=[]::Ca 0 t.args
theorem Is (j:Nat) (t:Tm) (r:List Tm):Ca j (t::r)=((Bq t).map λp=>(j:Int)::p)++Ca (j+1) r:=by
 obtain⟨s,l⟩:=t
 simp only[Ca,Bq]
theorem Vc (a b:List Tm):∀j,Ca j (a++b)=Ca j a++Ca (j+a.length) b:=by
 induction a with
 |nil=>intro j; simp[Ca]
 |cons t r ih=>intro j; rw[Cf,Is,Is,ih]; simp[I5,Nat.add_comm 1]
theorem Vd (l:List Tm) (k:Nat) (h:k<l.length):Ca 0 (l.take (k+1))=Ca 0 (l.take k)++(Bq l[k]).map λp=>(k:Int)::p:=by
 rw[Bm h,Vc,Is]
 have:(l.take k).length=k:=by rw[Hh]; omega
 simp[this,Ca]
theorem OH (l:List Tm):∀j,(Ca j l).length=Ab l:=by
 induction l using Tm.indL with
 |h0=>intro j; simp[Ca,Ab]
 |h s l r aa ae=>intro j; simp[Ca,Ab,aa,ae]; omega
theorem L2 (t:Tm):(Bq t).length=Ab [t]:=by
 obtain⟨s,l⟩:=t
 simp[Bq,OH,Ab]; omega
theorem Ve (l:List Tm):∀j,∀p∈Ca j l,p.length<=Ab l:=by
 induction l using Tm.indL with
 |h0=>intro j p hp; simp[Ca] at hp
 |h s l r aa ae=>
  intro j p hp
  simp only[Ca,Bg,Cj,BE] at hp
  simp only[Ab]
  rcases hp with ⟨p',h1,rfl⟩|hp
  ·rcases h1 with rfl|h1
   ·simp; omega
   ·have:=aa 0 p' h1; simp; omega
  ·have:=ae _ p hp; omega
def Db (w:World) (Z:Nat->Prop):List (List Int)->List Value->Prop
 | [],xs=>xs=[]
 |z::r,xs=>∃u xs',xs=u::xs'/\PV w Z u z/\Db w Z r xs'
theorem Db.len {w:World} {Z:Nat->Prop}:∀ {l:List (List Int)} {xs:List Value},Db w Z l xs->xs.length=l.length
 | [],xs,h=>by simp[Db] at h; simp[h]
 |z::l,xs,h=>by obtain⟨u,aa,rfl,_,h⟩:=h; simp[Db.len h]
theorem Db.append {w:World} {Z:Nat->Prop}:∀ {l k:List (List Int)} {xs ys:List Value},Db w Z l xs->Db w Z k ys->Db w Z (l++k) (xs++ys)
 | [],k,xs,ys,h,h'=>by simp[Db] at h; subst h; simpa using h'
 |z::l,k,xs,ys,h,h'=>by obtain⟨u,aa,rfl,hp,h⟩:=h; exact⟨u,aa++ys,rfl,hp,Db.append h h'⟩
theorem Db.imp {w w':World} {Z Z':Nat->Prop} (hs:∀u z,PV w Z u z->PV w' Z' u z):∀ {l:List (List Int)} {xs:List Value},Db w Z l xs->Db w' Z' l xs
 | [],xs,h=>h
 |z::l,xs,h=>by obtain⟨u,aa,e,hp,h⟩:=h; exact⟨u,aa,e,hs _ _ hp,Db.imp hs h⟩
theorem Db.get {w:World} {Z:Nat->Prop}:∀ {l:List (List Int)} {xs:List Value},Db w Z l xs->∀i (h:i<l.length),∃u,xs[i]? = some u/\PV w Z u l[i]
 | [],xs,h,i,hi=>by simp at hi
 |z::l,xs,h,i,hi=>by
  obtain⟨u,aa,rfl,hp,h⟩:=h
  cases i with
  |zero=>exact⟨u,rfl,hp⟩
  |succ i=>obtain⟨u',h1,h2⟩:=Db.get h i (by simpa using hi); exact⟨u',by simpa using h1,h2⟩
theorem PV.one {w:World} {Z:Nat->Prop} {u:Value} {z:List Int} (h:PV w Z u z):u.oneCell'=true:=by obtain⟨a,c,rfl,_⟩:=h; rfl
theorem Tryz.infoInt:(Tryz.prog.info? 3).map (λi=>(i.zero,i.size,i.bytes))=some (some (.int .i64 0),1,8):=by kernel_rfl
theorem Tryz.infoInts:(Tryz.prog.info? 56).map (λi=>(i.zero,i.size,i.bytes))=some (some (.slice none 0 0),1,24):=by kernel_rfl
theorem Vf {w:World} {N T:Nat} {v:Value} {l:List Int} (h:w.ownsRow N T 1 v l.length (l.map λz=>.int .i64 z)):PV w (λb=>N<=b/\v.ownBlock=some b) v l:=by
 have h':=h
 obtain⟨_,h1⟩:=h
 rcases h1 with ⟨rfl,h0⟩|⟨g,cap,cur,hv,hg,hh,aa,ae,_⟩
 ·have e:l=[]:=Ew.1 h0
  subst e
  exact⟨none,0,rfl,by simp,Ad rfl⟩
 ·unfold maxLen at ae
  refine⟨some ⟨g,0,none⟩,cap,hv,⟨by omega,aa⟩,?_⟩
  by_cases h0:l=[]
  ·exact Ad h0
  ·have hp:0<l.length:=Fb.2 h0
   obtain⟨g2,af,hv2,_,_,hc⟩:=EA h' hp
   rw[hv]at hv2
   simp at hv2
   obtain⟨rfl,rfl⟩:=hv2
   exact Ae ⟨g,0,rfl,⟨hg,by rw[hv]; rfl⟩,λi hi=>by rw[Ey]; exact hc i _ (by simp[hi])⟩
theorem Vg {w:World} {Z:Nat->Prop} {u:Value} {z:List Int} (h:PV w Z u z):Src Tryz.prog 1 56 u z.length (z.map λx=>.int .i64 x) w:=by
 obtain⟨a,c,rfl,_,h⟩:=h
 have one:∀v∈(z.map λx=>Value.int .i64 x),v.oneCell'=true:=λv hv=>by obtain⟨x,_,rfl⟩:=Cj.1 hv; rfl
 rcases h with rfl|⟨b,o,rfl,_,hc⟩
 ·cases a with
  |none=>simpa using Src.ofNil w Tryz.underlying56 c
  |some a=>exact Src.ofSlice w Tryz.underlying56 a _ c _ (by simp) (by simp) one
 ·refine Src.ofSlice w Tryz.underlying56 ⟨b,o,none⟩ _ c _ (by simp) (λj v hj=>?_) one
  rw[List.getElem?_map]at hj
  cases hz:z[j]? with
  |none=>rw[hz] at hj; cases hj
  |some x=>
   rw[hz]at hj
   simp at hj
   subst hj
   obtain⟨hlt,rfl⟩:=List.getElem?_eq_some_iff.1 hz
   have:=hc j hlt
   by_cases h0:j=0
   ·subst h0; first|(simp[Addr.add]; done)|simpa [Addr.add] using this
   ·first|(simp[Addr.add,h0]; done)|simpa [Addr.add,h0] using this
def BN (f:Tm->Tm) (i:Int):Nat->List Tm->List Tm
 |_,[]=>[]
 |j,a::r=>(if (j:Int)=i then f a else a)::BN f i (j+1) r
def AL (x:Tm):List Int->Tm->Tm
 | [],_=>x
 |i::r,t=>⟨t.name,BN (AL x r) i 0 t.args⟩
theorem GR (f:Tm->Tm) (i:Int):∀(l:List Tm) (j:Nat),(BN f i j l).length=l.length
 | [],_=>rfl
 |a::r,j=>by simp[BN,GR f i r]
theorem L3 (f:Tm->Tm) (i:Int):∀(l:List Tm) (j k:Nat) (h:k<l.length),(BN f i j l)[k]'(by rw[GR]; exact h)=if ((j+k:Nat):Int)=i then f l[k] else l[k]
 | [],j,k,h=>by simp at h
 |a::r,j,0,h=>by simp[BN]
 |a::r,j,k+1,h=>by
  have:=L3 f i r (j+1) k (by simpa using h)
  simp only[BN,F7,this]
  rw[show j+1+k=j+(k+1) by omega]
theorem Vh (f:Tm->Tm) (i:Int) (l:List Tm) (k:Nat) (h:k<l.length):(BN f i 0 l).take (k+1)=(BN f i 0 l).take k++[if (k:Int)=i then f l[k] else l[k]]:=by
 rw[Bm (by rw[GR]; exact h),L3 f i l 0 k h,Ey]
theorem OI:∀(l:List Tm) (j:Nat) (p:List Int),p∈Ca j l->∃(k:Nat) (h:k<l.length) (p':List Int),p=((j+k:Nat):Int)::p'/\p'∈Bq l[k]
 | [],j,p,h=>by simp[Ca] at h
 |t::r,j,p,h=>by
  rw[Is,Bg,Cj]at h
  rcases h with ⟨p',hp',rfl⟩|h
  ·exact⟨0,by simp,p',by simp,hp'⟩
  ·obtain⟨k,hk,p',e,hp'⟩:=OI r (j+1) p h
   exact⟨k+1,by simpa using hk,p',by rw[e]; congr 1; omega,by simpa using hp'⟩
theorem OJ:∀(p:List Int) (t:Tm),p∈Bq t->∃y,AR t p=some y
 | [],t,_=>⟨t,rfl⟩
 |i::r,t,h=>by
  unfold Bq at h
  rcases BE.1 h with h|h
  ·cases h
  ·obtain⟨k,hk,p',e,hp'⟩:=OI t.args 0 _ h
   simp at e
   obtain⟨rfl,rfl⟩:=e
   obtain⟨y,hy⟩:=OJ r t.args[k] hp'
   refine⟨y,?_⟩
   rw[AR,DX ⟨by omega,by simpa using hk⟩]
   simpa using hy
theorem OK:∀(l:List Tm),Ah l=0↔∀t∈l,Ah [t]=0
 | []=>by simp[Ah]
 |t::r=>by
  rw[GK]
  by_cases h:Ah [t]=0
  ·rw[As h,OK r]
   simp[h]
  ·rw[An h]
   simp[h]
theorem Vi (t:Tm) (h:Ah [t]=0):Be t.name=true/\Ah t.args=0/\(0<t.args.length->Ak t.name=false):=by
 obtain⟨s,l⟩:=t
 have hn:Be s=true:=by
  cases hn:Be s with
  |true=>rfl
  |false=>simp[Ah,hn] at h
 have hl:Ah l=0/\(0<l.length->Ak s=false):=by
  by_cases hl:0<l.length
  ·have hv:Ak s=false:=by
    cases hv:Ak s with
    |false=>rfl
    |true=>simp[Ah,hn,hv,hl] at h
   refine⟨?_,λ_=>hv⟩
   simp only[Ah,hn,hv] at h
   by_cases h0:Ah l=0
   ·exact h0
   ·simp[h0]at h
  ·have e:l=[]:=Ew.1 (by omega)
   subst e
   exact⟨by simp[Ah],λh=>absurd h (by simp)⟩
 exact⟨hn,hl⟩
theorem L4 {t y:Tm} {i:Int} {r:List Int} (h:AR t (i::r)=some y):∃(k:Nat) (hk:k<t.args.length),i=(k:Int)/\AR t.args[k] r=some y:=by
 rw[AR]at h
 split at h
 ·rename_i hc
  exact⟨i.toNat,hc.2,by omega,h⟩
 ·cases h
theorem OL:∀(p:List Int) (t y:Tm),Ah [t]=0->AR t p=some y->Ah [y]=0
 | [],t,y,he,h=>by cases h; exact he
 |i::r,t,y,he,h=>by
  obtain⟨k,hk,rfl,h2⟩:=L4 h
  exact OL r _ y ((OK t.args).1 (Vi t he).2.1 _ (AV hk)) h2
theorem L7 (f:Tm->Tm) (i:Int):∀(l:List Tm) (j:Nat),i<(j:Int)->BN f i j l=l
 | [],j,h=>rfl
 |a::r,j,h=>by
  rw[BN,An (by omega),L7 f i r (j+1) (by omega)]
theorem OM (f:Tm->Tm) (i:Int) (M:Nat):∀(l:List Tm) (j:Nat),(∀a∈l,Ab [f a]<=Ab [a]+M)->Ab (BN f i j l)<=Ab l+M
 | [],j,h=>by simp[BN,Ab]
 |a::r,j,h=>by
  have e1:∀b (q:List Tm),Ab (b::q)=Ab [b]+Ab q:=λb q=>D8 [b] q
  rw[BN,e1,e1 a r]
  by_cases hj:(j:Int)=i
  ·rw[As hj,L7 f i r (j+1) (by omega)]
   have:=h a (by simp)
   omega
  ·rw[An hj]
   have:=OM f i M r (j+1) (λb hb=>h b (by simp[hb]))
   omega
theorem Ke (x:Tm):∀(p:List Int) (t:Tm),Ab [AL x p t]<=Ab [t]+Ab [x]
 | [],t=>by simp[AL]
 |i::r,t=>by
  obtain⟨s,l⟩:=t
  have h:=OM (AL x r) i (Ab [x]) l 0 (λa _=>Ke x r a)
  have e:∀q:List Tm,Ab [(⟨s,q⟩:Tm)]=1+Ab q:=λq=>by simp[Ab]
  rw[AL,e,e]
  show 1+Ab (BN (AL x r) i 0 l)<=_
  omega
theorem Vj {x:ByteArray} {l:List ByteArray} (h:AF x l=true):x∈l:=by
 unfold AF at h
 rw[D7]at h
 obtain⟨y,hy,e⟩:=h
 have e2:y=x:=Ej (by simpa using e)
 rw[<-e2]; exact hy
def Bt (p:Pr):Int:=if CA p.l p.r=0 then (if Ak p.l.name=true then 2 else if (At [] (Ao [p.r])).all (λn=>AF n (At [] (Ao [p.l])))=true then 0 else 15) else CA p.l p.r
def Eo (ls:List Pr):Nat->Int
 |0=>0
 |k+1=>if Eo ls k=0 then (match ls[k]? with|some p=>Bt p|none=>0) else Eo ls k
def Cg (ls:List Pr):Int:=if 40<ls.length then 3 else Eo ls ls.length
theorem L8 {ls:List Pr} {k:Nat} (h:Eo ls k≠0):∀n,k<=n->Eo ls n=Eo ls k
 |0,hn=>by
  have:k=0:=by omega
  subst this; rfl
 |n+1,hn=>by
  by_cases e:k=n+1
  ·subst e; rfl
  ·have ih:=L8 h n (by omega)
   rw[Eo,An (by rw[ih]; exact h)]
   exact ih
theorem Kf {ls:List Pr} {k:Nat} (hk:k<ls.length) (h0:Eo ls k=0):Eo ls (k+1)=Bt ls[k]:=by rw[Eo,As h0,Ha hk]
theorem ON {ls:List Pr} {k:Nat} (hk:k<ls.length) (aa:¬40<ls.length) (h0:Eo ls k=0) (hne:Bt ls[k]≠0):Cg ls=Bt ls[k]:=by
 unfold Cg
 rw[An aa]
 have h1:=Kf hk h0
 rw[<-h1]
 exact L8 (by rw[h1]; exact hne) _ (by omega)
theorem Vk {ls:List Pr} (h:Cg ls=0):ls.length<=40:=by
 unfold Cg at h
 split at h
 ·cases h
 ·omega
theorem GS {ls:List Pr} (h:Cg ls=0):∀p∈ls,Bt p=0:=by
 intro p hp
 obtain⟨k,hk,rfl⟩:=Hb hp
 have hl:=Vk h
 unfold Cg at h
 rw[An (by omega)]at h
 have h0:∀n,n<=ls.length->Eo ls n=0:=λn hn=>by
  by_cases e:Eo ls n=0
  ·exact e
  ·have:=L8 e _ hn
   rw[this]at h
   exact absurd h e
 have h1:=Kf hk (h0 k (by omega))
 rw[h0 (k+1) (by omega)]at h1
 exact h1.symm
theorem Ep {p:Pr} (h:Bt p=0):Ay p.l=0/\Ay p.r=0/\Ak p.l.name=false/\∀n∈At [] (Ao [p.r]),n∈At [] (Ao [p.l]):=by
 unfold Bt at h
 split at h
 ·rename_i h1
  split at h
  ·cases h
  ·rename_i h2
   split at h
   ·rename_i h3
    unfold CA at h1
    split at h1
    ·rename_i h4
     refine⟨h4,h1,by simpa using h2,λn hn=>?_⟩
     exact Vj (G8.1 h3 n hn)
    ·rename_i h4; exact absurd h1 h4
   ·cases h
 ·rename_i h1; exact absurd h h1
theorem Vl {l:List Bd} (ha:Ct l) {d:Bd} (hd:d∈l):Ar l d.nm=some d.t:=by
 induction l with
 |nil=>cases hd
 |cons a r ih=>
  obtain⟨h1,h2⟩:=I6.1 ha
  rcases BE.1 hd with rfl|hd
  ·simp[Ar]
  ·rw[Ar,An (h1 d hd)]
   exact ih h2 hd
theorem Vm {a b:List Bd} (h:∀n,Ar a n=Ar b n):∀l:List Tm,Am a l=Am b l:=by
 intro l
 induction l using Tm.indL with
 |h0=>simp[Am]
 |h s l r aa ae=>
  rw[Am,Am,aa,ae]
  congr 1
  unfold ER
  rw[h s]
theorem Vn {a b:List Bd} (h:∀n,Ar a n=Ar b n) (t:Tm):Ag a t=Ag b t:=by
 unfold Ag ER
 rw[h,Vm h]
theorem Vo {a b:List Bd} (hp:a.Perm b) (hb:Ct b) (n:ByteArray):Ar a n=Ar b n:=by
 have key:∀ {a b:List Bd} {x:Tm},a.Perm b->Ct b->Ar a n=some x->Ar b n=some x:=fun {a b x} hp hb h=>by
  have hm:∀ {l:List Bd},Ar l n=some x->∃d∈l,d.nm=n/\d.t=x:=fun {l}=>by
   induction l with
   |nil=>intro h; simp[Ar] at h
   |cons d r ih=>
    intro h
    rw[Ar]at h
    split at h
    ·rename_i e; exact⟨d,by simp,e,by simpa using h⟩
    ·obtain⟨d',h1,h2⟩:=ih h
     exact⟨d',by simp[h1],h2⟩
  obtain⟨d,hd,rfl,rfl⟩:=hm h
  exact Vl hb (hp.mem_iff.1 hd)
 cases h1:Ar a n with
 |some x=>exact(key hp hb h1).symm
 |none=>
  cases h2:Ar b n with
  |none=>rfl
  |some x=>
   have ha:Ct a:=Ct.perm hb hp
   rw[key hp.symm ha h2]at h1
   cases h1
def C8 (p:Pr) (x:Tm):Option Tm:=(AY p.l x []).map λh=>Ag h p.r
def A7:List ByteArray->List Tm->List Tm×List ByteArray
 |ns,[]=>([],ns)
 |ns,⟨s,l⟩::r=>
  if Ak s=true then (⟨BR (Az s ns+1),[]⟩::(A7 (Cc ns s) r).1,(A7 (Cc ns s) r).2)
  else (⟨s,(A7 ns l).1⟩::(A7 (A7 ns l).2 r).1,(A7 (A7 ns l).2 r).2)
def CX (ns:List ByteArray) (t:Tm):Tm×List ByteArray:=
 if Ak t.name=true then (⟨BR (Az t.name ns+1),[]⟩,Cc ns t.name) else (⟨t.name,(A7 ns t.args).1⟩,(A7 ns t.args).2)
theorem Gp (ns:List ByteArray):A7 ns []=([],ns):=by rw[A7]
theorem GT (ns:List ByteArray) (t:Tm) (r:List Tm):A7 ns (t::r)=((CX ns t).1::(A7 (CX ns t).2 r).1,(A7 (CX ns t).2 r).2):=by
 obtain⟨s,l⟩:=t
 rw[A7]
 unfold CX
 by_cases h:Ak s=true
 ·simp[h]
 ·simp[h]
theorem OO (b:List Tm):∀(a:List Tm) (ns:List ByteArray),A7 ns (a++b)=((A7 ns a).1++(A7 (A7 ns a).2 b).1,(A7 (A7 ns a).2 b).2)
 | [],ns=>by simp[Gp]
 |t::r,ns=>by
  rw[Cf,GT,OO b r,GT]
  simp
theorem Vp (ns:List ByteArray) (l:List Tm) (k:Nat) (h:k<l.length):A7 ns (l.take (k+1))=((A7 ns (l.take k)).1++[(CX (A7 ns (l.take k)).2 l[k]).1],(CX (A7 ns (l.take k)).2 l[k]).2):=by
 rw[Bm h,OO,GT,Gp]
theorem L9:∀(l:List Tm) (ns:List ByteArray),(A7 ns l).1.length=l.length
 | [],ns=>by simp[Gp]
 |t::r,ns=>by rw[GT]; simp[L9 r]
theorem Vq (l:List Tm):∀(ns:List ByteArray),(A7 ns l).2.length<=ns.length+Ab l:=by
 induction l using Tm.indL with
 |h0=>intro ns; simp[Gp]
 |h s l r aa ae=>
  intro ns
  have e:Ab ((⟨s,l⟩:Tm)::r)=1+Ab l+Ab r:=by simp[Ab]
  rw[e,GT]
  have h2:=ae (CX ns ⟨s,l⟩).2
  have h3:(CX ns ⟨s,l⟩).2.length<=ns.length+(1+Ab l):=by
   unfold CX
   split
   ·have:=LU ns s; simp only; omega
   ·have:=aa ns; simp only; omega
  simp only
  omega
theorem OP (w:World) (a b:Value) (T:Nat):∀j u,([a,b]:List Value)[j]? = some u->(w.alloc (.cells #[a,b] T)).cell? ((⟨w.heap.size,0,none⟩:Addr).add j)=some u:=λj u h=>by
 have hb:=Ac.new w #[a,b] T
 have h1:(⟨w.heap.size,0,none⟩:Addr).add j=⟨w.heap.size,j,none⟩:=by
  by_cases h0:j=0
  ·subst h0; simp[Addr.add]
  ·simp[Addr.add,h0]
 rw[h1,hb.cell j]
 simpa using h
def Ea (Q:Nat) (s1:ByteArray) (v1:Value) (w':World):Prop:=w'.cell? ⟨Q,0,none⟩=some (.string s1)/\w'.cell? ⟨Q,1,none⟩=some v1
theorem Ea.kept {Q:Nat} {s1:ByteArray} {v1:Value} {w w':World} (h:Ea Q s1 v1 w) (hk:w'.heap[Q]? = w.heap[Q]?):Ea Q s1 v1 w':=⟨by simpa [World.cell?,hk] using h.1,by simpa [World.cell?,hk] using h.2⟩
structure It (w:World) (B r:Nat) (s:ByteArray) (T:Array Value) (u:Value) (L:List Tm) (xs:List Value) (ns:List ByteArray) (wr:World):Prop where
 row:AN wr (w.heap.size+3) 29 (λ_=>False) u L xs
 ex:Al (λb=>b=r) w wr
 res:Ac wr (w.heap.size+1) #[.string ⟨#[]⟩,.slice none 0 0] 29
 out:Ac wr (w.heap.size+2) #[.string s,u] 29
 sz:w.heap.size+3<=wr.heap.size
 nm:CW wr B r ns
theorem Kg {w wq w5:World} {B r:Nat} {s:ByteArray} {T:Array Value} {u:Value} {L:List Tm} {xs:List Value} {ns ae:List ByteArray} {t:Tm} {a5:Option Addr} {c5 Q:Nat} {s1:ByteArray} {v1:Value} (hr:r<w.heap.size) (hB:B<w.heap.size) (h:It w B r s T u L xs ns wq) (hQ:w.heap.size+3<=Q/\some Q≠u.ownBlock) (hS:Ea Q s1 v1 wq) (hl:L.length<=1000000)
  (h5:Al (λb=>b=r) wq w5) (hs5:Sl w5 (λb=>wq.heap.size<=b) a5 t.args) (aa:CW w5 B r ae):
  ∃g cap w3,(Builtin.append_ #[27,27] 27 #[u,.slice (some ⟨w5.heap.size,0,none⟩) 1 1]).run Tryz.prog (w5.alloc (.cells #[.string t.name,.slice a5 t.args.length c5] 29))=.ok (.slice (some ⟨g,0,none⟩) (L.length+1) cap) w3/\
   Ea Q s1 v1 w5/\Ea Q s1 v1 (w5.alloc (.cells #[.string t.name,.slice a5 t.args.length c5] 29))/\Ea Q s1 v1 w3/\w5.cell? ⟨w.heap.size+2,1,none⟩=some u/\(w5.alloc (.cells #[.string t.name,.slice a5 t.args.length c5] 29)).cell? ⟨w.heap.size+2,1,none⟩=some u/\w3.cell? ⟨w.heap.size+2,1,none⟩=some u/\w3.frozen? ⟨w.heap.size+2,1,none⟩=false/\w.heap.size+2<w3.heap.size/\
   Ea Q s1 v1 (w3.setCell ⟨w.heap.size+2,1,none⟩ (.slice (some ⟨g,0,none⟩) (L.length+1) cap))/\It w B r s T (.slice (some ⟨g,0,none⟩) (L.length+1) cap) (L++[t]) (xs++[.string t.name,.slice a5 t.args.length c5]) ae (w3.setCell ⟨w.heap.size+2,1,none⟩ (.slice (some ⟨g,0,none⟩) (L.length+1) cap)):=by
 obtain⟨hrow,hex,hres,hout,hsz,ar⟩:=h
 obtain⟨i0,hi,hz0,hz1,hz2⟩:=CT Tryz.infoTerm
 obtain⟨wm,af,hsm,aj⟩:=h5.mid
 have hlt:=hrow.own.lt
 have ai:=hrow.exq aj (λb hb=>by omega) (λb _ h=>h)
 have au:=af.size
 have ak:Q<wq.heap.size:=by
  apply G7
  intro hn
  have e:wq.heap[Q]? = none:=I2 (by omega)
  have:=hS.1
  simp[World.cell?,e]at this
 obtain⟨g,cap,w3,hr3,ho,hg,hat,av⟩:=run_append_lies (P:=Tryz.prog) (w:=w5.alloc (.cells #[.string t.name,.slice a5 t.args.length c5] 29)) 27 27 (w.heap.size+3) 29 i0 _ 2 40 Tryz.underlying27 hi hz0 hz1 hz2 rfl (by decide) u L.length xs ((ai.below af).own.alloc _)
  ⟨w5.heap.size,0,none⟩ 1 1 [.string t.name,.slice a5 t.args.length c5] rfl (OP _ _ _ _) (λy hy=>by simp at hy; rcases hy with rfl|rfl<;>rfl) (by decide) (by unfold maxLen; omega) (by omega) (by simp; omega) _ rfl
 have hp:=ai.push (w1:=w5) (w3:=w3) (t:=t) (by omega) (λb h=>h.elim) af ⟨a5,c5,rfl,hs5.mono λb h _=>Ae (by omega)⟩ _ rfl ho hg hat
 have hne:∀j,j<w.heap.size+3->some j≠u.ownBlock:=λj hj e=>by have:=(hlt j e.symm).1; omega
 have hs3:=hg.size
 simp at hs3
 have ao:Al (λb=>b=r) w w5:=hex.transN h5 (λi h _=>h)
 have hx3:Al (λb=>b=r) w w3:=(ao.alloc _).grown hg (λk hk=>Ad (by have:=(hlt k hk).1; omega))
 have ag:=hout.exq h5 (by omega)
 have ah:=(ag.alloc (.cells #[.string t.name,.slice a5 t.args.length c5] 29)).grown hg (hne _ (by omega))
 have aq:=((hres.exq h5 (by omega)).alloc (.cells #[.string t.name,.slice a5 t.args.length c5] 29)).grown hg (hne _ (by omega))
 have S5:Ea Q s1 v1 w5:=hS.kept (h5.block Q ak (by omega))
 have S6:Ea Q s1 v1 (w5.alloc (.cells #[.string t.name,.slice a5 t.args.length c5] 29)):=S5.kept (AP _ _ _ (by omega))
 have S3:Ea Q s1 v1 w3:=S6.kept (hg.block Q (by simp; omega) hQ.2)
 have N3:CW w3 B r ae:=⟨((aa.alloc _).box).grown hg (hne _ (by omega)),(aa.alloc (.cells #[.string t.name,.slice a5 t.args.length c5] 29)).map.kept (hg.block r (by have:=aa.map.lt; simp; omega) (hne _ (by omega))),aa.ne⟩
 refine⟨g,cap,w3,hr3,S5,S6,S3,ag.cell 1,(ag.alloc _).cell 1,ah.cell 1,ah.frozen 1,by omega,S3.kept (Aq _ _ _ _ (by simp; omega)),?_⟩
 refine⟨hp.setCell (by omega) (λh=>h) _,hx3.setNew (by omega) _ _,aq.setOther _ _ (by omega),ah.set 1 _,by simp[World.setCell]; omega,⟨N3.box.setOther _ _ (by omega),N3.map.kept (Aq _ _ _ _ (by simp; omega)),N3.ne⟩⟩
def Ma (B r:Nat) (y:Tm×List ByteArray) (w:World) (e:Ending) (w':World):Prop:=
 ∃a c,e=.returned (.agg #[.string y.1.name,.slice a y.1.args.length c])/\Sl w' (λb=>w.heap.size<=b) a y.1.args/\CW w' B r y.2/\Al (λb=>b=r) w w'
theorem Vr (BT B r:Nat) (aH:BT<=r) (t:Tm):∀(v:Value) (ns:List ByteArray) (w:World) (X:Nat->Prop),TV w X v t->(∀b,X b->b≠r)->CW w B r ns->Tb BT w->ns.length+Ab [t]<=100000->
  Calls Tryz.prog 82 #[v,.func (.func 80) #[] #[.pointer (some ⟨B,0,none⟩)]] w λe w'=>Ma B r (CX ns t) w e w':=by
 induction t using Tm.ind with
 |h s l ih=>
  intro v ns w X hv hX hN hT hsz
  obtain⟨a,c,rfl,hs⟩:=hv
  have IH:=Aa ih
  have HS:=Aa hs
  have HX:=Aa hX
  have HN:=Aa hN
  have HT:=Aa hT
  have hl:=hs.1
  have hz:Ab [(⟨s,l⟩:Tm)]=1+Ab l:=by simp[Ab]
  rw[hz]at hsz
  have hlen:=Ez l
  have aI:r<w.heap.size:=hN.map.lt
  have hBl:B<w.heap.size:=hN.box.lt
  have aj:Hid (r<w.heap.size/\B<w.heap.size):=⟨aI,hBl⟩
  have ax:BT<=w.heap.size:=by omega
  clear ih hs hz hX hN hT
  have T2:Hid (Ac ((w.alloc (.cells #[.string s,.slice a l.length c] 29)).alloc (.cells #[.string ⟨#[]⟩,.slice none 0 0] 29)) w.heap.size #[.string s,.slice a l.length c] 29):=(Ac.new w _ _).alloc _
  have R2:Hid (Ac ((w.alloc (.cells #[.string s,.slice a l.length c] 29)).alloc (.cells #[.string ⟨#[]⟩,.slice none 0 0] 29)) (w.heap.size+1) #[.string ⟨#[]⟩,.slice none 0 0] 29):=by
   have h:=Ac.new (w.alloc (.cells #[.string s,.slice a l.length c] 29)) #[.string ⟨#[]⟩,.slice none 0 0] 29
   rw[CN]at h
   exact h
  have B2:Hid (Below w.heap.size w ((w.alloc (.cells #[.string s,.slice a l.length c] 29)).alloc (.cells #[.string ⟨#[]⟩,.slice none 0 0] 29))):=((Af _ _).alloc (Aj _) _).alloc (by simp) _
  have c0:=T2.out.cell 0
  have c1:=T2.out.cell 1
  cases ai:Ak s with
  |true=>
   have HR:Hid (CX ns ⟨s,l⟩=(⟨BR (Az s ns+1),[]⟩,Cc ns s)):=by unfold Hid CX; simp[ai]
   have NM:=Aa (Om BT s ns B r _ (HN.out.later B2.out) (HT.out.on (B2.out.mono ax)) aH (AX ax B2.out.size) (by omega))
   have HV:=Aa ai
   clear ai
   go_enter Tryz.func82,Tryz.ntmps82
   go_wp2_with fail
   refine(Cz s _).mono ?_
   rintro e w2 ⟨rfl,rfl⟩
   rw[HV.out]
   go_wp2_with fail
   refine NM.out.mono ?_
   rintro e w3 ⟨rfl,a8,hx3⟩
   have R3:=Aa (R2.out.exq hx3 (by omega))
   have ay:=Aa a8
   have aJ:=Aa ((Al.ofBelow (Q:=λb=>b=r) B2.out).transN hx3 (λi h _=>h))
   clear a8 hx3 c0 c1 NM
   have r0:=R3.out.c0
   have r1:=R3.out.c1
   have rf:=R3.out.frozen
   have az:w.heap.size+1<w3.heap.size:=R3.out.lt
   generalize BR (Az s ns+1)=nm at *
   go_wp2_with fail
   refine Ap (v:=.agg #[.string nm,.slice none 0 0]) (by simp[results,Tryz.results82,go_sem,AU,AG,r0,r1,az]) rfl ?_
   rw[HR.out]
   refine⟨none,0,rfl,⟨by simp,Ad rfl⟩,⟨(ay.out.box.setOther _ _ (by omega)).setOther _ _ (by omega),?_,ay.out.ne⟩,(aJ.out.setNew (by omega) _ _).setNew (by omega) _ _⟩
   refine ay.out.map.kept ?_
   rw[Aq _ _ _ _ (by simp; omega),Aq _ _ _ _ (by simp; omega)]
  |false=>
   have HR:Hid (CX ns ⟨s,l⟩=(⟨s,(A7 ns l).1⟩,(A7 ns l).2)):=by unfold Hid CX; simp[ai]
   have HV:=Aa ai
   clear ai
   go_enter Tryz.func82,Tryz.ntmps82
   go_wp2_with fail
   refine(Cz s _).mono ?_
   rintro e w2 ⟨rfl,rfl⟩
   rw[HV.out]
   go_wp2_with fail
   have O3:Hid (Ac (((w.alloc (.cells #[.string s,.slice a l.length c] 29)).alloc (.cells #[.string ⟨#[]⟩,.slice none 0 0] 29)).alloc (.cells #[.string s,.slice none 0 0] 29)) (w.heap.size+2) #[.string s,.slice none 0 0] 29):=by
    have h:=Ac.new ((w.alloc (.cells #[.string s,.slice a l.length c] 29)).alloc (.cells #[.string ⟨#[]⟩,.slice none 0 0] 29)) #[.string s,.slice none 0 0] 29
    have e:((w.alloc (.cells #[.string s,.slice a l.length c] 29)).alloc (.cells #[.string ⟨#[]⟩,.slice none 0 0] 29)).heap.size=w.heap.size+2:=by simp
    rw[e]at h
    exact h
   have R3:=Aa (R2.out.alloc (.cells #[.string s,.slice none 0 0] 29))
   have B3:=Aa (B2.out.alloc B2.out.size (.cells #[.string s,.slice none 0 0] 29))
   have aK:Hid (w.heap.size+3<=(((w.alloc (.cells #[.string s,.slice a l.length c] 29)).alloc (.cells #[.string ⟨#[]⟩,.slice none 0 0] 29)).alloc (.cells #[.string s,.slice none 0 0] 29)).heap.size):=by unfold Hid; simp
   clear c0 c1 B2 T2 R2
   generalize (((w.alloc (.cells #[.string s,.slice a l.length c] 29)).alloc (.cells #[.string ⟨#[]⟩,.slice none 0 0] 29)).alloc (.cells #[.string s,.slice none 0 0] 29))=w3 at *
   go_loopw [22] (λi wr=>∃(k:Nat) (u:Value) (xs:List Value),k<=l.length/\i=.int .i64 (k:Int)/\It w B r s #[] u (A7 ns (l.take k)).1 xs (A7 ns (l.take k)).2 wr) (λi wr=>l.length-(intOf i).toNat)
   case atStart=>exact⟨0,.slice none 0 0,[],AE _,rfl,⟨by have h:=AN.start w3 (w.heap.size+3) 29 (λ_=>False); simpa [Gp] using h,Al.ofBelow B3.out,R3.out,O3.out,aK.out,by simpa [Gp] using HN.out.later B3.out⟩⟩
   case round=>
    obtain⟨k,u9,xs,hk,rfl,aA⟩:=hrel
    have aa:=Aa aA
    clear aA
    have o0:=aa.out.out.c0
    have o1:wr.cell? ⟨w.heap.size+2,1,none⟩=some u9:=aa.out.out.cell 1
    by_cases hlt:k<l.length
    ·obtain⟨b,o,a',c',rfl,d0,d1,hx⟩:=(((HS.out.mono (Y:=λb=>X b/\b<w.heap.size) λb h1 h2=>⟨h1,h2⟩).exq aa.out.ex (λb h=>HX.out b h.1)).mono (Y:=λb=>(X b/\b<w.heap.size)/\b<wr.heap.size) λb h1 h2=>⟨h1,h2⟩).get (Af wr.heap.size wr) (λb h _=>h.2) k hlt
     have aL:(k:Int)<(l.length:Int):=by omega
     have aM:Ab [l[k]]<=Ab l-Ab (l.take k):=by
      have h1:=C4 l k hlt
      have h2:=C5 l (k+1)
      omega
     have aB:Ab (l.take k)<=Ab l:=C5 l k
     have aC:Hid ((A7 ns (l.take k)).1.length<=1000000):=by unfold Hid; rw[L9]; simp; omega
     have aR:=Vq (l.take k) ns
     have a6:=Aa (Vp ns l k hlt)
     have BQ:Below wr.heap.size wr (wr.alloc (.cells #[.string l[k].name,.slice a' l[k].args.length c'] 29)):=(Af _ _).alloc (Aj _) _
     have aN:=Aa (hx.later BQ)
     have ar:Hid (w.heap.size+3<=wr.heap.size/\some wr.heap.size≠u9.ownBlock):=⟨aa.out.sz,λe=>by have:=(aa.out.row.own.lt _ e.symm).2; omega⟩
     have SQ:Hid (It w B r s #[] u9 (A7 ns (l.take k)).1 xs (A7 ns (l.take k)).2 (wr.alloc (.cells #[.string l[k].name,.slice a' l[k].args.length c'] 29))):=⟨aa.out.row.below BQ,aa.out.ex.alloc _,aa.out.res.alloc _,aa.out.out.alloc _,by have:=aa.out.sz; simp; omega,aa.out.nm.alloc _⟩
     have a7:Hid (Ea wr.heap.size l[k].name (.slice a' l[k].args.length c') (wr.alloc (.cells #[.string l[k].name,.slice a' l[k].args.length c'] 29))):=⟨(Ac.new wr _ _).cell 0,(Ac.new wr _ _).cell 1⟩
     have aO:Hid (Tb BT (wr.alloc (.cells #[.string l[k].name,.slice a' l[k].args.length c'] 29))):=HT.out.on (SQ.out.ex.below ax (λb hb=>by omega))
     clear hx BQ o0
     go_upto_region 7 with fail
     clear d0 d1 aa o1
     generalize (wr.alloc (.cells #[.string l[k].name,.slice a' l[k].args.length c'] 29))=wq at *
     generalize wr.heap.size=Q at *
     have aD:Hid (Calls Tryz.prog 82 #[.agg #[.string l[k].name,.slice a' l[k].args.length c'],.func (.func 80) #[] #[.pointer (some ⟨B,0,none⟩)]] wq.drew λe w''=>∃a1 c1,e=.returned (.agg #[.string (CX (A7 ns (l.take k)).2 l[k]).1.name,.slice a1 (CX (A7 ns (l.take k)).2 l[k]).1.args.length c1])/\Sl w'' (λb=>wq.heap.size<=b) a1 (CX (A7 ns (l.take k)).2 l[k]).1.args/\CW w'' B r (CX (A7 ns (l.take k)).2 l[k]).2/\Al (λb=>b=r) wq w''):=(IH.out l[k] (AV hlt) _ _ wq.drew _ (aN.out.later ((Af wq.heap.size wq).drew)) (λb h=>HX.out b h.1.1) (SQ.out.nm.later ((Af wq.heap.size wq).drew)) (aO.out.on ((Af BT wq).drew)) (by omega)).mono λe w'' hp=>by
       obtain⟨a1,c1,h1,h2,h3,h4⟩:=hp
       exact⟨a1,c1,h1,h2,h3,((Al.refl _ wq).drew).trans h4⟩
     generalize CX (A7 ns (l.take k)).2 l[k]=y at *
     have aF:Hid (Ea Q l[k].name (.slice a' l[k].args.length c') wq.drew):=a7.out
     refine CU (S:=Ea Q l[k].name (.slice a' l[k].args.length c')) (by kernel_rfl) aF.out (λhHeld=>?_)
     refine tkz 0 ?_
     refine tkz 2 ?_ (hy:=by intro w' hSw;have e0:=hSw.1;have e1:=hSw.2;go_simp<;>with_reducible rfl)
     refine tkz 3 ?_
     have aS:wq.drew.cell? ⟨w.heap.size+2,1,none⟩=some u9:=SQ.out.out.cell 1
     refine DV (rs:=[1,4]) (by kernel_rfl) (by simp) ?_
     refine Cb rfl (λK hK=>?_) (Cb rfl (λK hK=>?_) DW)
     ·go_simp
      refine hK.out _ _ (by exact aF.out) (λhHeld=>?_)
      clear hK K
      try simp only[Act.put,sq]
      refine rdq 4 rfl λK hK=>?_
      go_simp
      go_at_call 82
      refine aD.out.mono ?_
      rintro e w5 ⟨a5,c5,rfl,hs5,ak,ao⟩
      obtain⟨g,cap,w3,hrun,S1,S2,S3,p5,p6,o3,of,ol,S4,af⟩:=Kg (t:=y.1) (c5:=c5) aj.out.1 aj.out.2 SQ.out ⟨ar.out.1,ar.out.2⟩ a7.out aC.out ao hs5 ak
      have ag:=Aa hrun
      have ah:=Aa af
      have au:=Aa S1
      have aq:=Aa S2
      have av:=Aa S3
      have aw:=Aa S4
      have O5:=Aa (And.intro p5 (And.intro o3 (And.intro of ol)))
      clear hrun af S1 S2 S3 S4 hs5 ak ao
      go_simp
      refine hK.out _ _ (by exact au.out) (λhHeld=>?_)
      clear hK K
      try simp only[Act.put,sq]
      refine rdq 5 rfl λK hK=>?_
      go_simp
      refine hK.out _ _ (by exact aq.out) (λhHeld=>?_)
      clear hK K
      try simp only[Act.put,sq]
      refine rdq 6 rfl λK hK=>?_
      refine FV rfl _ _ _ _ rfl rfl rfl ag.out ?_
      refine hK.out _ _ (by exact av.out) (λhHeld=>?_)
      clear hK K
      try simp only[Act.put,sq]
      refine tkz 7 ?_
      refine rdq 8 rfl λK hK=>?_
      go_simp
      refine hK.out _ _ (by exact aw.out) (λhHeld=>?_)
      clear hK K
      try simp only[Act.put,sq]
      refine dnq ?_
      clear o3 of ol p5 p6
      go_wp2_with fail
      go_roundw
      case rel=>exact⟨k+1,_,_,by omega,by go_num,by rw[a6.out]; exact ah.out⟩
      case measure=>simp[intOf]; omega
     ·go_simp
      go_at_call 82
      refine aD.out.mono ?_
      rintro e w5 ⟨a5,c5,rfl,hs5,ak,ao⟩
      obtain⟨g,cap,w3,hrun,S1,S2,S3,p5,p6,o3,of,ol,S4,af⟩:=Kg (t:=y.1) (c5:=c5) aj.out.1 aj.out.2 SQ.out ⟨ar.out.1,ar.out.2⟩ a7.out aC.out ao hs5 ak
      have ag:=Aa hrun
      have ah:=Aa af
      have au:=Aa S1
      have aq:=Aa S2
      have av:=Aa S3
      have aw:=Aa S4
      have O5:=Aa (And.intro p5 (And.intro o3 (And.intro of ol)))
      clear hrun af S1 S2 S3 S4 hs5 ak ao
      go_simp
      refine hK.out _ _ (by exact au.out) (λhHeld=>?_)
      clear hK K
      try simp only[Act.put,sq]
      refine DV (rs:=[1,5]) (by kernel_rfl) (by simp) ?_
      refine Cb rfl (λK hK=>?_) (Cb rfl (λK hK=>?_) DW)
      ·go_simp
       refine hK.out _ _ (by exact au.out) (λhHeld=>?_)
       clear hK K
       try simp only[Act.put,sq]
       refine rdq 5 rfl λK hK=>?_
       go_simp
       refine hK.out _ _ (by exact aq.out) (λhHeld=>?_)
       clear hK K
       try simp only[Act.put,sq]
       refine rdq 6 rfl λK hK=>?_
       refine FV rfl _ _ _ _ rfl rfl rfl ag.out ?_
       refine hK.out _ _ (by exact av.out) (λhHeld=>?_)
       clear hK K
       try simp only[Act.put,sq]
       refine tkz 7 ?_
       refine rdq 8 rfl λK hK=>?_
       go_simp
       refine hK.out _ _ (by exact aw.out) (λhHeld=>?_)
       clear hK K
       try simp only[Act.put,sq]
       refine dnq ?_
       clear o3 of ol p5 p6
       go_wp2_with fail
       go_roundw
       case rel=>exact⟨k+1,_,_,by omega,by go_num,by rw[a6.out]; exact ah.out⟩
       case measure=>simp[intOf]; omega
      ·go_simp
       refine hK.out _ _ (by exact aq.out) (λhHeld=>?_)
       clear hK K
       try simp only[Act.put,sq]
       refine rdq 1 rfl λK hK=>?_
       go_simp
       refine hK.out _ _ (by exact aq.out) (λhHeld=>?_)
       clear hK K
       try simp only[Act.put,sq]
       refine rdq 6 rfl λK hK=>?_
       refine FV rfl _ _ _ _ rfl rfl rfl ag.out ?_
       refine hK.out _ _ (by exact av.out) (λhHeld=>?_)
       clear hK K
       try simp only[Act.put,sq]
       refine tkz 7 ?_
       refine rdq 8 rfl λK hK=>?_
       go_simp
       refine hK.out _ _ (by exact aw.out) (λhHeld=>?_)
       clear hK K
       try simp only[Act.put,sq]
       refine dnq ?_
       clear o3 of ol p5 p6
       go_wp2_with fail
       go_roundw
       case rel=>exact⟨k+1,_,_,by omega,by go_num,by rw[a6.out]; exact ah.out⟩
       case measure=>simp[intOf]; omega
    ·have aT:¬((k:Int)<(l.length:Int)):=by omega
     have aP:l.take k=l:=AW (by omega)
     rw[aP]at aa
     obtain⟨ae,ce,rfl,hse⟩:=aa.out.row.sl
     have aQ:=Aa hse
     clear hse
     have r0:=aa.out.res.c0
     have r1:=aa.out.res.c1
     have rf:=aa.out.res.frozen
     have az:w.heap.size+1<wr.heap.size:=aa.out.res.lt
     go_wp2_with fail
     refine Ap (v:=.agg #[.string s,.slice ae (A7 ns l).1.length ce]) (by simp[results,Tryz.results82,go_sem,AU,AG,r0,r1,az]) rfl ?_
     rw[HR.out]
     have aU:=aa.out.sz
     have aV:=aj.out
     refine⟨ae,ce,rfl,(aQ.out.kept λb hb=>?_).mono λb hb _=>?_,⟨(aa.out.nm.box.setOther _ _ (by omega)).setOther _ _ (by omega),?_,aa.out.nm.ne⟩,(aa.out.ex.setNew (by omega) _ _).setNew (by omega) _ _⟩
     ·have aG:b≠w.heap.size+1:=by
       rcases hb with h|h
       ·exact h.elim
       ·omega
      rw[Aq _ _ _ _ (by simpa using aG),Aq _ _ _ _ (by simpa using aG)]
     ·rcases hb with h|h
      ·exact h.elim
      ·omega
     ·refine aa.out.nm.map.kept ?_
      rw[Aq _ _ _ _ (by simp; omega),Aq _ _ _ _ (by simp; omega)]
def Kh (s:List Bd):Prop:=∀n x,Ar s n=some x->Ak n=true
def Ki (l:List Tm):Prop:=∀k∈Ao l,Ak k.name=true->k.args=[]
theorem Ki.cons {t:Tm} {r:List Tm} (h:Ki (t::r)):Ki [t]/\Ki r:=by
 have e:Ao (t::r)=Ao [t]++Ao r:=Ou [t] r
 exact⟨λk hk=>h k (by rw[e]; simp[hk]),λk hk=>h k (by rw[e]; simp[hk])⟩
def Vs (w:World) (X:Nat->Prop) (l:List Bd) (n:ByteArray) (e:Ending) (w':World):Prop:=
 Below w.heap.size w w'/\((∃t a c,Ar l n=some t/\e=.returned (.tuple #[.agg #[.string t.name,.slice a t.args.length c],.bool true])/\Sl w' X a t.args)∨(Ar l n=none/\e=.returned (.tuple #[.agg #[.string ⟨#[]⟩,.slice none 0 0],.bool false])))
def Vt (l:List Bd) (n:ByteArray) (w0:World) (v:Value) (wr:World):Prop:=∃k:Nat,k<=l.length/\v=.int .i64 (k:Int)/\Ar (l.take k) n=none/\wr=w0
theorem Mb (l:List Bd) (n:ByteArray) (v:Value) (w:World) (X0:Nat->Prop) (hv0:BV w X0 v l):
  Calls Tryz.prog 71 #[v,.string n] w λe w'=>Vs w (λb=>X0 b/\b<w.heap.size) l n e w':=by
 have HV:=Aa (hv0.mono (Y:=λb=>X0 b/\b<w.heap.size) λb h1 h2=>⟨h1,h2⟩)
 obtain⟨a,c,rfl,hl,hv⟩:=hv0
 clear hv
 go_enter Tryz.func71,Tryz.ntmps71
 go_wp2_with fail
 have R0:=Aa (Ac.new w #[.string ⟨#[]⟩,.slice none 0 0] 29)
 have B0:=Aa ((Af w.heap.size w).alloc (Aj _) (.cells #[.string ⟨#[]⟩,.slice none 0 0] 29))
 have V0:=Aa (HV.out.alloc (.cells #[.string ⟨#[]⟩,.slice none 0 0] 29))
 generalize w.alloc (.cells #[.string ⟨#[]⟩,.slice none 0 0] 29)=w0 at *
 go_loopw [6] (λv wr=>Vt l n w0 v wr) (λv wr=>l.length-(intOf v).toNat)
 case atStart=>exact⟨0,AE _,rfl,rfl,rfl⟩
 case round=>
  obtain⟨k,hk,rfl,hno,rfl⟩:=hrel
  have aa:=Aa hno
  clear hno
  have r0:=R0.out.c0
  have r1:=R0.out.c1
  have rf:=R0.out.frozen
  by_cases hlt:k<l.length
  ·obtain⟨b,o,a',c',rfl,d0,d1,d2,hs⟩:=V0.out.get k hlt
   have af:(k:Int)<(l.length:Int):=by omega
   have HT:=Aa (Uc hlt aa.out)
   have HS:=Aa hs
   clear hs
   generalize l[k]=d at *
   by_cases he:d.nm=n
   ·have heq:=Hi he
    have HF:=Aa (HT.out.1 he)
    clear he
    go_wp2_with fail
    refine Ap (v:=.tuple #[.agg #[.string d.t.name,.slice a' d.t.args.length c'],.bool true]) (by simp[results,Tryz.results71,go_sem,AU,AG,r0,r1]) rfl ?_
    refine⟨(B0.out.setCell (by simp) _).setCell (by simp) _,Ad ⟨d.t,a',c',HF.out,rfl,HS.out.kept λb hb=>?_⟩⟩
    rw[Aq _ _ _ _ (by simp; omega),Aq _ _ _ _ (by simp; omega)]
   ·have heq:=I9 he
    have HF:=Aa (HT.out.2 he)
    clear he
    go_wp2_with fail
    go_roundw
    case rel=>exact⟨k+1,by omega,by go_num,HF.out,by trivial⟩
    case measure=>simp[intOf]; omega
  ·have ae:l.take k=l:=AW (by omega)
   have HF:=Aa aa.out
   rw[ae]at HF
   clear ae
   go_wp2_with fail
   refine Ap (v:=.tuple #[.agg #[.string ⟨#[]⟩,.slice none 0 0],.bool false]) (by simp[results,Tryz.results71,go_sem,AU,AG,r0,r1]) rfl ?_
   exact⟨(B0.out.setCell (by simp) _).setCell (by simp) _,Ae ⟨HF.out,rfl⟩⟩
open Go.ChangeMaps (setBlock)
def Dv (w:World) (b r:Nat) (L rem:List (ByteArray×Value)):Prop:=
 ∃es clk since seen c0,w.heap[b]? = some (.map es clk)/\es.toList.map (λe=>(e.key,e.val))=L.map (λp=>(Value.string p.1,p.2))/\Gl es clk/\
  w.heap[r]? = some (.mapIter (some b) since seen c0)/\(∀x∈es.toList,x.born<since)/\since<=c0/\since<=clk/\
  (leftOf es seen).toList.map (λe=>(e.key,e.val))=rem.map (λp=>(Value.string p.1,p.2))
def OQ (w:World) (b r:Nat):Nat:=
 match w.heap[b]?,w.heap[r]? with
 |some (.map es _),some (.mapIter _ _ seen _)=>(leftOf es seen).size
 |_,_=>0
theorem Dv.left {w:World} {b r:Nat} {L rem:List (ByteArray×Value)} (h:Dv w b r L rem):OQ w b r=rem.length:=by
 obtain⟨es,aa,since,seen,c0,hb,_,_,hr,_,_,_,hl⟩:=h
 have:=Bu List.length hl
 simp only[DZ,Array.length_toList] at this
 simp only[OQ,hb,hr]
 exact this
theorem Dv.map {w:World} {b r:Nat} {L rem:List (ByteArray×Value)} (h:Dv w b r L rem):Bl w b L:=by
 obtain⟨es,aa,since,seen,c0,hb,he,hs,_⟩:=h
 exact⟨es,aa,hb,he,hs⟩
theorem Dv.ne {w:World} {b r:Nat} {L rem:List (ByteArray×Value)} (h:Dv w b r L rem):r≠b:=by
 obtain⟨es,aa,since,seen,c0,hb,he,hs,hr,_⟩:=h
 intro e
 rw[e,hb]at hr
 cases hr
theorem Dv.lt {w:World} {b r:Nat} {L rem:List (ByteArray×Value)} (h:Dv w b r L rem):r<w.heap.size:=by
 obtain⟨es,aa,since,seen,c0,hb,he,hs,hr,_⟩:=h
 exact(DM.1 hr).1
theorem Dv.kept {w w':World} {b r:Nat} {L rem:List (ByteArray×Value)} (h:Dv w b r L rem) (hb':w'.heap[b]? = w.heap[b]?) (aa:w'.heap[r]? = w.heap[r]?):Dv w' b r L rem:=by
 obtain⟨es,ae,since,seen,c0,hb,he,hs,hr,rest⟩:=h
 exact⟨es,ae,since,seen,c0,hb'.trans hb,he,hs,aa.trans hr,rest⟩
theorem Dv.below {w w':World} {b r B:Nat} {L rem:List (ByteArray×Value)} (h:Dv w b r L rem) (hb:Below B w w') (h1:b<B) (h2:r<B):Dv w' b r L rem:=h.kept (hb.block b h1) (hb.block r h2)
theorem Bl.range {P:Program} {w:World} {T kt et:TypeId} {b:Nat} {L:List (ByteArray×Value)} (h:Bl w b L) (hm:P.underlying T=some (.map kt et)):
  ∃o,(Instr.range T (.map (some b))).run P w=.ok (.pointer (some ⟨w.heap.size,0,none⟩)) (w.alloc o)/\Dv (w.alloc o) b w.heap.size L L:=by
 have hlt:=h.lt
 obtain⟨es,aa,hb,he,hs⟩:=h
 refine⟨_,run_range_map w T kt et b es aa hm hb,es,aa,aa,#[],aa,(AP _ _ _ hlt).trans hb,he,hs,EZ w _,hs.1,Aj _,Aj _,?_⟩
 rw[<-he]
 congr 1
 simp[leftOf]
theorem Vu {l:List MapEntry} {L:List (ByteArray×Value)} (h:l.map (λe=>(e.key,e.val))=L.map (λp=>(Value.string p.1,p.2))) {e:MapEntry} (he:e∈l):∃p∈L,e.key=.string p.1/\e.val=p.2:=by
 have:(e.key,e.val)∈L.map (λp=>(Value.string p.1,p.2)):=by rw[<-h]; exact Cj.2 ⟨e,he,rfl⟩
 obtain⟨p,hp,e2⟩:=Cj.1 this
 simp only[Prod.mk.injEq] at e2
 exact⟨p,hp,e2.1.symm,e2.2.symm⟩
theorem Mc (seen:Array Nat) (e:MapEntry):∀(l:List MapEntry) (R:List (ByteArray×Value)),(l.map (·.born)).Nodup->e∈l->seen.contains e.born=false->(l.filter λx=>!seen.contains x.born).map (λe=>(e.key,e.val))=R.map (λp=>(Value.string p.1,p.2))->
  ∃p R',e.key=.string p.1/\e.val=p.2/\R.Perm (p::R')/\(l.filter λx=>!(seen.push e.born).contains x.born).map (λe=>(e.key,e.val))=R'.map (λp=>(Value.string p.1,p.2))
 | [],R,_,he,_,_=>by cases he
 |a::l,R,hn,he,hs,hR=>by
  simp only[BP,List.nodup_cons] at hn
  obtain⟨af,ag⟩:=hn
  by_cases ha:a.born=e.born
  ·have ai:e=a:=by
    rcases BE.1 he with h|h
    ·exact h
    ·exact absurd (Cj.2 ⟨e,h,ha.symm⟩) af
   subst ai
   have hs':(!seen.contains e.born)=true:=by rw[hs]; rfl
   rw[FN (by simpa using hs')]at hR
   match R,hR with
   |p::R',hR=>
    simp only[BP,Gd,Prod.mk.injEq] at hR
    refine⟨p,R',hR.1.1,hR.1.2,JK _,?_⟩
    rw[Ge (by simp),<-hR.2]
    congr 1
    refine List.filter_congr λx hx=>?_
    have hne:x.born≠e.born:=λh=>af (Cj.2 ⟨x,hx,h⟩)
    simp[hne]
  ·have ah:e∈l:=by
    rcases BE.1 he with h|h
    ·exact absurd (by rw[h]) ha
    ·exact h
   by_cases ae:seen.contains a.born=true
   ·rw[Ge (by simpa using ae)]at hR
    obtain⟨p,R',h1,h2,h3,h4⟩:=Mc seen e l R ag ah hs hR
    refine⟨p,R',h1,h2,h3,?_⟩
    rw[Ge (by simp at ae ⊢; exact λh=>absurd ae h),h4]
   ·have aa:seen.contains a.born=false:=by simpa using ae
    rw[FN (by simpa using aa)]at hR
    match R,hR with
    |q::R0,hR=>
     simp only[BP,Gd] at hR
     obtain⟨p,R',h1,h2,h3,h4⟩:=Mc seen e l R0 ag ah hs hR.2
     refine⟨p,q::R',h1,h2,(List.Perm.cons q h3).trans (List.Perm.swap p q R'),?_⟩
     rw[FN (by simp at aa ⊢; exact⟨aa,ha⟩),BP,BP,h4,hR.1]
theorem Dv.next {P:Program} {w:World} {b r:Nat} {L rem:List (ByteArray×Value)} (h:Dv w b r L rem) (ty:TypeId):
  (rem=[]/\(Instr.next (.pointer (some ⟨r,0,none⟩)) false ty).run P w=.ok (.tuple #[.bool false]) w)∨
  ∃p aa w',rem.Perm (p::aa)/\(Instr.next (.pointer (some ⟨r,0,none⟩)) false ty).run P w=.ok (.tuple #[.bool true,.string p.1,p.2]) w'/\Dv w' b r L aa/\
   w'.heap.size=w.heap.size/\w'.os=w.os/\w'.tape=w.tape/\w'.output=w.output/\(∀j,j≠r->w'.heap[j]? = w.heap[j]?)/\(Instr.entry (.pointer (some ⟨r,0,none⟩))).run P w'=.ok (.tuple #[.string p.1,p.2]) w':=by
 have hne:=h.ne
 obtain⟨es,af,since,seen,c0,hb,he,hs,hr,hold,hsc,hsk,hl⟩:=h
 rcases run_next_at (P:=P) w ty r b since c0 seen es af hr hb hold hsc with ⟨h0,hrun⟩|⟨e,ak,w1,ag,hrun⟩
 ·refine Ad ⟨?_,hrun⟩
  have:=Bu List.length hl
  simp only[DZ,Array.length_toList,h0] at this
  exact Ew.1 this.symm
 ·obtain⟨aj,ao⟩:=mem_left ak
  have aq:(es.toList.filter λx=>!seen.contains x.born).map (λe=>(e.key,e.val))=rem.map (λp=>(Value.string p.1,p.2)):=by
   rw[<-hl]; unfold leftOf; rw[Array.toList_filter]
  obtain⟨p,aa,hk,hv,ah,ai⟩:=Mc seen e es.toList rem hs.2 aj ao aq
  have hr1:w1.heap[r]? = some (.mapIter (some b) since seen c0):=by rcases ag with rfl|rfl<;>exact hr
  have hb1:w1.heap[b]? = some (.map es af):=by rcases ag with rfl|rfl<;>exact hb
  have ae:=Ib (o':=.mapIter (some b) since (seen.push e.born) af) hr1
  have hb':(setBlock w1 r (.mapIter (some b) since (seen.push e.born) af)).heap[b]? = some (.map es af):=(ae.2 b (λe1=>hne e1.symm)).trans hb1
  rw[hk,hv]at hrun
  refine Ae ⟨p,aa,_,ah,hrun,⟨es,af,since,seen.push e.born,af,hb',he,hs,ae.1,hold,hsk,hsk,?_⟩,?_,?_,?_,?_,?_,?_⟩
  ·rw[<-ai]; unfold leftOf; rw[Array.toList_filter]
  ·rcases ag with rfl|rfl<;>simp[setBlock]
  ·rcases ag with rfl|rfl<;>rfl
  ·rcases ag with rfl|rfl<;>rfl
  ·rcases ag with rfl|rfl<;>rfl
  ·intro j hj
   have:=ae.2 j hj
   rcases ag with rfl|rfl<;>exact this
  ·have:=run_entry_at (P:=P) _ r b since seen es af e ae.1 hb' aj hs.2
   rw[hk,hv]at this
   exact this
def Hq:List (ByteArray×Value)->ByteArray->List (ByteArray×Value)
 | [],_=>[]
 |p::r,n=>if p.1=n then r else p::Hq r n
theorem OR (n:ByteArray) (q:MapEntry->Bool):∀(l:List MapEntry) (L:List (ByteArray×Value)) (i:Nat),l.map (λe=>(e.key,e.val))=L.map (λp=>(Value.string p.1,p.2))->(∀e∈l,e.key=.string n->q e=false)->
  (Bb L n=none->Hq L n=L)/\(∀v,Bb L n=some v->∃j,Instr.findNow .string (.string n) l i=some (some (i+j,v))/\j<l.length/\(l.eraseIdx j).map (λe=>(e.key,e.val))=(Hq L n).map (λp=>(Value.string p.1,p.2))/\(l.eraseIdx j).filter q=l.filter q)
 | [],[],i,h,_=>⟨λ_=>rfl,λv hv=>by simp[Bb] at hv⟩
 | [],p::L,i,h,_=>by simp at h
 |e::l,[],i,h,_=>by simp at h
 |e::l,p::L,i,h,hq=>by
  simp only[BP,Gd,Prod.mk.injEq] at h
  obtain⟨⟨hk,he⟩,ht⟩:=h
  obtain⟨ae,af⟩:=OR n q l L (i+1) ht λe he=>hq e (by simp[he])
  by_cases hn:p.1=n
  ·have hs:Instr.sameNow .string (.string n) e.key=some true:=by
    rw[hk,hn]
    show some (n==n)=some true
    rw[show(n==n)=true from (JM _ _).2 rfl]
   refine⟨λh=>by simp[Bb,hn] at h,λv hv=>?_⟩
   simp only[Bb,hn,if_true,GH] at hv
   refine⟨0,by simp[Instr.findNow,hs,he,hv],by simp,?_,?_⟩
   ·simp[Hq,hn,ht]
   ·rw[List.eraseIdx_cons_zero,Ge (by rw[hq e (by simp) (by rw[hk,hn])]; simp)]
  ·have hs:Instr.sameNow .string (.string n) e.key=some false:=by
    rw[hk]
    show some (n==p.1)=some false
    have hb:(n==p.1)=false:=by
     cases hh:(n==p.1) with
     |false=>rfl
     |true=>exact absurd ((JM _ _).1 hh).symm hn
    rw[hb]
   refine⟨λh=>?_,λv hv=>?_⟩
   ·rw[Bb,An hn]at h
    rw[Hq,An hn,ae h]
   ·rw[Bb,An hn]at hv
    obtain⟨j,h1,h2,h3,h4⟩:=af v hv
    refine⟨j+1,by simp[Instr.findNow,hs,h1]; omega,by simpa using h2,?_,?_⟩
    ·rw[Hq,An hn]; simp[h3,hk,he]
    ·rw[List.eraseIdx_cons_succ]
     cases aa:q e with
     |true=>rw[FN aa,FN aa,h4]
     |false=>rw[Ge (by simp[aa]),Ge (by simp[aa]),h4]
theorem Dv.drop {P:Program} {w:World} {T kt et ty:TypeId} {b r:Nat} {L rem:List (ByteArray×Value)} (h:Dv w b r L rem) (hm:P.underlying T=some (.map kt et)) (hk:P.underlying kt=some .string) (n:ByteArray) (ah:∀p∈rem,p.1≠n) (v:Value) (hv:Bb L n=some v):
  ∃w',(Builtin.delete_ #[T,kt] ty #[.map (some b),.string n]).run P w=.ok (.tuple #[]) w'/\Dv w' b r (Hq L n) rem/\w'.heap.size=w.heap.size/\w'.os=w.os/\w'.tape=w.tape/\w'.output=w.output/\(∀j,j≠b->w'.heap[j]? = w.heap[j]?):=by
 have hne:=h.ne
 obtain⟨es,af,since,seen,c0,hb,he,hs,hr,hold,hsc,hsk,hl⟩:=h
 have ag:(es.toList.filter λx=>!seen.contains x.born).map (λe=>(e.key,e.val))=rem.map (λp=>(Value.string p.1,p.2)):=by
  rw[<-hl]; unfold leftOf; rw[Array.toList_filter]
 have hq:∀e∈es.toList,e.key=.string n->(!seen.contains e.born)=false:=λe ai aj=>by
  cases hc:seen.contains e.born with
  |true=>rfl
  |false=>
   obtain⟨p,hp,h1,_⟩:=Vu ag (List.mem_filter.2 ⟨ai,by rw[hc]; rfl⟩)
   rw[aj]at h1
   exact absurd (Value.string.inj h1).symm (ah p hp)
 obtain⟨j,h1,h2,h3,h4⟩:=(OR n (λx=>!seen.contains x.born) es.toList L 0 he hq).2 v hv
 rw[Ey]at h1
 have hc:∀b,(Instr.checkKey b 10000 kt (.string n)).run P w=.ok () w:=λb=>JN (k:=.string n) hk (by simp[MapKept.IsKey]) b 9999
 have aa:(es.eraseIdxIfInBounds j).toList=es.toList.eraseIdx j:=by
  unfold Array.eraseIdxIfInBounds
  rw[DX (by simpa using h2)]
  simp
 have ae:∀x∈(es.eraseIdxIfInBounds j).toList,x∈es.toList:=λx hx=>by rw[aa] at hx; exact(List.eraseIdx_sublist _ _).subset hx
 refine⟨setBlock w b (.map (es.eraseIdxIfInBounds j) af),?_,⟨es.eraseIdxIfInBounds j,af,since,seen,c0,(Ib hb).1,by rw[aa]; exact h3,⟨λx hx=>hs.1 x (ae x hx),?_⟩,((Ib hb).2 r hne).trans hr,λx hx=>hold x (ae x hx),hsc,hsk,?_⟩,by simp[setBlock],rfl,rfl,rfl,λi hi=>(Ib hb).2 i hi⟩
 ·simp[Builtin.delete_,FM hm,Hg hb,hc,Ia hk h1,MapKept.run_setObj_map _ hb,Result.andThen,setBlock]
 ·rw[aa]
  exact hs.2.sublist ((List.eraseIdx_sublist _ _).map _)
 ·unfold leftOf
  rw[Array.toList_filter,aa,h4]
  exact ag
theorem Tryz.infoBind:(Tryz.prog.info? 76).map (λi=>(i.zero,i.size,i.bytes))=some (some (.agg #[.string ByteArray.empty,.string ByteArray.empty,.slice none 0 0]),3,56):=by kernel_rfl
theorem Iu (w:World) (c0 c1 c2:Value) (T:Nat):∀j u,[c0,c1,c2][j]? = some u->(w.alloc (.cells #[c0,c1,c2] T)).cell? ((⟨w.heap.size,0,none⟩:Addr).add j)=some u:=
 World.news_of_block (cs:=#[c0,c1,c2]) (EZ w _)
theorem Md {w w1:World} {N:Nat} {Y:Nat->Prop} {v:Value} {cs:List Bc} (h:Bh w N Y v cs) (hN:N<=w.heap.size) (hY:∀b,Y b->b<N) (hb:Below w.heap.size w w1) (x:Bc) (ht:Sl w1 (λb=>Y b∨w.heap.size<=b) x.2.1 x.1.t.args) (hn:cs.length<=1000000) (A:Nat) (hA:w1.heap.size=A):
  ∃v2 w3,(Builtin.append_ #[57,57] 57 #[v,.slice (some ⟨A,0,none⟩) 1 1]).run Tryz.prog (w1.alloc (.cells #[.string x.1.nm,.string x.1.t.name,.slice x.2.1 x.1.t.args.length x.2.2] 76))=.ok v2 w3/\Bh w3 N Y v2 (cs++[x])/\
   (w1.alloc (.cells #[.string x.1.nm,.string x.1.t.name,.slice x.2.1 x.1.t.args.length x.2.2] 76)).grownBy w3 v.ownBlock:=by
 subst hA
 obtain⟨i0,hi,hz0,hz1,hz2⟩:=CT Tryz.infoBind
 have hs:=hb.size
 obtain⟨g,cap,w3,hr,ho,hg,hat,hlt⟩:=run_append_lies (P:=Tryz.prog) (w:=w1.alloc (.cells #[.string x.1.nm,.string x.1.t.name,.slice x.2.1 x.1.t.args.length x.2.2] 76)) 57 57 N 76 i0 _ 3 56 Tryz.underlying57 hi hz0 hz1 hz2 rfl (by decide) v cs.length (C6 cs) ((h.below hb).own.alloc _)
  ⟨w1.heap.size,0,none⟩ 1 1 (Di x) rfl (Iu _ _ _ _ _) (λy hy=>by simp[Di] at hy; rcases hy with rfl|rfl|rfl<;>rfl) (by decide) (by unfold maxLen; omega) (by omega) (by simp; omega) _ rfl
 exact⟨_,w3,hr,h.push hN hY hb ht _ rfl ho hg hat,hg⟩
theorem OS (y:Bc):∀(cs:List Bc) (i:Nat),i<cs.length->C6 (cs.set i y)=(((C6 cs).set (i*3) (.string y.1.nm)).set (i*3+1) (.string y.1.t.name)).set (i*3+2) (.slice y.2.1 y.1.t.args.length y.2.2)
 | [],i,h=>by simp at h
 |x::r,0,h=>by simp[C6,Di]
 |x::r,i+1,h=>by
  have ih:=OS y r i (by simpa using h)
  rw[List.set_cons_succ,C6,C6,ih]
  rw[show(i+1)*3=i*3+3 by omega,show i*3+3+1=(i*3+1)+3 by omega,show i*3+3+2=(i*3+2)+3 by omega]
  simp[Di]
def put3 (w:World) (g i:Nat) (y:Bc):World:=(((w.setCell ⟨g,i*3,none⟩ (.string y.1.nm)).setCell ⟨g,i*3+1,none⟩ (.string y.1.t.name)).setCell ⟨g,i*3+2,none⟩ (.slice y.2.1 y.1.t.args.length y.2.2))
theorem Vv {w:World} {g i b:Nat} {y:Bc} (h:b≠g):(put3 w g i y).heap[b]? = w.heap[b]? := by
 unfold put3
 rw[Aq _ _ _ _ (by simpa using h),Aq _ _ _ _ (by simpa using h),Aq _ _ _ _ (by simpa using h)]
theorem OT {w:World} {g i:Nat} {y:Bc}:(put3 w g i y).heap.size=w.heap.size:=by simp[put3,World.setCell]
theorem OU {w0 w:World} {B g i:Nat} {y:Bc} (h:Below B w0 w) (hg:B<=g):Below B w0 (put3 w g i y):=((h.setCell (by exact hg) _).setCell (by exact hg) _).setCell (by exact hg) _
theorem Sl.put3 {w:World} {N g n cap i:Nat} {Y:Nat->Prop} {a:Option Addr} {l:List Tm} {y:Bc} (h:Sl w (λb=>Y b∨(N<=b/\some b≠(Value.slice (some ⟨g,0,none⟩) n cap).ownBlock)) a l) (hY:∀b,Y b->b<N) (hg:N<=g):Sl (put3 w g i y) (λb=>Y b∨(N<=b/\some b≠(Value.slice (some ⟨g,0,none⟩) n cap).ownBlock)) a l:=
 h.kept λb hb=>Vv (by
  rcases hb with hb|hb
  ·have:=hY b hb; omega
  ·intro e; exact hb.2 (by simp[Value.ownBlock,e]))
theorem Bh.put {w:World} {N:Nat} {Y:Nat->Prop} {cs:List Bc} {g n cap:Nat} (h:Bh w N Y (.slice (some ⟨g,0,none⟩) n cap) cs) (hY:∀b,Y b->b<N) (i:Nat) (hi:i<cs.length) (y:Bc) (hy:Sl w (λb=>Y b∨(N<=b/\some b≠(Value.slice (some ⟨g,0,none⟩) n cap).ownBlock)) y.2.1 y.1.t.args):Bh (put3 w g i y) N Y (.slice (some ⟨g,0,none⟩) n cap) (cs.set i y):=by
 have ae:N<=g:=(h.own.lt g rfl).1
 refine⟨?_,λx hx=>?_⟩
 ·rcases h.own.2 with ⟨e,_⟩|⟨g',cap',cur,e,aa,hb,h1,h2,h3,h4⟩
  ·cases e
  ·simp at e
   obtain⟨rfl,rfl,rfl⟩:=e
   have hB:Ac w g cur 76:=hb
   have af:=((hB.set (i*3) (.string y.1.nm)).set (i*3+1) (.string y.1.t.name)).set (i*3+2) (.slice y.2.1 y.1.t.args.length y.2.2)
   refine⟨NR _,Ae ⟨g,cap,_,by simp,aa,af,by simpa using h1,h2,by simpa using h3,?_⟩⟩
   rw[OS y cs i hi,<-h4]
   simp[List.take_set]
 ·rcases List.mem_or_eq_of_mem_set hx with h1|h1
  ·exact(h.row x h1).put3 hY ae
  ·rw[h1]; exact hy.put3 hY ae
theorem Bh.swap {w:World} {N:Nat} {Y:Nat->Prop} {A B:List Bc} {x y:Bc} {g n cap:Nat} (h:Bh w N Y (.slice (some ⟨g,0,none⟩) n cap) ((A++[y])++x::B)) (hY:∀b,Y b->b<N):Bh (put3 (put3 w g (A.length+1) y) g A.length x) N Y (.slice (some ⟨g,0,none⟩) n cap) (A++x::y::B):=by
 have aa:N<=g:=(h.own.lt g rfl).1
 have h1:=h.put hY (A.length+1) (by simp) y (h.row y (by simp))
 have h2:=h1.put hY A.length (by simp) x ((h.row x (by simp)).put3 hY aa)
 have e:(((A++[y])++x::B).set (A.length+1) y).set A.length x=A++x::y::B:=by
  rw[List.set_append_right _ _ (by simp)]
  simp[List.set_append_right]
 rw[e]at h2
 exact h2
def Jh (l:List Bc):Prop:=l.Pairwise λa b=>Cs b.1.nm a.1.nm=false
theorem OV {A B:List Bc} {x:Bc} (hw:Jh (A++B)) (hB:∀b∈B,Cs x.1.nm b.1.nm=true) (hA:∀a∈A,Cs x.1.nm a.1.nm=false):Jh (A++x::B):=by
 obtain⟨h1,h2,h3⟩:=JP.1 hw
 refine JP.2 ⟨h1,I6.2 ⟨λb hb=>NW (hB b hb),h2⟩,λa ha b hb=>?_⟩
 rcases BE.1 hb with rfl|hb
 ·exact hA a ha
 ·exact h3 a ha b hb
theorem Vw {A B:List Bc} {a x:Bc} (hw:Jh (A++[a]++B)) (h:Cs x.1.nm a.1.nm=false):∀y∈A++[a],Cs x.1.nm y.1.nm=false:=λy hy=>by
 rcases Bg.1 hy with hy|hy
 ·obtain⟨h1,_⟩:=JP.1 hw
  exact Ur h ((JP.1 h1).2.2 y hy a (by simp))
 ·have e:y=a:=by simpa using hy
  rw[e]; exact h
theorem Bh.atk {w:World} {N:Nat} {Y:Nat->Prop} {P Q:List Bc} {z:Bc} {g n cap:Nat} (h:Bh w N Y (.slice (some ⟨g,0,none⟩) n cap) (P++z::Q)):
  w.cell? ⟨g,P.length*3,none⟩=some (.string z.1.nm)/\w.cell? ⟨g,P.length*3+1,none⟩=some (.string z.1.t.name)/\w.cell? ⟨g,P.length*3+2,none⟩=some (.slice z.2.1 z.1.t.args.length z.2.2)/\∀j,w.frozen? ⟨g,j,none⟩=false:=by
 obtain⟨g',cap',e,_,_,hc⟩:=EA h.own (by simp only[Dm,Bs]; omega)
 simp at e
 obtain⟨rfl,_,rfl⟩:=e
 have hf:∀j,w.frozen? ⟨g,j,none⟩=false:=by
  rcases h.own.2 with ⟨e,_⟩|⟨g',cap',cur,e,_,hb,_⟩
  ·cases e
  ·simp at e
   obtain⟨rfl,_,rfl⟩:=e
   intro j
   simp[World.frozen?,hb]
 have hg:∀j,j<3->(C6 (P++z::Q))[P.length*3+j]? = (Di z)[j]? := λj hj=>by
  rw[Jc _ P.length (by simp) j hj]
  simp
 exact⟨hc _ _ (by have h0:=hg 0 (by decide); rw[FL] at h0; rw[h0]; rfl),hc _ _ (by rw[hg 1 (by decide)]; rfl),hc _ _ (by rw[hg 2 (by decide)]; rfl),hf⟩
theorem OW {A B cs:List Bc} {x:Bc} {l:List Bd} (h:A++B=cs) (hp:(cs.map (·.1)++[x.1]).Perm l):((A++x::B).map (·.1)).Perm l:=by
 refine List.Perm.trans ?_ hp
 have h1:(A++x::B).Perm (cs++[x]):=by
  rw[<-h]
  exact List.perm_middle.trans (List.perm_append_singleton x (A++B)).symm
 simpa using h1.map (·.1)
def Vx (w:World) (Y:Nat->Prop) (ls:List Bd) (u v:Value) (wr:World):Prop:=
 ∃(k:Nat) (cs:List Bc),v=.int .i64 (k:Int)/\k<=ls.length/\Bh wr w.heap.size Y u cs/\(cs.map (·.1)).Perm (ls.take k)/\Jh cs/\Below w.heap.size w wr
def Vy (w:World) (Y:Nat->Prop) (cs:List Bc) (x:Bc) (g cap:Nat) (v:Value) (wr:World):Prop:=
 ∃(A B:List Bc),v=.int .i64 (A.length:Int)/\A++B=cs/\(∀b∈B,Cs x.1.nm b.1.nm=true)/\Bh wr w.heap.size Y (.slice (some ⟨g,0,none⟩) (cs.length+1) cap) (A++x::B)/\Below w.heap.size w wr
theorem Me (ls:List Bd) (u:Value) (w:World) (X:Nat->Prop) (hu:BV w X u ls) (hn:ls.length<=1000000):
  Calls Tryz.prog 44 #[u] w λe w'=>∃(v:Value) (cs:List Bc),e=.returned v/\Bh w' w.heap.size (λb=>X b/\b<w.heap.size) v cs/\(cs.map (·.1)).Perm ls/\Jh cs/\Below w.heap.size w w':=by
 have HU:=Aa (hu.mono (Y:=λb=>X b/\b<w.heap.size) λb h1 h2=>⟨h1,h2⟩)
 obtain⟨a,c,rfl,hl,aC⟩:=hu
 clear aC
 go_enter Tryz.func44,Tryz.ntmps44
 go_wp2_with fail
 go_loopw [3,4] (λu v wr=>Vx w (λb=>X b/\b<w.heap.size) ls u v wr) (λu v wr=>ls.length-(intOf v).toNat)
 case atStart=>exact⟨0,[],rfl,AE _,Bh.start _ _ _,by simp,List.Pairwise.nil,Af _ _⟩
 case round=>
  obtain⟨k,cs,rfl,hk,hrow,ae,af,hb⟩:=hrel
  have ag:=Aa hrow
  have HP:=Aa ae
  have HW:=Aa af
  have HB:=Aa hb
  clear hrow ae af
  by_cases hlt:k<ls.length
  ·obtain⟨b,o,a',c',rfl,d0,d1,d2,hs⟩:=(HU.out.later hb).get k hlt
   have aD:(k:Int)<(ls.length:Int):=by omega
   have HS:=Aa hs
   have aw:Hid ((cs.map (·.1)++[ls[k]]).Perm (ls.take (k+1))):=by
    unfold Hid
    rw[Bm hlt]
    exact HP.out.append_right _
   have aF:cs.length<=1000000:=by have:=HP.out.length_eq; simp at this; omega
   clear hb hs
   generalize ls[k]=d at *
   obtain⟨v2,w2,hrun,Bx,hg2⟩:=Md ag.out HB.out.size (λb h=>h.2) (Af wr.heap.size wr) (d,a',c') (HS.out.mono λb h _=>Ad h) aF wr.heap.size rfl
   obtain⟨g,cap,rfl,aG,aK⟩:=Bx.own.form (by simp)
   have aj:=Aa hrun
   have ax:=Aa Bx
   have aH:Hid (Below w.heap.size w w2):=(HB.out.alloc HB.out.size _).grown hg2 (by have:=HB.out.size; simp; omega) (λj hj=>by have:=(ag.out.own.lt j hj).1; omega)
   have ak:(cs++[(d,a',c')]).length=cs.length+1:=by simp
   rw[ak]at ax aj
   clear hrun Bx hg2
   have ay:w.heap.size<=g:=aG
   go_wp2_with (at_builtin; refine D1 rfl _ _ _ _ rfl rfl rfl aj.out ?_)
   go_loopw [5] (λv wr=>Vy w (λb=>X b/\b<w.heap.size) cs (d,a',c') g cap v wr) (λv wr=>(intOf v).toNat)
   case atStart=>
    exact⟨cs,[],by go_num,by simp,by simp,ax.out,aH.out⟩
   case round=>
    obtain⟨A,B,rfl,aq,az,hrow,hb⟩:=hrel
    have aa:=Aa hrow
    have ar:=Aa hb
    have au:=Aa az
    have ai:=Aa aq
    have aI:Hid (A.length+B.length=cs.length):=by have:=Bu List.length aq; unfold Hid; simpa using this
    clear az aq
    rcases List.eq_nil_or_concat A with rfl|⟨A',y,a6⟩
    ·clear hrow hb
     go_wp2_with fail
     go_quiet (fail)
     go_wp2_with fail
     go_roundw
     case rel=>exact⟨k+1,[]++(d,a',c')::B,by go_num,by omega,aa.out.below (below_drewN (Af _ _) _),OW ai.out aw.out,OV (by rw[ai.out]; exact HW.out) au.out (by simp),below_drewN ar.out _⟩
     case measure=>simp[intOf]; omega
    ·rw[List.concat_eq_append]at a6
     subst a6
     have hlen:(A'++[y]).length=A'.length+1:=by simp
     have aL:A'.length+1<cs.length+1:=by have:=aI.out; simp at this; omega
     have e1:(A'++[y])++(d,a',c')::B=A'++y::(d,a',c')::B:=by simp
     obtain⟨x0,x1,x2,xf⟩:=hrow.atk
     rw[e1]at hrow
     obtain⟨y0,y1,y2,_⟩:=hrow.atk
     simp only[Dm,Bs,EN,Ey] at x0 x1 x2 ⊢
     clear hrow hb hlen e1
     generalize a7:A'.length=m at *
     have a8:=Aa a7
     clear a7
     have aM:(0:Int)<=(m:Int):=by omega
     have aN:IntKind.i64.wrap ((m:Int)+1-1)=(m:Int):=by rw[E4]; omega
     have hw2:IntKind.i64.wrap (m:Int)=(m:Int):=by rw[E4]; omega
     cases ah:Op.bytesLess d.nm.toList y.1.nm.toList with
     |true=>
      have av:=Aa ah
      go_wp2_with fail
      go_quiet (fail)
      have ao:=Aa (aa.out.below (below_drewN (Af wr.heap.size wr) nq))
      have aA:=Aa (below_drewN ar.out nq)
      have aJ:(wr.drewN nq).cell? ⟨g,(m+1)*3,none⟩=some (.string d.nm):=x0
      have aO:(wr.drewN nq).cell? ⟨g,(m+1)*3+1,none⟩=some (.string d.t.name):=x1
      have aP:(wr.drewN nq).cell? ⟨g,(m+1)*3+2,none⟩=some (.slice a' d.t.args.length c'):=x2
      have aQ:(wr.drewN nq).cell? ⟨g,m*3,none⟩=some (.string y.1.nm):=y0
      have aR:(wr.drewN nq).cell? ⟨g,m*3+1,none⟩=some (.string y.1.t.name):=y1
      have aS:(wr.drewN nq).cell? ⟨g,m*3+2,none⟩=some (.slice y.2.1 y.1.t.args.length y.2.2):=y2
      have aT:∀j,(wr.drewN nq).frozen? ⟨g,j,none⟩=false:=xf
      have aU:g<(wr.drewN nq).heap.size:=D9 aJ
      clear x0 x1 x2 y0 y1 y2 xf ah
      generalize wr.drewN nq=w5 at *
      go_wp2_with fail
      go_roundw
      case rel=>
       have hr:=(ao.out.swap λb h=>h.2).below ((Af _ _).alloc (Aj _) (.cells #[.string d.nm,.string d.t.name,.slice a' d.t.args.length c'] 76))
       rw[a8.out]at hr
       have aB:=(OU (i:=m) (y:=(d,a',c')) (OU (i:=m+1) (y:=y) aA.out ay) ay).alloc (by rw[OT,OT]; exact aA.out.size) (.cells #[.string d.nm,.string d.t.name,.slice a' d.t.args.length c'] 76)
       simp only[put3] at hr aB
       refine⟨A',y::B,by rw[a8.out],by have:=ai.out; simpa using this,λb hb=>?_,hr,aB⟩
       rcases BE.1 hb with rfl|hb
       ·exact av.out
       ·exact au.out b hb
      case measure=>simp[intOf]
     |false=>
      have av:=Aa ah
      go_wp2_with fail
      go_quiet (fail)
      go_wp2_with fail
      go_roundw
      case rel=>exact⟨k+1,(A'++[y])++(d,a',c')::B,by go_num,by omega,aa.out.below (below_drewN (Af _ _) _),OW ai.out aw.out,OV (by rw[ai.out]; exact HW.out) au.out (Vw (by rw[ai.out]; exact HW.out) av.out),below_drewN ar.out _⟩
      case measure=>simp[intOf]; omega
  ·go_wp2_with fail
   go_ret
   exact⟨u3,cs,rfl,ag.out,by have h:=HP.out; rwa [AW (by omega)] at h,HW.out,HB.out⟩
def Vz (w:World) (N:Nat) (Y:Nat->Prop) (hv:Value) (r:Option (List Bd)) (e:Ending) (w':World):Prop:=
 w.grownBy w' hv.ownBlock/\((r=none/\∃v,e=.returned (.tuple #[v,.bool false]))∨
  ∃(h':List Bd) (v:Value) (cs':List Bc),r=some h'/\e=.returned (.tuple #[v,.bool true])/\cs'.map (·.1)=h'/\Bh w' N Y v cs'/\(∀k,v.ownBlock=some k->hv.ownBlock=some k∨w.heap.size<=k))
theorem OX (w:World) (o o':Obj) (row:Option Nat):w.grownBy ((w.alloc o).alloc o') row:=(Ls w o row).andThen (Ls (w.alloc o) o' none) (by simp)
theorem Ji {w w' w'':World} {row:Option Nat} (h:w.grownBy w' row) (hb:Below w'.heap.size w' w''):w.grownBy w'' row:=
 h.andThen (row':=none) ⟨hb.os,hb.tape,hb.output,hb.size,λj hj _=>hb.block j hj⟩ (by simp)
theorem VA {w:World} {N:Nat} {Y:Nat->Prop} {v:Value} {cs:List Bc} (h:Bh w N Y v cs) (hN:N<=w.heap.size) (hY:∀b,Y b->b<N) (x:Bc) (ht:Sl w (λb=>Y b∨w.heap.size<=b) x.2.1 x.1.t.args) (hn:cs.length<=1000000) (A:Nat) (hA:w.heap.size=A):
  ∃v2 w3,(Builtin.append_ #[57,57] 57 #[v,.slice (some ⟨A,0,none⟩) 1 1]).run Tryz.prog (w.alloc (.cells #[.string x.1.nm,.string x.1.t.name,.slice x.2.1 x.1.t.args.length x.2.2] 76))=.ok v2 w3/\Bh w3 N Y v2 (cs++[x])/\w.grownBy w3 v.ownBlock/\∀k,v2.ownBlock=some k->v.ownBlock=some k∨w.heap.size<=k:=by
 subst hA
 obtain⟨i0,hi,hz0,hz1,hz2⟩:=CT Tryz.infoBind
 have hb:=Af w.heap.size w
 obtain⟨g,cap,w3,hr,ho,hg,hat,hlt⟩:=run_append_lies (P:=Tryz.prog) (w:=w.alloc (.cells #[.string x.1.nm,.string x.1.t.name,.slice x.2.1 x.1.t.args.length x.2.2] 76)) 57 57 N 76 i0 _ 3 56 Tryz.underlying57 hi hz0 hz1 hz2 rfl (by decide) v cs.length (C6 cs) (h.own.alloc _)
  ⟨w.heap.size,0,none⟩ 1 1 (Di x) rfl (Iu _ _ _ _ _) (λy hy=>by simp[Di] at hy; rcases hy with rfl|rfl|rfl<;>rfl) (by decide) (by unfold maxLen; omega) (by omega) (by simp; omega) _ rfl
 refine⟨_,w3,hr,h.push hN hY hb ht _ rfl ho hg hat,(Ls w _ _).andThen hg (λj hj=>Ae hj),λk hk=>?_⟩
 have e:g=k:=by simpa [Value.ownBlock] using hk
 rcases hat with h1|h1
 ·exact Ad (by rw[h1,e])
 ·right; simp at h1; omega
def VB (w2:World) (N:Nat) (Y:Nat->Prop) (hv:Value) (l m:List Tm) (h:List Bd) (v i:Value) (wr:World):Prop:=
 ∃(k:Nat) (cs':List Bc),k<=l.length/\i=.int .i64 (k:Int)/\BK (l.take k) (m.take k) h=some (cs'.map (·.1))/\Bh wr N Y v cs'/\w2.grownBy wr hv.ownBlock/\(∀j,v.ownBlock=some j->hv.ownBlock=some j∨w2.heap.size<=j)
theorem VC (p:Tm):∀(t:Tm) (cs:List Bc) (pv tv hv:Value) (w:World) (N:Nat) (Y:Nat->Prop),TV w Y pv p->TV w Y tv t->Bh w N Y hv cs->N<=w.heap.size->(∀b,Y b->b<N)->cs.length+Ab [p]<=1000000->Ct (cs.map (·.1))->
  Calls Tryz.prog 92 #[pv,tv,hv] w λe w'=>Vz w N Y hv (AY p t (cs.map (·.1))) e w':=by
 induction p using Tm.ind with
 |h s l ih=>
  intro t cs pv tv hv w N Y hp ht hrow hN hY hsz hap
  obtain⟨s2,m⟩:=t
  obtain⟨a,c,rfl,hs⟩:=hp
  obtain⟨a2,c2,rfl,hs2⟩:=ht
  have IH:=Aa ih
  have HS:=Aa hs
  have aI:=Aa hs2
  have ai:=Aa hrow
  have HY:=Aa hY
  have bg:=Aa hap
  have hlt:=hrow.own.lt
  have hl:=hs.1
  have hl2:=hs2.1
  clear ih hs hs2 hrow hY hap
  dsimp only
  have ar:=Aa (OX w (.cells #[.string s,.slice a l.length c] 29) (.cells #[.string s2,.slice a2 m.length c2] 29) hv.ownBlock)
  have ak:Hid (Below w.heap.size w ((w.alloc (.cells #[.string s,.slice a l.length c] 29)).alloc (.cells #[.string s2,.slice a2 m.length c2] 29))):=CO _ _
  have PA:=Aa ((Ac.new w #[.string s,.slice a l.length c] 29).alloc (.cells #[.string s2,.slice a2 m.length c2] 29))
  have PB:Hid (Ac ((w.alloc (.cells #[.string s,.slice a l.length c] 29)).alloc (.cells #[.string s2,.slice a2 m.length c2] 29)) (w.heap.size+1) #[.string s2,.slice a2 m.length c2] 29):=by
   have h:=Ac.new (w.alloc (.cells #[.string s,.slice a l.length c] 29)) #[.string s2,.slice a2 m.length c2] 29
   unfold Hid
   simpa using h
  have hz2:((w.alloc (.cells #[.string s,.slice a l.length c] 29)).alloc (.cells #[.string s2,.slice a2 m.length c2] 29)).heap.size=w.heap.size+2:=by simp
  cases hvb:Ak s with
  |true=>
   have ah:=Aa hvb
   clear hvb
   go_enter Tryz.func92,Tryz.ntmps92
   go_wp2_with (go_at_call 14; refine(Du _ _).mono ?_; rintro e w' ⟨rfl,rfl⟩; rw[ah.out])
   have bh:Hid (∀o o',w.grownBy ((w.alloc o).alloc o') hv.ownBlock):=λo o'=>OX w o o' _
   clear bh
   generalize (w.alloc (.cells #[.string s,.slice a l.length c] 29)).alloc (.cells #[.string s2,.slice a2 m.length c2] 29)=w2 at *
   refine(Mb (cs.map (·.1)) s hv w2 _ (ai.out.below ak.out).bv).mono ?_
   rintro e w3 ⟨hb3,hc3⟩
   have az:=Aa (ak.out.trans (hb3.mono ak.out.size))
   have aS:=Aa (Ji ar.out hb3)
   have a6:=Aa (ai.out.below az.out)
   have aJ:=Aa (PA.out.below hb3 PA.out.lt)
   have au:=Aa (PB.out.below hb3 PB.out.lt)
   have hz3:=hb3.size
   clear hb3
   rcases hc3 with ⟨x,ax,cx,hf,rfl,aT⟩|⟨hf,rfl⟩
   ·have bj:=Aa aT
    have HR:=Aa (Oz (l:=l) (t:=⟨s2,m⟩) ah.out hf)
    clear hf aT
    have b0:∀o,(w3.alloc o).cell? ⟨w.heap.size+1,0,none⟩=some (.string s2):=λo=>(au.out.alloc o).cell 0
    have b1:∀o,(w3.alloc o).cell? ⟨w.heap.size+1,1,none⟩=some (.slice a2 m.length c2):=λo=>(au.out.alloc o).cell 1
    go_wp2_with fail
    have a7:=Aa (az.out.alloc az.out.size (.cells #[.string x.name,.slice ax x.args.length cx] 29))
    have aH:=Aa (Ji aS.out ((Af _ _).alloc (Aj _) (.cells #[.string x.name,.slice ax x.args.length cx] 29)))
    have aK:=Aa (bj.out.later ((Af _ _).alloc (Aj _) (.cells #[.string x.name,.slice ax x.args.length cx] 29)))
    generalize w3.alloc (.cells #[.string x.name,.slice ax x.args.length cx] 29)=w4 at *
    refine(Kd x ⟨s2,m⟩ _ _ w4 _ _ ⟨ax,cx,rfl,aK.out⟩ ⟨a2,c2,rfl,aI.out.later a7.out⟩).mono ?_
    rintro e w5 ⟨rfl,aL⟩
    have aM:=Aa (Ji aH.out aL)
    have a8:=Aa (ai.out.below (a7.out.trans (aL.mono a7.out.size)))
    clear aL b0 b1
    go_wp2_with fail
    refine Ap (v:=.tuple #[hv,.bool (BI x ⟨s2,m⟩)]) (by simp[results,Tryz.results92,go_sem]) rfl ?_
    rw[HR.out]
    refine⟨aM.out,?_⟩
    cases hsm:BI x ⟨s2,m⟩ with
    |true=>exact Ae ⟨_,hv,cs,by rw[As rfl],rfl,rfl,a8.out,λk hk=>Ad hk⟩
    |false=>exact Ad ⟨by rw[An (by simp)],hv,rfl⟩
   ·have HR:=Aa (Oy (l:=l) (t:=⟨s2,m⟩) ah.out hf)
    clear hf
    have ao:Below w3.heap.size w3 (w3.alloc (.cells #[.string ⟨#[]⟩,.slice none 0 0] 29)):=(Af _ _).alloc (Aj _) _
    have a7:=Aa (az.out.trans (ao.mono az.out.size))
    have aH:=Aa (Ji aS.out ao)
    have aA:=Aa (a6.out.below ao)
    have a0:(w3.alloc (.cells #[.string ⟨#[]⟩,.slice none 0 0] 29)).cell? ⟨w.heap.size,0,none⟩=some (.string s):=(aJ.out.below ao aJ.out.lt).cell 0
    have b0:(w3.alloc (.cells #[.string ⟨#[]⟩,.slice none 0 0] 29)).cell? ⟨w.heap.size+1,0,none⟩=some (.string s2):=(au.out.below ao au.out.lt).cell 0
    have b1:(w3.alloc (.cells #[.string ⟨#[]⟩,.slice none 0 0] 29)).cell? ⟨w.heap.size+1,1,none⟩=some (.slice a2 m.length c2):=(au.out.below ao au.out.lt).cell 1
    have bk:=λo=>(aJ.out.alloc o).cell 0
    clear ao
    have b3:w3.heap.size<=(w3.alloc (.cells #[.string ⟨#[]⟩,.slice none 0 0] 29)).heap.size:=by simp
    have aN:cs.length<=1000000:=by omega
    obtain⟨v5,w5,hrun,aU,aV,aB⟩:=VA aA.out (by omega) HY.out (⟨s,⟨s2,m⟩⟩,a2,c2) ((aI.out.later a7.out).mono λb h _=>Ad h) aN (w3.heap.size+1) (by simp)
    have aO:=Aa hrun
    have bl:=Aa aU
    have aM:Hid (w.grownBy w5 hv.ownBlock):=aH.out.andThen aV (λj hj=>Ae hj)
    have av:Hid (∀k,v5.ownBlock=some k->hv.ownBlock=some k∨w.heap.size<=k):=λk hk=>(aB k hk).imp id (λh=>AX aH.out.size h)
    clear hrun aU aV aB bk
    go_wp2_with (at_builtin; refine D1 rfl _ _ _ _ rfl rfl rfl aO.out ?_)
    refine Ap (v:=.tuple #[v5,.bool true]) (by simp[results,Tryz.results92,go_sem]) rfl ?_
    rw[HR.out]
    exact⟨aM.out,Ae ⟨_,v5,_,rfl,rfl,by simp,bl.out,av.out⟩⟩
  |false=>
   have ah:=Aa hvb
   clear hvb
   cases hn:(s.toList==s2.toList) with
   |false=>
    have HR:=Aa (L0 (h:=cs.map (·.1)) ah.out (show((s.toList==s2.toList)&&(l.length==m.length))=false by rw[hn]; rfl))
    go_enter Tryz.func92,Tryz.ntmps92
    go_wp2_with (go_at_call 14; refine(Du _ _).mono ?_; rintro e w' ⟨rfl,rfl⟩; rw[ah.out])
    refine Ap (v:=.tuple #[.slice none 0 0,.bool false]) (by simp[results,Tryz.results92,go_sem]) rfl ?_
    rw[HR.out]
    exact⟨ar.out,Ad ⟨rfl,_,rfl⟩⟩
   |true=>
    by_cases hm:l.length=m.length
    case neg=>
     have HR:=Aa (L0 (h:=cs.map (·.1)) ah.out (show((s.toList==s2.toList)&&(l.length==m.length))=false by rw[hn]; simpa using hm))
     have b4:((l.length:Int)==(m.length:Int))=false:=DL.2 (by omega)
     clear hm
     go_enter Tryz.func92,Tryz.ntmps92
     go_wp2_with (go_at_call 14; refine(Du _ _).mono ?_; rintro e w' ⟨rfl,rfl⟩; rw[ah.out])
     refine Ap (v:=.tuple #[.slice none 0 0,.bool false]) (by simp[results,Tryz.results92,go_sem]) rfl ?_
     rw[HR.out]
     exact⟨ar.out,Ad ⟨rfl,_,rfl⟩⟩
    case pos=>
     have HR:=Aa (LZ (h:=cs.map (·.1)) ah.out hn hm)
     have HM:=Aa hm
     rw[<-hm]at ar ak PA PB hz2 hl2 ⊢
     clear hm
     go_enter Tryz.func92,Tryz.ntmps92
     go_wp2_with (go_at_call 14; refine(Du _ _).mono ?_; rintro e w' ⟨rfl,rfl⟩; rw[ah.out])
     generalize (w.alloc (.cells #[.string s,.slice a l.length c] 29)).alloc (.cells #[.string s2,.slice a2 l.length c2] 29)=w2 at *
     go_loopw [2,10] (λv i wr=>VB w2 N Y hv l m (cs.map (·.1)) v i wr) (λv i wr=>l.length-(intOf i).toNat)
     case atStart=>exact⟨0,cs,AE _,rfl,by simp[BK],ai.out.below ak.out,⟨rfl,rfl,rfl,Aj _,λ_ _ _=>rfl⟩,λj hj=>Ad hj⟩
     case round=>
      obtain⟨k,cs',hk,rfl,hT,hrow,hg,aB⟩:=hrel
      have HT:=Aa hT
      have af:=Aa hrow
      have aP:=Aa hg
      have av:=Aa aB
      have hne:∀b,b<w.heap.size+2->(b<N∨w.heap.size<=b)->some b≠hv.ownBlock:=λb _ h e=>by
       have h1:=hlt b e.symm
       rcases h with h|h
       ·omega
       ·omega
      have hwr:w.heap.size+2<=wr.heap.size:=by have:=hg.size; omega
      have bm:Hid (Ac wr w.heap.size #[.string s,.slice a l.length c] 29):=(hg.block w.heap.size (by omega) (hne _ (by omega) (Ae (Aj _)))).trans PA.out
      have bn:Hid (Ac wr (w.heap.size+1) #[.string s2,.slice a2 l.length c2] 29):=(hg.block (w.heap.size+1) (by omega) (hne _ (by omega) (Ae (by omega)))).trans PB.out
      have aW:Hid (Sl wr Y a l):=(HS.out.later ak.out).kept λb hb=>by
       have h1:=HY.out b hb
       exact hg.block b (by omega) (hne _ (by omega) (Ad h1))
      have aC:Hid (Sl wr Y a2 m):=(aI.out.later ak.out).kept λb hb=>by
       have h1:=HY.out b hb
       exact hg.block b (by omega) (hne _ (by omega) (Ad h1))
      have a1:=bm.out.c1
      clear hT hrow hg aB
      by_cases aa:k<l.length
      ·have ag:k<m.length:=by have:=HM.out; omega
       obtain⟨b,o,a',c',rfl,d0,d1,hx⟩:=aW.out.get (Af _ _) (λ_ _ h=>h) k aa
       obtain⟨b2,o2,aw,ay,rfl,e0,e1,hx2⟩:=aC.out.get (Af _ _) (λ_ _ h=>h) k ag
       have HX:=Aa hx
       have bo:=Aa hx2
       have b1:wr.cell? ⟨w.heap.size+1,1,none⟩=some (.slice (some ⟨b2,o2,none⟩) l.length c2):=bn.out.cell 1
       have aj:=Aa (And.intro a1 (And.intro b1 (And.intro d0 (And.intro d1 (And.intro e0 e1)))))
       have aX:b<N:=by
        obtain⟨_,h1⟩:=aW.out
        rcases h1 with h1|⟨b',o',e',h1⟩
        ·rw[h1]at aa; simp at aa
        ·cases e'; exact HY.out _ (FQ _ _ _ h1 k aa).1
       have aD:b2<N:=by
        obtain⟨_,h1⟩:=aC.out
        rcases h1 with h1|⟨b',o',e',h1⟩
        ·rw[h1]at ag; simp at ag
        ·cases e'; exact HY.out _ (FQ _ _ _ h1 k ag).1
       have aF:∀j,(j<N∨(w.heap.size<=j/\j<w.heap.size+2))->some j≠u2.ownBlock:=λj hj e=>by
        have h1:=af.out.own.lt j e.symm
        rcases hj with hj|hj
        ·omega
        ·rcases av.out j e.symm with h2|h2
         ·have:=(hlt j h2).2; omega
         ·omega
       have aQ:=OD _ _ _ _ HT.out bg.out
       have hsk:cs'.length+Ab [l[k]]<=1000000:=by
        have h1:=aQ.2
        have h2:=C4 l k aa
        have h3:=C5 l (k+1)
        have h4:Ab [(⟨s,l⟩:Tm)]=1+Ab l:=by simp[Ab]
        rw[h4]at hsz
        simp at h1
        omega
       have aY:=Aa (IH.out l[k] (AV aa) m[k] cs' (.agg #[.string l[k].name,.slice a' l[k].args.length c']) (.agg #[.string m[k].name,.slice aw m[k].args.length ay]) u2 wr.drew N Y (by exact HX.out.later (below_drewN (Af _ _) 1)) (by exact bo.out.later (below_drewN (Af _ _) 1)) (by exact af.out.below (below_drewN (Af _ _) 1)) (by simp; omega) HY.out hsk aQ.1)
       have aZ:Hid (∀w1,wr.drew.grownBy w1 u2.ownBlock->w1.cell? ⟨w.heap.size,1,none⟩=some (.slice (some ⟨b,o,none⟩) l.length c)/\w1.cell? ⟨w.heap.size+1,1,none⟩=some (.slice (some ⟨b2,o2,none⟩) l.length c2)/\w1.cell? ⟨b,o+k*2,none⟩=some (.string l[k].name)/\w1.cell? ⟨b,o+k*2+1,none⟩=some (.slice a' l[k].args.length c')/\w1.cell? ⟨b2,o2+k*2,none⟩=some (.string m[k].name)/\w1.cell? ⟨b2,o2+k*2+1,none⟩=some (.slice aw m[k].args.length ay)):=λw1 ae=>by
        have kp:∀b o,(b<N∨(w.heap.size<=b/\b<w.heap.size+2))->w1.cell? ⟨b,o,none⟩=wr.cell? ⟨b,o,none⟩:=λb o hb=>ae.cell_far ⟨b,o,none⟩ (by simp; omega) (by simpa using aF b hb)
        exact⟨(kp _ _ (Ae (by omega))).trans aj.out.1,(kp _ _ (Ae (by omega))).trans aj.out.2.1,(kp _ _ (Ad aX)).trans aj.out.2.2.1,(kp _ _ (Ad aX)).trans aj.out.2.2.2.1,(kp _ _ (Ad aD)).trans aj.out.2.2.2.2.1,(kp _ _ (Ad aD)).trans aj.out.2.2.2.2.2⟩
       have bp:=Aa (λh0=>Ow aa HM.out HT.out h0)
       have bq:=Aa (λba (h0:AY l[k] m[k] (cs'.map (·.1))=some ba)=>Ox aa ag HT.out h0)
       have bb:Hid (∀w1,wr.drew.grownBy w1 u2.ownBlock->w2.grownBy w1 hv.ownBlock):=λw1 ae=>(Ji aP.out (below_drewN (Af _ _) 1)).andThen ae (λj hj=>(av.out j hj).symm)
       have br:Hid (w.grownBy w2 hv.ownBlock):=ar.out
       clear hx hx2 aQ hsk aF
       generalize l[k]=y at *
       generalize m[k]=z at *
       go_wp2_with fail
       cases hr:AY y z (cs'.map (·.1)) with
       |none=>
        have bs:Hid (Calls Tryz.prog 92 #[.agg #[.string y.name,.slice a' y.args.length c'],.agg #[.string z.name,.slice aw z.args.length ay],u2] wr.drew λe w'=>∃v1,e=.returned (.tuple #[v1,.bool false])/\wr.drew.grownBy w' u2.ownBlock):=by
         refine aY.out.mono ?_
         rintro e w1 ⟨ae,⟨_,v1,rfl⟩|⟨h',v1,aq,h0,_⟩⟩
         ·exact⟨v1,rfl,ae⟩
         ·rw[hr]at h0; cases h0
        have HF:Hid (AY ⟨s,l⟩ ⟨s2,m⟩ (cs.map (·.1))=none):=by unfold Hid; rw[HR.out,bp.out hr]
        go_region_held3 (λw'=>w'.cell? ⟨w.heap.size,1,none⟩=some (.slice (some ⟨b,o,none⟩) l.length c)/\w'.cell? ⟨w.heap.size+1,1,none⟩=some (.slice (some ⟨b2,o2,none⟩) l.length c2)/\w'.cell? ⟨b,o+k*2,none⟩=some (.string y.name)/\w'.cell? ⟨b,o+k*2+1,none⟩=some (.slice a' y.args.length c')/\w'.cell? ⟨b2,o2+k*2,none⟩=some (.string z.name)/\w'.cell? ⟨b2,o2+k*2+1,none⟩=some (.slice aw z.args.length ay)) (first|exact aj.out|exact aG|go_keep)
         ((go_at_call 92; refine bs.out.mono ?_; rintro e w1 ⟨v1,rfl,ae⟩; have aG:=aZ.out w1 ae))
        have aR:=Aa (bb.out w1 ae)
        clear ae aG
        go_wp2_with fail
        refine Ap (v:=.tuple #[.slice none 0 0,.bool false]) (by simp[results,Tryz.results92,go_sem]) rfl ?_
        rw[HF.out]
        exact⟨br.out.andThen aR.out (λj hj=>Ae hj),Ad ⟨rfl,_,rfl⟩⟩
       |some h'=>
        have bt:Hid (Calls Tryz.prog 92 #[.agg #[.string y.name,.slice a' y.args.length c'],.agg #[.string z.name,.slice aw z.args.length ay],u2] wr.drew λe w'=>∃v1 aq,e=.returned (.tuple #[v1,.bool true])/\wr.drew.grownBy w' u2.ownBlock/\aq.map (·.1)=h'/\Bh w' N Y v1 aq/\(∀k,v1.ownBlock=some k->u2.ownBlock=some k∨wr.heap.size<=k)):=by
         refine aY.out.mono ?_
         rintro e w1 ⟨ae,⟨h0,_⟩|⟨ba,v1,aq,h0,rfl,h2,h3,h4⟩⟩
         ·rw[hr]at h0; cases h0
         ·rw[hr]at h0
          cases h0
          exact⟨v1,aq,rfl,ae,h2,h3,h4⟩
        have HN:=Aa (bq.out h' hr)
        go_region_held3 (λw'=>w'.cell? ⟨w.heap.size,1,none⟩=some (.slice (some ⟨b,o,none⟩) l.length c)/\w'.cell? ⟨w.heap.size+1,1,none⟩=some (.slice (some ⟨b2,o2,none⟩) l.length c2)/\w'.cell? ⟨b,o+k*2,none⟩=some (.string y.name)/\w'.cell? ⟨b,o+k*2+1,none⟩=some (.slice a' y.args.length c')/\w'.cell? ⟨b2,o2+k*2,none⟩=some (.string z.name)/\w'.cell? ⟨b2,o2+k*2+1,none⟩=some (.slice aw z.args.length ay)) (first|exact aj.out|exact aG|go_keep)
         ((go_at_call 92; refine bt.out.mono ?_; rintro e w1 ⟨v1,aq,rfl,ae,bc,hr1,bf⟩; have aG:=aZ.out w1 ae))
        have aR:=Aa (bb.out w1 ae)
        have bu:=Aa bc
        have bw:=Aa hr1
        have bx:Hid (∀j,v1.ownBlock=some j->hv.ownBlock=some j∨w2.heap.size<=j):=λj hj=>by
         rcases bf j hj with h1|h1
         ·exact av.out j h1
         ·right; have:=aP.out.size; omega
        clear ae aG bc hr1 bf
        go_wp2_with fail
        go_roundw
        case rel=>exact⟨k+1,aq,by omega,by go_num,by rw[bu.out]; exact HN.out,bw.out,aR.out,bx.out⟩
        case measure=>simp[intOf]; omega
      ·have HF:Hid (AY ⟨s,l⟩ ⟨s2,m⟩ (cs.map (·.1))=some (cs'.map (·.1))):=by
        unfold Hid
        rw[HR.out,<-HT.out,AW (by omega),AW (by have:=HM.out; omega)]
       have bz:=Aa (ar.out.andThen aP.out (λj hj=>Ae hj))
       go_wp2_with fail
       refine Ap (v:=.tuple #[u2,.bool true]) (by simp[results,Tryz.results92,go_sem]) rfl ?_
       rw[HF.out]
       exact⟨bz.out,Ae ⟨_,u2,cs',rfl,rfl,rfl,af.out,λj hj=>(av.out j hj).imp id (λh=>by omega)⟩⟩
def Fw (p t:Tm):Bool:=(AY p t []).isSome
def VD (w:World) (Z:Nat->Prop) (p t:Tm) (e:Ending) (w':World):Prop:=
 Below w.heap.size w w'/\((AY p t []=none/\e=.returned (.tuple #[.slice none 0 0,.bool false]))∨
  ∃h' v l',AY p t []=some h'/\e=.returned (.tuple #[v,.bool true])/\BV w' Z v l'/\l'.Perm h'/\l'.Pairwise λa b=>Cs b.nm a.nm=false)
theorem OY (p t:Tm) (pv tv:Value) (w:World) (X:Nat->Prop) (hp:TV w X pv p) (ht:TV w X tv t) (hsz:Ab [p]<=1000000):
  Calls Tryz.prog 73 #[pv,tv] w λe w'=>VD w (λb=>(X b/\b<w.heap.size)∨w.heap.size<=b) p t e w':=by
 obtain⟨a,c,rfl,hs⟩:=hp
 obtain⟨a2,c2,rfl,hs2⟩:=ht
 have HS:=Aa (hs.mono (Y:=λb=>X b/\b<w.heap.size) λb h1 h2=>⟨h1,h2⟩)
 have aq:=Aa (hs2.mono (Y:=λb=>X b/\b<w.heap.size) λb h1 h2=>⟨h1,h2⟩)
 clear hs hs2
 have aa:Hid (Below w.heap.size w ((w.alloc (.cells #[.string p.name,.slice a p.args.length c] 29)).alloc (.cells #[.string t.name,.slice a2 t.args.length c2] 29))):=CO _ _
 go_enter Tryz.func73,Tryz.ntmps73
 go_wp2_with fail
 generalize (w.alloc (.cells #[.string p.name,.slice a p.args.length c] 29)).alloc (.cells #[.string t.name,.slice a2 t.args.length c2] 29)=w2 at *
 refine(VC p t [] _ _ (.slice none 0 0) w2 w.heap.size (λb=>X b/\b<w.heap.size) ⟨a,c,rfl,HS.out.later aa.out⟩ ⟨a2,c2,rfl,aq.out.later aa.out⟩ (Bh.start _ _ _) aa.out.size (λb h=>h.2) (by simpa using hsz) List.Pairwise.nil).mono ?_
 rintro e w3 ⟨hg3,hc3⟩
 have ae:Hid (Below w.heap.size w w3):=aa.out.grown hg3 aa.out.size (λj hj=>by simp[Value.ownBlock] at hj)
 clear hg3
 rcases hc3 with ⟨h0,v3,rfl⟩|⟨h',v3,ag,h0,rfl,hcs,hrow,_⟩
 ·have H0:=Aa h0
  clear h0
  go_wp2_with fail
  refine Ap (v:=.tuple #[.slice none 0 0,.bool false]) (by simp[results,Tryz.results73,go_sem]) rfl ?_
  exact⟨ae.out,Ad ⟨H0.out,rfl⟩⟩
 ·have H0:=Aa h0
  have ar:=Aa hcs
  have af:=Aa hrow
  have au:ag.length<=1000000:=by
   have h1:=(OG h0 List.Pairwise.nil).2
   rw[<-hcs]at h1
   simp at h1
   omega
  clear h0 hcs hrow
  go_wp2_with fail
  refine(Me (ag.map (·.1)) v3 w3 _ af.out.bv (by simpa using au)).mono ?_
  rintro e w5 ⟨v5,ah,rfl,ai,aj,ak,ao⟩
  have av:=Aa ai
  have aw:=Aa aj
  have ax:=Aa ak
  have ay:=Aa (ae.out.trans (ao.mono ae.out.size))
  have az:=ae.out.size
  clear ai aj ak ao
  go_wp2_with fail
  refine Ap (v:=.tuple #[v5,.bool true]) (by simp[results,Tryz.results73,go_sem]) rfl ?_
  refine⟨ay.out,Ae ⟨h',v5,ah.map (·.1),H0.out,rfl,av.out.bv.mono λb hb _=>?_,by rw[<-ar.out]; exact aw.out,FP.2 (show ah.Pairwise (λa b=>Cs b.1.nm a.1.nm=false) from ax.out)⟩⟩
  rcases hb with ⟨hb,_⟩|hb
  ·exact hb
  ·exact Ae (by omega)
end Go.Proofs.YtlkeafenklamjaaGreatDoor
