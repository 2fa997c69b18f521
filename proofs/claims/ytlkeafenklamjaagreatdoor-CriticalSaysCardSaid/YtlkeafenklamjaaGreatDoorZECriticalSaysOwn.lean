/- Several texts in one. -/
import Derived.Test.YtlkeafenklamjaaGreatDoorZDCriticalSaysOwn
import Derived.Deep.RegionHeld
import Derived.RangeFuncNested
import Derived.RangeFuncBound
import Derived.RangeFuncCalls
import Derived.RangeFuncLeaves
import Derived.RangeFuncWrites
import Derived.Shelf.Abstract
import Derived.Shelf.RegionOpen
import Derived.OwnWalkIn
import Derived.TacticsInMore
import Derived.LoopNIn
import Derived.LoopIn
import Derived.Deep.LoopGhost
import Derived.Sort.KeysCollected
import Derived.Sort.Walk0
import Derived.Maps.Range
import Derived.Maps.Own
import Derived.StringKeys
import Derived.Test.YtlkeafenklamjaaGreatDoorIterL
import Derived.Deep.RegionHeld3
import Derived.Deep.RegionLaw
import Derived.Defers
import Derived.Recover
import Derived.Laws.Pointers
namespace Go.Proofs.YtlkeafenklamjaaGreatDoor
set_option linter.all false
set_option maxRecDepth 20000
set_option maxHeartbeats 8000000
open Go.RowKit
theorem CZ.exq {w w':World} {Q:Nat->Prop} {N:Nat} {Y:Nat->Prop} {v:Value} {cs:List Ec} (h:CZ w N Y v cs) (he:Al Q w w') (hQ:∀b,Q b->b<N) (hY:∀b,Q b->¬Y b):CZ w' N Y v cs:=
 ⟨DG h.own λg hg => he.block g (h.own.lt g hg).2 (λhq => by have := hQ g hq; have := (h.own.lt g hg).1; omega),
  λx hx=>⟨(h.row x hx).1.exq he λb hb hq=>by
   rcases hb with h1|h1
   ·exact hY b hq h1
   ·have:=hQ b hq; omega,
   (h.row x hx).2.exq he λb hb hq=>by
   rcases hb with h1|h1
   ·exact hY b hq h1
   ·have:=hQ b hq; omega⟩⟩
theorem IM {w1 w3:World} {N n cap:Nat} {Y:Nat->Prop} {v:Value} {o:Obj} {g:Nat} (hv:∀b,Y b->some b≠v.ownBlock) (hg:(w1.alloc o).grownBy w3 v.ownBlock) (aa:v.ownBlock=some g∨g=(w1.alloc o).heap.size) {a:Option Addr} {l:List Tm} (h0:Sl w1 (λb=>Y b∨(N<=b/\some b≠v.ownBlock)) a l):
  Sl w3 (λb=>Y b∨(N<=b/\some b≠(Value.slice (some ⟨g,0,none⟩) n cap).ownBlock)) a l:=by
 have h1:Sl w1 (λb=>(Y b∨(N<=b/\some b≠v.ownBlock))/\b<w1.heap.size) a l:=h0.mono λb h1 h2=>⟨h1,h2⟩
 refine(h1.kept λb hx=>?_).mono λb hx _=>?_
 ·have hne:some b≠v.ownBlock:=by
   rcases hx.1 with hy|hy
   ·exact hv b hy
   ·exact hy.2
  rw[hg.block b (by simp; omega) hne,AP _ _ _ hx.2]
 ·rcases hx.1 with hy|hy
  ·exact Ad hy
  ·refine Ae ⟨hy.1,λe=>?_⟩
   simp[Value.ownBlock]at e
   rcases aa with e'|e'
   ·exact hy.2 (by rw[e',e])
   ·simp at e'; omega
theorem CZ.push2 {w w1 w3:World} {N:Nat} {Y:Nat->Prop} {v:Value} {cs:List Ec} (h:CZ w N Y v cs) (hY:∀b,Y b->b<N) (hb:Below w.heap.size w w1) {x:Ec}
  (ht:Sl w1 (λb=>Y b∨(N<=b/\some b≠v.ownBlock)) x.1.2.1.1 x.1.1.l.args/\Sl w1 (λb=>Y b∨(N<=b/\some b≠v.ownBlock)) x.1.2.2.1 x.1.1.r.args) (o:Obj) {g cap:Nat}
  (hown:w3.ownsRow N 141 5 (.slice (some ⟨g,0,none⟩) (cs.length+1) cap) (cs.length+1) (CR cs++EI x)) (hg:(w1.alloc o).grownBy w3 v.ownBlock) (aa:v.ownBlock=some g∨g=(w1.alloc o).heap.size):
  CZ w3 N Y (.slice (some ⟨g,0,none⟩) (cs.length+1) cap) (cs++[x]):=by
 have hv:∀b,Y b->some b≠v.ownBlock:=λb hb=>h.ne (hY b hb)
 refine⟨by rw[Jw]; simpa [CR] using hown,λy hy=>?_⟩
 rcases Bg.1 hy with hy|hy
 ·exact⟨IM hv hg aa ((h.row y hy).1.later hb),IM hv hg aa ((h.row y hy).2.later hb)⟩
 ·have e:y=x:=by simpa using hy
  subst e
  exact⟨IM hv hg aa ht.1,IM hv hg aa ht.2⟩
theorem CZ.setCell {w:World} {N:Nat} {Y:Nat->Prop} {v:Value} {cs:List Ec} (h:CZ w N Y v cs) {b i:Nat} (hb:b<N) (hY:¬Y b) (u:Value):CZ (w.setCell ⟨b,i,none⟩ u) N Y v cs:=
 h.exq (Q:=λc=>c=b) ((Al.refl (λc=>c=b) w).set (B:=b) rfl i u) (λc hc=>by omega) (λc hc=>by rw[hc]; exact hY)
theorem QR {S q:Nat} {td aa:Value} {h:List (ByteArray×Tm)} {Y:Nat->Prop} {w w3:World} (he:Cd S q td h false Y w) (hk:∀b,Y b->w3.heap[b]? = w.heap[b]?):Cd S q aa h false Y (w3.setCell ⟨S,0,none⟩ aa):=by
 have ae:=(Dd S q td h).keep _ _ _ _ he hk
 obtain⟨⟨L,e1,e2,e3⟩,e4,e5,e6,e7⟩:=ae
 have af:S≠q:=λe=>by
  obtain⟨es,ah,h1,_⟩:=e2
  subst e
  unfold Ac at e1
  rw[h1]at e1; cases e1
 have hk2:∀b,b≠S->(w3.setCell ⟨S,0,none⟩ aa).heap[b]? = w3.heap[b]? := λb hb=>Aq _ _ _ _ (by simpa using hb)
 refine⟨⟨L,?_,e2.kept (hk2 q (D6 af)),e3.imp λa l ag=>(ag.kept λb hb=>hk2 b hb.2.1)⟩,e4,e5,λb hb=>by simpa [World.setCell] using e6 b hb,e7⟩
 have:=e1.set 0 aa
 simpa using this
def Da (x:Ec):Pr×Nat:=(x.1.1,x.2)
theorem Sl.blk {w:World} {X:Nat->Prop} {b o:Nat} {l:List Tm} (h:Sl w X (some ⟨b,o,none⟩) l) (hl:0<l.length):X b:=by
 rcases h.2 with h1|⟨b',o',e,h1⟩
 ·subst h1; simp at hl
 ·simp at e
  obtain⟨rfl,rfl⟩:=e
  exact(FQ _ _ _ h1 0 hl).1
theorem KL:∀ {a b:List Tm},a.length=b.length->(Ax a b).length=a.length
 | [],[],_=>rfl
 | [],_::_,h=>by simp at h
 |_::_,[],h=>by simp at h
 |t::a,u::b,h=>by rw[Ax,Bs,KL (by simpa using h),Bs]
theorem QS:∀ {a b:List Tm} (k:Nat) (h1:k<a.length) (h2:k<b.length) (h3:k<(Ax a b).length),(Ax a b)[k]=⟨a[k],b[k]⟩
 | [],_,k,h1,_,_=>by simp at h1
 |_::_,[],k,_,h2,_=>by simp at h2
 |t::a,u::b,0,_,_,_=>rfl
 |t::a,u::b,k+1,h1,h2,h3=>by
  simp only[Ax,F7]
  exact QS k (by simpa using h1) (by simpa using h2) _
def Jy (S q N:Nat) (h:List (ByteArray×Tm)) (cs:List Ec) (w:World):Prop:=
 ∃(td:Value) (Y:Nat->Prop),Cd S q td h false Y w/\CZ w N (λb=>b<N/\b≠S/\b≠q) td cs/\(∀b,Y b->some b≠td.ownBlock)/\S<N/\q<N/\N<=w.heap.size
def MS (S q N:Nat) (h:List (ByteArray×Tm)) (cs:List Ec) (Y:Nat->Prop) (td0:Value) (w:World) (lA lB:List Tm) (a1 a2:Option Addr) (i:Value) (wr:World):Prop:=
 ∃(k:Nat) (td:Value) (cs':List Ec),k<=lA.length/\i=.int .i64 ((k:Int)-1)/\Cd S q td h false Y wr/\CZ wr N (λb=>b<N/\b≠S/\b≠q) td cs'/\(∀b,Y b->some b≠td.ownBlock)/\cs'.map Da=cs.map Da++((Ax lA lB).drop k).reverse.map (λp=>(p,h.length))/\
  Sl wr (λb=>(b<N/\b≠S/\b≠q)∨(N<=b/\some b≠td.ownBlock)) a1 lA/\Sl wr (λb=>(b<N/\b≠S/\b≠q)∨(N<=b/\some b≠td.ownBlock)) a2 lB/\Al (λb=>b=S∨some b=td0.ownBlock) w wr/\N<=wr.heap.size/\∀k,td.ownBlock=some k->td0.ownBlock=some k∨w.heap.size<=k
theorem Yp {S q N:Nat} {h:List (ByteArray×Tm)} {cs cs':List Ec} {Y:Nat->Prop} {w wr w3:World} {lA lB:List Tm} {a1 a2:Option Addr} {k:Nat} {td ae:Value} (aj:S<N) (ao:q<N) (hl:lA.length=lB.length) (hk:k<lA.length) (hE:Cd S q td h false Y wr) (hR:CZ wr N (λb=>b<N/\b≠S/\b≠q) td cs') (hY:∀b,Y b->some b≠td.ownBlock) (hC:cs'.map Da=cs.map Da++((Ax lA lB).drop (k+1)).reverse.map (λp=>(p,h.length)))
  (hs1:Sl wr (λb=>(b<N/\b≠S/\b≠q)∨(N<=b/\some b≠td.ownBlock)) a1 lA) (hs2:Sl wr (λb=>(b<N/\b≠S/\b≠q)∨(N<=b/\some b≠td.ownBlock)) a2 lB) (hx:Al (λb=>b=S∨some b=ae.ownBlock) w wr) (hN:N<=wr.heap.size) (aq:N<=w.heap.size) (ag:∀k,td.ownBlock=some k->ae.ownBlock=some k∨w.heap.size<=k)
  {x1 x2:Option Addr} {d1 d2:Nat} (hx1:Sl wr (λb=>(b<N/\b≠S/\b≠q)∨(N<=b/\some b≠td.ownBlock)) x1 (lA[k]'hk).args) (hx2:Sl wr (λb=>(b<N/\b≠S/\b≠q)∨(N<=b/\some b≠td.ownBlock)) x2 (lB[k]'(by omega)).args) {o:Obj} {g cap:Nat}
  (hown:w3.ownsRow N 141 5 (.slice (some ⟨g,0,none⟩) (cs'.length+1) cap) (cs'.length+1) (CR cs'++EI ((⟨lA[k]'hk,lB[k]'(by omega)⟩,(x1,d1),(x2,d2)),h.length))) (hg:(wr.drew.alloc o).grownBy w3 td.ownBlock) (hat:td.ownBlock=some g∨g=(wr.drew.alloc o).heap.size):
  MS S q N h cs Y ae w lA lB a1 a2 (.int .i64 ((k:Int)-1)) (w3.setCell ⟨S,0,none⟩ (.slice (some ⟨g,0,none⟩) (cs'.length+1) cap)):=by
 have aa:Below wr.heap.size wr wr.drew:=(Af _ _).drew
 have ah:∀b,(b<N/\b≠S/\b≠q)->some b≠td.ownBlock:=λb hb=>hR.ne hb.1
 have af:=hE.2.2.2.1
 have ak:=hg.size
 simp at ak
 refine⟨k,.slice (some ⟨g,0,none⟩) (cs'.length+1) cap,cs'++[((⟨lA[k]'hk,lB[k]'(by omega)⟩,(x1,d1),(x2,d2)),h.length)],by omega,rfl,QR hE (λb hb=>?_),?_,λb hb e=>?_,?_,?_,?_,?_,by simp[World.setCell]; omega,λk2 hk2=>?_⟩
 ·rw[hg.block b (by have:=af b hb; simp; omega) (hY b hb),AP _ _ _ (by have:=af b hb; simpa using this)]
  rfl
 ·exact(hR.push2 (λb hb=>hb.1) aa (x:=((⟨lA[k]'hk,lB[k]'(by omega)⟩,(x1,d1),(x2,d2)),h.length)) ⟨hx1.later aa,hx2.later aa⟩ o hown hg hat).setCell aj (λhb=>hb.2.1 rfl) _
 ·have e2:b=g:=by simpa [Value.ownBlock] using e
  subst e2
  rcases hat with h1|h1
  ·exact hY b hb h1.symm
  ·have:=af b hb; simp at h1; omega
 ·have ai:k<(Ax lA lB).length:=by rw[KL hl]; exact hk
  rw[Cr,hC,JV ai,List.reverse_cons,Cr,QS k hk (by omega) ai]
  simp[Da]
 ·exact(IM ah hg hat (hs1.later aa)).kept λb hb=>Aq _ _ _ _ (by
   simp
   rcases hb with hb|hb
   ·exact hb.2.1
   ·omega)
 ·exact(IM ah hg hat (hs2.later aa)).kept λb hb=>Aq _ _ _ _ (by
   simp
   rcases hb with hb|hb
   ·exact hb.2.1
   ·omega)
 ·refine((((hx.drew).alloc o).grown hg (λb hb=>?_)).set (Ad rfl) _ _)
  rcases ag b hb with h1|h1
  ·exact Ae (Ae h1.symm)
  ·exact Ad h1
 ·have e:g=k2:=by simpa [Value.ownBlock] using hk2
  subst e
  rcases hat with h1|h1
  ·exact ag g h1
  ·right
   have:=hx.size
   simp at h1
   omega
def Jz (S q b1 b2 o1 o2:Nat) (tA tB:Tm) (x1 x2:Option Addr) (d1 d2 n:Nat) (w':World):Prop:=
 w'.cell? ⟨S,1,none⟩=some (.map (some q))/\w'.cell? ⟨b1,o1,none⟩=some (.string tA.name)/\w'.cell? ⟨b1,o1+1,none⟩=some (.slice x1 tA.args.length d1)/\w'.cell? ⟨b2,o2,none⟩=some (.string tB.name)/\w'.cell? ⟨b2,o2+1,none⟩=some (.slice x2 tB.args.length d2)/\Sem.run Tryz.prog (Builtin.len_ #[133] 3 #[.map (some q)]) w'=.ok (.int .i64 (n:Int)) w'
def Yq (S q N:Nat) (h:List (ByteArray×Tm)) (cs:List Ec) (lA lB:List Tm) (td0:Value) (w:World) (e:Ending) (w':World):Prop:=
 e=.returned (.tuple #[])/\∃cs',Jy S q N h cs' w'/\cs'.map Da=cs.map Da++(Ax lA lB).reverse.map (λp=>(p,h.length))/\Al (λb=>b=S∨some b=td0.ownBlock) w w'
theorem Yr (S q N:Nat) (h:List (ByteArray×Tm)) (cs:List Ec) (lA lB:List Tm) (hl:lA.length=lB.length) (hsz:cs.length+lA.length<=1000000000) (hh:h.length<=1000000000) (a1 a2:Option Addr) (c1 c2:Nat) (w:World) (td:Value) (Y:Nat->Prop) (hE:Cd S q td h false Y w) (hR:CZ w N (λb=>b<N/\b≠S/\b≠q) td cs) (hY:∀b,Y b->some b≠td.ownBlock) (aG:S<N) (aH:q<N) (bb:N<=w.heap.size)
  (hs1:Sl w (λb=>(b<N/\b≠S/\b≠q)∨(N<=b/\some b≠td.ownBlock)) a1 lA) (hs2:Sl w (λb=>(b<N/\b≠S/\b≠q)∨(N<=b/\some b≠td.ownBlock)) a2 lB):
  Calls Tryz.prog 120 #[.pointer (some ⟨S,0,none⟩),.slice a1 lA.length c1,.slice a2 lB.length c2] w λe w'=>Yq S q N h cs lA lB td w e w':=by
 obtain⟨i0,bc,hz0,hz1,hz2⟩:=CT Tryz.infoEq
 have HE:=Aa hE
 have HR:=Aa hR
 have HY:=Aa hY
 have bf:=Aa hs1
 have bg:=Aa hs2
 have bs:=hs1.1
 have hl2:=hs2.1
 have HL:=Aa hl
 have hle:Hid (lA.length<=1000000000):=by unfold Hid; omega
 clear hE hR hY hs1 hs2
 rw[<-hl]
 clear hl
 go_enter Tryz.func120,Tryz.ntmps120
 go_wp2_with fail
 go_loopw [6] (λi wr=>MS S q N h cs Y td w lA lB a1 a2 i wr) (λi wr=>((intOf i)+1).toNat)
 case atStart=>
  refine⟨lA.length,td,cs,Aj _,?_,HE.out,HR.out,HY.out,?_,bf.out,bg.out,Al.refl _ _,bb,λk hk=>Ad hk⟩
  ·have:=hle.out
   go_num
  ·rw[JW (by rw[KL HL.out]; exact Aj _)]
   simp
 case round=>
  obtain⟨k,af,cs',hk,rfl,aI,aJ,aK,aD,ai,aj,aL,bh,ax⟩:=hrel
  have aM:=Aa aI
  have aq:=Aa aJ
  have aN:=Aa aK
  have aO:=Aa aD
  have aP:=Aa aL
  have bn:=Aa ax
  clear ax
  have ak:=Aa ai
  have ao:=Aa aj
  have aF:Hid (cs'.length<=1000000000):=by
   have h1:=Bu List.length aD
   simp[KL HL.out]at h1
   unfold Hid
   omega
  cases k with
  |zero=>
   clear aI aJ aK aD aL ai aj
   go_wp2_with fail
   go_end0
   refine⟨rfl,cs',⟨af,Y,aM.out,aq.out,aN.out,aG,aH,bh⟩,?_,aP.out⟩
   have:=aO.out
   simpa using this
  |succ k=>
   have bo:((k+1:Nat):Int)-1=k:=by omega
   rw[bo]
   obtain⟨b1,o1,x1,d1,rfl,p0,p1,hx1⟩:=ai.get (Af _ _) (λ_ _ h=>h) k hk
   obtain⟨b2,o2,x2,d2,rfl,r0,r1,hx2⟩:=aj.get (Af _ _) (λ_ _ h=>h) k (by have:=HL.out; omega)
   obtain⟨av,cv,ev,ay⟩:=hx1
   simp at ev
   obtain⟨rfl,rfl⟩:=ev
   obtain⟨av,cv,ev,az⟩:=hx2
   simp at ev
   obtain⟨rfl,rfl⟩:=ev
   obtain⟨⟨L,hB,hM,aQ⟩,bt,bu,bp,hg⟩:=aI
   have bj:=Aa ay
   have bk:=Aa az
   have HB:=Aa hB
   have s0:wr.cell? ⟨S,0,none⟩=some af:=hB.cell 0
   have bw:∀o,(wr.alloc o).cell? ⟨S,0,none⟩=some af:=λo=>(hB.alloc o).cell 0
   have s1:wr.cell? ⟨S,1,none⟩=some (.map (some q)):=hB.cell 1
   have hlen:Sem.run Tryz.prog (Builtin.len_ #[133] 3 #[.map (some q)]) wr.drew=.ok (.int .i64 (h.length:Int)) wr.drew:=by
    have h1:Bl wr.drew q L:=hM.below ((Af wr.heap.size wr).drew) hM.lt
    rw[Ju Tryz.underlying133 h1,aQ.1]
   have bx:(k:Int)<(lA.length:Int):=by omega
   have bz:k<lB.length:=by have:=HL.out; omega
   have a6:=Aa (aq.out.below ((Af wr.heap.size wr).drew)).own
   have ar:Hid (some S≠af.ownBlock):=aq.out.ne aG
   have aR:Hid (Bl wr q L/\L.length=h.length):=⟨hM,aQ.1⟩
   have bq:Hid (q≠S):=λe=>by
    obtain⟨es,b3,h1,_⟩:=hM
    subst e
    unfold Ac at hB
    rw[h1]at hB; cases hB
   have br:Hid (some q≠af.ownBlock):=aq.out.ne aH
   have aS:Hid (b1≠S):=by
    rcases ak.out.blk (by omega) with h1|h1
    ·exact h1.2.1
    ·unfold Hid; omega
   have aT:Hid (b2≠S):=by
    rcases ao.out.blk (by omega) with h1|h1
    ·exact h1.2.1
    ·unfold Hid; omega
   have aU:Hid (some b1≠af.ownBlock):=by
    rcases ak.out.blk (by omega) with h1|h1
    ·exact aq.out.ne h1.1
    ·exact h1.2
   have aV:Hid (some b2≠af.ownBlock):=by
    rcases ao.out.blk (by omega) with h1|h1
    ·exact aq.out.ne h1.1
    ·exact h1.2
   clear aJ aK aD aL ai aj ay az hB hM aQ hg bp
   have HST:Hid (∀(g cap:Nat) (w3:World),w3.ownsRow N 141 5 (.slice (some ⟨g,0,none⟩) (cs'.length+1) cap) (cs'.length+1) (CR cs'++EI ((⟨lA[k],lB[k]⟩,(x1,d1),(x2,d2)),h.length))->(wr.drew.alloc (.cells #[.string lA[k].name,.slice x1 lA[k].args.length d1,.string lB[k].name,.slice x2 lB[k].args.length d2,.int .i64 (h.length:Int)] 141)).grownBy w3 af.ownBlock->(af.ownBlock=some g∨g=(wr.drew.alloc (.cells #[.string lA[k].name,.slice x1 lA[k].args.length d1,.string lB[k].name,.slice x2 lB[k].args.length d2,.int .i64 (h.length:Int)] 141)).heap.size)->MS S q N h cs Y td w lA lB (some ⟨b1,o1,none⟩) (some ⟨b2,o2,none⟩) (.int .i64 ((k:Int)-1)) (w3.setCell ⟨S,0,none⟩ (.slice (some ⟨g,0,none⟩) (cs'.length+1) cap))):=λg cap w3 h1 h2 h3=>Yp aG aH HL.out hk aM.out aq.out aN.out aO.out ak.out ao.out aP.out bh bb bn.out bj.out bk.out h1 h2 h3
   unfold EI at HST
   generalize lA[k]=tA at *
   generalize lB[k]=tB at *
   generalize CR cs'=fl at *
   dsimp only at HST
   clear bj bk aM aq aN aO aP ak ao HE HR HY bf bg
   have bl:Jz S q b1 b2 (o1+k*2) (o2+k*2) tA tB x1 x2 d1 d2 h.length wr.drew:=⟨s1,p0,p1,r0,r1,hlen⟩
   have aW:∀W:World,W.heap[q]? = wr.heap[q]? -> Sem.run Tryz.prog (Builtin.len_ #[133] 3 #[.map (some q)]) W=.ok (.int .i64 (h.length:Int)) W:=λW hW=>by
    rw[Ju Tryz.underlying133 (aR.out.1.kept hW),aR.out.2]
   have KP:Hid (∀W:World,W.heap[S]? = wr.heap[S]? -> W.heap[b1]? = wr.heap[b1]? -> W.heap[b2]? = wr.heap[b2]? -> W.heap[q]? = wr.heap[q]? -> Jz S q b1 b2 (o1+k*2) (o2+k*2) tA tB x1 x2 d1 d2 h.length W):=λW h1 h2 h3 h4=>⟨by rw[CM h1]; exact s1,by rw[CM h2]; exact p0,by rw[CM h2]; exact p1,by rw[CM h3]; exact r0,by rw[CM h3]; exact r1,aW W h4⟩
   have bm:S<wr.heap.size:=HB.out.lt
   have a7:b1<wr.heap.size:=D9 p0
   have a8:b2<wr.heap.size:=D9 r0
   have aA:q<wr.heap.size:=aR.out.1.lt
   have aX:Hid (∀o,Jz S q b1 b2 (o1+k*2) (o2+k*2) tA tB x1 x2 d1 d2 h.length (wr.drew.alloc o)):=λo=>KP.out (wr.drew.alloc o) (AP _ _ _ (by simpa using bm)) (AP _ _ _ (by simpa using a7)) (AP _ _ _ (by simpa using a8)) (AP _ _ _ (by simpa using aA))
   have KG:Hid (∀(o:Obj) (w3:World),(wr.drew.alloc o).grownBy w3 af.ownBlock->w3.heap[S]? = wr.heap[S]? /\ w3.heap[b1]? = wr.heap[b1]? /\ w3.heap[b2]? = wr.heap[b2]? /\ w3.heap[q]? = wr.heap[q]?):=λo w3 hg=>⟨(hg.block S (by simp; omega) ar.out).trans (AP _ _ _ (by simpa using bm)),(hg.block b1 (by simp; omega) aU.out).trans (AP _ _ _ (by simpa using a7)),(hg.block b2 (by simp; omega) aV.out).trans (AP _ _ _ (by simpa using a8)),(hg.block q (by simp; omega) br.out).trans (AP _ _ _ (by simpa using aA))⟩
   have KS:Hid (∀(w3:World) (v:Value),(w3.heap[S]? = wr.heap[S]? /\ w3.heap[b1]? = wr.heap[b1]? /\ w3.heap[b2]? = wr.heap[b2]? /\ w3.heap[q]? = wr.heap[q]?)->Jz S q b1 b2 (o1+k*2) (o2+k*2) tA tB x1 x2 d1 d2 h.length (w3.setCell ⟨S,0,none⟩ v)):=λw3 v hh=>by
    obtain⟨e1,e2,e3,e4,e5,e6⟩:=KP.out w3 hh.1 hh.2.1 hh.2.2.1 hh.2.2.2
    have aB:b1≠S:=λe=>by have h1:=aS.out; exact h1 e
    have aC:b2≠S:=λe=>by have h1:=aT.out; exact h1 e
    refine⟨(AG _ _ _ _ (by simp)).trans e1,(AG _ _ _ _ (λe=>aB (by injection e with e; exact e.symm))).trans e2,(AG _ _ _ _ (λe=>aB (by injection e with e; exact e.symm))).trans e3,(AG _ _ _ _ (λe=>aC (by injection e with e; exact e.symm))).trans e4,(AG _ _ _ _ (λe=>aC (by injection e with e; exact e.symm))).trans e5,aW _ ?_⟩
    rw[Aq _ _ _ _ (by simpa using bq.out)]
    exact hh.2.2.2
   clear p0 p1 r0 r1 s1 hlen aW
   go_wp2_with fail
   refine CU (S:=Jz S q b1 b2 (o1+k*2) (o2+k*2) tA tB x1 x2 d1 d2 h.length) (by kernel_rfl) bl (λhHeld=>?_)
   clear bl
   refine tkz 0 ?_ (hy:=by intro w' hSw;obtain⟨k1,k2,k3,k4,k5,k6⟩:=hSw;go_simp<;>with_reducible rfl)
   refine tkz 1 ?_ (hy:=by intro w' hSw;obtain⟨k1,k2,k3,k4,k5,k6⟩:=hSw;go_simp<;>with_reducible rfl)
   refine tkz 2 ?_ (hy:=by intro w' hSw;obtain⟨k1,k2,k3,k4,k5,k6⟩:=hSw;go_simp<;>with_reducible rfl)
   refine tkz 3 ?_ (hy:=by intro w' hSw;obtain⟨k1,k2,k3,k4,k5,k6⟩:=hSw;go_simp<;>with_reducible rfl)
   refine tkz 5 ?_ (hy:=by intro w' hSw;obtain⟨k1,k2,k3,k4,k5,k6⟩:=hSw;go_simp<;>with_reducible rfl)
   refine tkz 6 ?_ (hy:=by intro w' hSw;obtain⟨k1,k2,k3,k4,k5,k6⟩:=hSw;go_simp<;>with_reducible rfl)
   refine tkz 7 ?_ (hy:=by intro w' hSw;obtain⟨k1,k2,k3,k4,k5,k6⟩:=hSw;go_simp<;>with_reducible rfl)
   refine tkz 8 ?_ (hy:=by intro w' hSw;obtain⟨k1,k2,k3,k4,k5,k6⟩:=hSw;go_simp<;>with_reducible rfl)
   refine tkz 9 ?_ (hy:=by intro w' hSw;obtain⟨k1,k2,k3,k4,k5,k6⟩:=hSw;go_simp<;>with_reducible rfl)
   refine tkz 10 ?_ (hy:=by intro w' hSw;obtain⟨k1,k2,k3,k4,k5,k6⟩:=hSw;go_simp<;>with_reducible rfl)
   refine tkz 11 ?_ (hy:=by intro w' hSw;obtain⟨k1,k2,k3,k4,k5,k6⟩:=hSw;go_simp<;>with_reducible rfl)
   refine tkz 12 ?_ (hy:=by intro w' hSw;obtain⟨k1,k2,k3,k4,k5,k6⟩:=hSw;go_simp<;>with_reducible rfl)
   refine tkz 13 ?_ (hy:=by intro w' hSw;obtain⟨k1,k2,k3,k4,k5,k6⟩:=hSw;go_simp<;>with_reducible rfl)
   refine tkz 14 ?_ (hy:=by intro w' hSw;obtain⟨k1,k2,k3,k4,k5,k6⟩:=hSw;go_simp<;>with_reducible rfl)
   refine tkz 15 ?_ (hy:=by intro w' hSw;obtain⟨k1,k2,k3,k4,k5,k6⟩:=hSw;go_simp<;>with_reducible rfl)
   refine tkz 16 ?_ (hy:=by intro w' hSw;obtain⟨k1,k2,k3,k4,k5,k6⟩:=hSw;go_simp<;>with_reducible rfl)
   refine tkz 17 ?_ (hy:=by intro w' hSw;obtain⟨k1,k2,k3,k4,k5,k6⟩:=hSw;go_simp<;>with_reducible rfl)
   refine tkz 18 ?_ (hy:=by intro w' hSw;obtain⟨k1,k2,k3,k4,k5,k6⟩:=hSw;go_simp<;>with_reducible rfl)
   refine DV (rs:=[4,19]) (by kernel_rfl) (by simp) ?_
   refine Cb rfl (λK hK=>?_) (Cb rfl (λK hK=>?_) DW)
   ·go_simp
    refine hK.out _ _ (by exact hHeld) (λhHeld=>?_)
    clear hK K
    try simp only[Act.put,sq]
    refine rdq 19 rfl λK hK=>?_
    go_simp
    refine hK.out _ _ (by exact aX.out _) (λhHeld=>?_)
    clear hK K
    try simp only[Act.put,sq]
    refine rdq 20 rfl λK hK=>?_
    refine step_append_lies _ rfl _ _ 134 rfl N 141 i0 _ 5 88 Tryz.underlying134 bc hz0 hz1 hz2 rfl (by decide) af cs'.length fl rfl (by exact a6.out.alloc _) ⟨wr.heap.size,0,none⟩ 1 1 [.string tA.name,.slice x1 tA.args.length d1,.string tB.name,.slice x2 tB.args.length d2,.int .i64 (h.length:Int)] rfl rfl (by exact MR _ _ _ _ _ _ _) (λx hx=>by simp at hx; rcases hx with rfl|rfl|rfl|rfl|rfl<;>rfl) (by decide) (by have:=aF.out; unfold maxLen; omega) (by have:=aF.out; omega) (by simp; omega) _ rfl ?_
    intro g cap w3 ae aa ag au
    have aw:=Aa (((HB.out.drewN 1).alloc _).grown aa ar.out)
    have aY:w3.cell? ⟨S,0,none⟩=some af:=aw.out.cell 0
    have aZ:=aw.out.frozen 0
    have ba:=Aa (HST.out g cap w3 ae aa ag)
    have ah:=Aa (KG.out _ _ aa)
    refine hK.out _ _ (by exact KP.out w3 ah.out.1 ah.out.2.1 ah.out.2.2.1 ah.out.2.2.2) (λhHeld=>?_)
    clear ae aa ag aw au
    clear hK K
    try simp only[Act.put,sq]
    refine tkz 21 ?_ (hy:=by intro w' hSw;obtain⟨k1,k2,k3,k4,k5,k6⟩:=hSw;go_simp<;>with_reducible rfl)
    refine tkz 22 ?_ (hy:=by intro w' hSw;obtain⟨k1,k2,k3,k4,k5,k6⟩:=hSw;go_simp<;>with_reducible rfl)
    refine rdq 23 rfl λK hK=>?_
    go_simp
    refine hK.out _ _ (by exact KS.out w3 _ ah.out) (λhHeld=>?_)
    clear hK K
    try simp only[Act.put,sq]
    refine dnq ?_
    clear hHeld aY aZ
    go_wp2_with fail
    go_roundw
    case rel=>exact ba.out
    case measure=>simp[intOf]
   ·go_simp
    refine hK.out _ _ (by exact aX.out _) (λhHeld=>?_)
    clear hK K
    try simp only[Act.put,sq]
    refine rdq 4 rfl λK hK=>?_
    go_simp
    refine hK.out _ _ (by exact aX.out _) (λhHeld=>?_)
    clear hK K
    try simp only[Act.put,sq]
    refine rdq 20 rfl λK hK=>?_
    refine step_append_lies _ rfl _ _ 134 rfl N 141 i0 _ 5 88 Tryz.underlying134 bc hz0 hz1 hz2 rfl (by decide) af cs'.length fl rfl (by exact a6.out.alloc _) ⟨wr.heap.size,0,none⟩ 1 1 [.string tA.name,.slice x1 tA.args.length d1,.string tB.name,.slice x2 tB.args.length d2,.int .i64 (h.length:Int)] rfl rfl (by exact MR _ _ _ _ _ _ _) (λx hx=>by simp at hx; rcases hx with rfl|rfl|rfl|rfl|rfl<;>rfl) (by decide) (by have:=aF.out; unfold maxLen; omega) (by have:=aF.out; omega) (by simp; omega) _ rfl ?_
    intro g cap w3 ae aa ag au
    have aw:=Aa (((HB.out.drewN 1).alloc _).grown aa ar.out)
    have aY:w3.cell? ⟨S,0,none⟩=some af:=aw.out.cell 0
    have aZ:=aw.out.frozen 0
    have ba:=Aa (HST.out g cap w3 ae aa ag)
    have ah:=Aa (KG.out _ _ aa)
    refine hK.out _ _ (by exact KP.out w3 ah.out.1 ah.out.2.1 ah.out.2.2.1 ah.out.2.2.2) (λhHeld=>?_)
    clear ae aa ag aw au
    clear hK K
    try simp only[Act.put,sq]
    refine tkz 21 ?_ (hy:=by intro w' hSw;obtain⟨k1,k2,k3,k4,k5,k6⟩:=hSw;go_simp<;>with_reducible rfl)
    refine tkz 22 ?_ (hy:=by intro w' hSw;obtain⟨k1,k2,k3,k4,k5,k6⟩:=hSw;go_simp<;>with_reducible rfl)
    refine rdq 23 rfl λK hK=>?_
    go_simp
    refine hK.out _ _ (by exact KS.out w3 _ ah.out) (λhHeld=>?_)
    clear hK K
    try simp only[Act.put,sq]
    refine dnq ?_
    clear hHeld aY aZ
    go_wp2_with fail
    go_roundw
    case rel=>exact ba.out
    case measure=>simp[intOf]
theorem JB {x:ByteArray} {t:Tm} (hx:Ak x=true):AF x (At [] (Ao [t]))=Br x [t]:=by
 rw[Fs,Hw]
 constructor
 ·intro h
  unfold AF at h
  rw[D7]at h
  obtain⟨y,hy,e⟩:=h
  have e2:y=x:=Ej (by simpa using e)
  subst e2
  rcases Kr _ _ _ hy with h1|⟨k,h1,h2,_⟩
  ·cases h1
  ·exact⟨k,h1,h2⟩
 ·intro h
  apply G7
  intro hn
  exact IE hx hn h
def QT (S q N:Nat) (h:List (ByteArray×Tm)) (cs:List Ec) (ta tb:Tm) (code:Int) (w':World):Prop:=
 (code≠0/\∃(f':Bool) (Y':Nat->Prop) (td':Value),Cd S q td' h f' Y' w'/\(f'=true∨∀l,Bf false (Ai h) l ta tb=.stop code (Ai h)))∨
 (code=0/\Ab [ta]<=2000/\Ab [tb]<=2000/\∃(h':List (ByteArray×Tm)) (cs':List Ec) (new:List Pr),Jy S q N h' cs' w'/\cs'.map Da=cs.map Da++new.reverse.map (λp=>(p,h.length))/\(∀l,Bf false (Ai h) l ta tb=.go (Ai h') (new++l))/\
  ((new=[]/\h'=h)∨(new=[]/\∃x t,h'=h++[(x,t)]/\Ak x=true/\((x=ta.name/\t=tb)∨(x=tb.name/\t=ta))/\¬AF x (At [] (Ao [t]))=true)∨(new=Ax ta.args tb.args/\h'=h/\ta.args.length=tb.args.length)))
def QU (S q N:Nat) (h:List (ByteArray×Tm)) (cs:List Ec) (ta tb:Tm) (td0:Value) (w:World) (e:Ending) (w':World):Prop:=
 ∃code:Int,e=.returned (.int .i64 code)/\Al (λb=>b=S∨b=q∨some b=td0.ownBlock) w w'/\QT S q N h cs ta tb code w'
theorem QW {S q N:Nat} {h:List (ByteArray×Tm)} {cs:List Ec} {ta tb:Tm} {nm:ByteArray} {t:Tm} {td:Value} {w w3 w4:World} {X Y':Nat->Prop} {e:Ending} (ae:S<N) (af:q<N) (ar:N<=w.heap.size) (hR:CZ w N (λb=>b<N/\b≠S/\b≠q) td cs) (ai:∀b,Y' b->some b≠td.ownBlock) (au:∀b,X b->some b≠td.ownBlock) (hx3:Al (Ce S q) w w3) (av:Al (Ce S q) w3 w4) (aj:Ab [ta]<=2000) (ak:Ab [tb]<=2000)
  (ag:∀l,Bf false (Ai h) l ta tb=if nm=t.name then .go (Ai h) l else CB false (Ai h) l nm t) (aa:Ak nm=true) (aw:(nm=ta.name/\t=tb)∨(nm=tb.name/\t=ta))
  (hc:(t.name=nm/\e=.returned (.int .i64 0)/\Cd S q td h false Y' w4)∨(t.name≠nm/\Br nm [t]=true/\e=.returned (.int .i64 6)/\Cd S q td h false Y' w4)∨(t.name≠nm/\Br nm [t]=false/\e=.returned (.int .i64 0)/\Cd S q td (h++[(nm,t)]) false (λb=>Y' b∨(X b/\b<w3.heap.size)) w4)):
  ∃code:Int,e=.returned (.int .i64 code)/\Al (λb=>b=S∨b=q∨some b=td.ownBlock) w w4/\QT S q N h cs ta tb code w4:=by
 have hx:Al (Ce S q) w w4:=hx3.trans av
 have ah:Al (λb=>b=S∨b=q∨some b=td.ownBlock) w w4:=hx.mono λb hb _=>by
  rcases hb with h1|h1
  ·exact Ad h1
  ·exact Ae (Ad h1)
 have ao:CZ w4 N (λb=>b<N/\b≠S/\b≠q) td cs:=hR.exq hx (λb hb=>by rcases hb with rfl|rfl; exact ae; exact af) (λb hb hh=>by
  rcases hb with h1|h1
  ·exact hh.2.1 h1
  ·exact hh.2.2 h1)
 have aq:N<=w4.heap.size:=AX ar hx.size
 rcases hc with ⟨hn,rfl,hE⟩|⟨hn,ho,rfl,hE⟩|⟨hn,ho,rfl,hE⟩
 ·exact⟨0,rfl,ah,Ae ⟨rfl,aj,ak,h,cs,[],⟨td,Y',hE,ao,ai,ae,af,aq⟩,by simp,λl=>by rw[ag,As hn.symm]; rfl,Ad ⟨rfl,rfl⟩⟩⟩
 ·refine⟨6,rfl,ah,Ad ⟨by decide,false,Y',td,hE,Ae λl=>?_⟩⟩
  rw[ag,An (λe=>hn e.symm)]
  unfold CB
  rw[As (by rw[JB aa]; exact ho)]
 ·refine⟨0,rfl,ah,Ae ⟨rfl,aj,ak,h++[(nm,t)],cs,[],⟨td,_,hE,ao,λb hb=>?_,ae,af,aq⟩,by simp,λl=>?_,Ae (Ad ⟨rfl,nm,t,rfl,aa,aw,by rw[JB aa,ho]; simp⟩)⟩⟩
  ·rcases hb with hb|hb
   ·exact ai b hb
   ·exact au b hb.1
  ·rw[ag,An (λe=>hn e.symm)]
   unfold CB
   rw[An (by rw[JB aa,ho]; simp),An (by simp),Fl]
   rfl
theorem Ys (S q N:Nat) (V:List ByteArray) (h:List (ByteArray×Tm)) (cs:List Ec) (p:Pr) (l:List Pr) (hU:UI V h (p::l)) (j:Nat) (hj:j<=h.length) (hid:j=h.length->(Ag (Ai h) p.l=p.l/\Ag (Ai h) p.r=p.r)) (hsz:cs.length<=900000000) (hV:V.length<=400000) (a1:Option Addr) (c1:Nat) (a2:Option Addr) (c2:Nat) (w:World) (td:Value) (Y:Nat->Prop) (hE:Cd S q td h false Y w) (hR:CZ w N (λb=>b<N/\b≠S/\b≠q) td cs) (hY:∀b,Y b->some b≠td.ownBlock) (ax:S<N) (ay:q<N) (a8:N<=w.heap.size)
  (hs1:Sl w (λb=>(b<N/\b≠S/\b≠q)∨(N<=b/\some b≠td.ownBlock)) a1 p.l.args) (hs2:Sl w (λb=>(b<N/\b≠S/\b≠q)∨(N<=b/\some b≠td.ownBlock)) a2 p.r.args):
  Calls Tryz.prog 100 #[.pointer (some ⟨S,0,none⟩),.agg #[.string p.l.name,.slice a1 p.l.args.length c1,.string p.r.name,.slice a2 p.r.args.length c2,.int .i64 (j:Int)]] w λe w'=>QU S q N h cs (Ag (Ai h) p.l) (Ag (Ai h) p.r) td w e w':=by
 have HE:=Aa hE
 have HR:=Aa hR
 have HY:=Aa hY
 have aY:=Aa hs1
 have aZ:=Aa hs2
 have HU:=Aa hU
 have ba:=Aa hid
 have bm:S<w.heap.size:=by omega
 clear hE hR hY hs1 hs2 hU hid
 obtain⟨ta,aA⟩:∃ta,Ag (Ai h) p.l=ta:=⟨_,rfl⟩
 obtain⟨tb,aB⟩:∃tb,Ag (Ai h) p.r=tb:=⟨_,rfl⟩
 have aC:=Aa aA
 have aD:=Aa aB
 rw[aA,aB]
 clear aA aB
 have az:Hid (Below w.heap.size w (w.alloc (.cells #[.string p.l.name,.slice a1 p.l.args.length c1,.string p.r.name,.slice a2 p.r.args.length c2,.int .i64 (j:Int)] 141))):=(Af _ _).alloc (Aj _) _
 have hz1:(w.alloc (.cells #[.string p.l.name,.slice a1 p.l.args.length c1,.string p.r.name,.slice a2 p.r.args.length c2,.int .i64 (j:Int)] 141)).heap.size=w.heap.size+1:=by simp
 go_enter Tryz.func100,Tryz.ntmps100
 go_wp2_with fail
 generalize (w.alloc (.cells #[.string p.l.name,.slice a1 p.l.args.length c1,.string p.r.name,.slice a2 p.r.args.length c2,.int .i64 (j:Int)] 141))=w1 at *
 have PT:=Ym S q td h HU.out.good HU.out.names p HU.out.head j hj ba.out (HU.out.size p (by simp)) a1 c1 a2 c2 w1 _ Y (λb hb hm=>by
  rcases hb with hb|hb
  ·rcases hm with e|e
   ·exact hb.2.1 e
   ·exact hb.2.2 e
  ·rcases hm with e|e<;>omega) (aY.out.later az.out) (aZ.out.later az.out) ((Dd S q td h).below HE.out az.out)
 rw[aC.out,aD.out]at PT
 refine PT.mono ?_
 clear PT
 rintro e w2 ⟨s1,y1,n1,k1,s2,y2,n2,k2,ok,f',Y',rfl,aM,au,hx,hc⟩
 have bb:Hid (Al (Ce S q) w w2):=(Al.ofBelow az.out).trans hx
 have bc:=Aa aM
 have aF:Hid (∀b,Y' b->some b≠td.ownBlock):=λb hb e=>by
  rcases au b hb with h1|h1
  ·exact HY.out b h1 e
  ·have:=(HR.out.own.lt b e.symm).2; omega
 have hz2:w.heap.size+1<=w2.heap.size:=by have:=hx.size; omega
 have HC:=Aa hc
 clear aM au hx hc
 have a6:Below w2.heap.size w2 ((w2.alloc (.cells #[.string s1,.slice y1 n1 k1] 29)).alloc (.cells #[.string s2,.slice y2 n2 k2] 29)):=CO _ _
 have aG:=Aa a6
 have A3:Hid (Ac ((w2.alloc (.cells #[.string s1,.slice y1 n1 k1] 29)).alloc (.cells #[.string s2,.slice y2 n2 k2] 29)) w2.heap.size #[.string s1,.slice y1 n1 k1] 29):=(Ac.new w2 _ _).alloc _
 have B3:Hid (Ac ((w2.alloc (.cells #[.string s1,.slice y1 n1 k1] 29)).alloc (.cells #[.string s2,.slice y2 n2 k2] 29)) (w2.heap.size+1) #[.string s2,.slice y2 n2 k2] 29):=by
  have h1:=Ac.new (w2.alloc (.cells #[.string s1,.slice y1 n1 k1] 29)) #[.string s2,.slice y2 n2 k2] 29
  rw[CN]at h1
  exact h1
 have hz3:((w2.alloc (.cells #[.string s1,.slice y1 n1 k1] 29)).alloc (.cells #[.string s2,.slice y2 n2 k2] 29)).heap.size=w2.heap.size+2:=by simp
 have ag:=Aa ((Dd S q td h).below bc.out a6)
 have ah:Hid (Al (Ce S q) w ((w2.alloc (.cells #[.string s1,.slice y1 n1 k1] 29)).alloc (.cells #[.string s2,.slice y2 n2 k2] 29))):=bb.out.trans (Al.ofBelow a6)
 clear a6
 rcases HC.out with ⟨rfl,rfl,rfl,rfl,rfl,rfl,aN,aO,aP,aQ⟩|⟨rfl,av⟩
 ·have ai:∀(a:Option Addr) (l:List Tm),Sl w2 (λb=>(((b<N/\b≠S/\b≠q)∨(N<=b/\some b≠td.ownBlock))/\b<w1.heap.size)∨w1.heap.size<=b) a l->Sl w2 (λb=>(b<N/\b≠S/\b≠q)∨(N<=b/\some b≠td.ownBlock)) a l:=λa l bf=>bf.mono λb hb _=>by
   rcases hb with hb|hb
   ·exact hb.1
   ·refine Ae ⟨by omega,λe=>?_⟩
    have:=(HR.out.own.lt b e.symm).2; omega
  have aH:=Aa ((ai _ _ aP).later aG.out)
  have aI:=Aa ((ai _ _ aQ).later aG.out)
  have aR:Hid (∀b,((b<N/\b≠S/\b≠q)∨(N<=b/\some b≠td.ownBlock))->¬Ce S q b):=λb hb hm=>by
   rcases hb with hb|hb
   ·rcases hm with e|e
    ·exact hb.2.1 e
    ·exact hb.2.2 e
   ·rcases hm with e|e<;>omega
  have aS:Hid (∀b,((b<N/\b≠S/\b≠q)∨(N<=b/\some b≠td.ownBlock))->some b≠td.ownBlock):=λb hb=>by
   rcases hb with hb|hb
   ·exact HR.out.ne hb.1
   ·exact hb.2
  have aj:=Aa aN
  have aq:=Aa aO
  have a0:((w2.alloc (.cells #[.string ta.name,.slice y1 ta.args.length k1] 29)).alloc (.cells #[.string tb.name,.slice y2 tb.args.length k2] 29)).cell? ⟨w2.heap.size,0,none⟩=some (.string ta.name):=A3.out.cell 0
  have aT:((w2.alloc (.cells #[.string ta.name,.slice y1 ta.args.length k1] 29)).alloc (.cells #[.string tb.name,.slice y2 tb.args.length k2] 29)).cell? ⟨w2.heap.size,1,none⟩=some (.slice y1 ta.args.length k1):=A3.out.cell 1
  have b0:((w2.alloc (.cells #[.string ta.name,.slice y1 ta.args.length k1] 29)).alloc (.cells #[.string tb.name,.slice y2 tb.args.length k2] 29)).cell? ⟨w2.heap.size+1,0,none⟩=some (.string tb.name):=B3.out.cell 0
  have aU:((w2.alloc (.cells #[.string ta.name,.slice y1 ta.args.length k1] 29)).alloc (.cells #[.string tb.name,.slice y2 tb.args.length k2] 29)).cell? ⟨w2.heap.size+1,1,none⟩=some (.slice y2 tb.args.length k2):=B3.out.cell 1
  clear ai aP aQ aN aO HC
  cases hva:Ak ta.name with
  |true=>
   have aa:=Aa hva
   have MAY:Hid (tb.name≠ta.name->Br ta.name [tb]=false->FD (Ai h) ta.name tb):=λ_ ho=>(HU.out.bindV aa.out (Ad ⟨by rw[aC.out],by rw[aD.out]⟩) (by rw[JB aa.out,ho]; simp)).1
   clear hva
   go_wp2_with (go_at_call 49; refine(Cz _ _).mono ?_; rintro e w' ⟨rfl,rfl⟩; rw[aa.out])
   generalize ((w2.alloc (.cells #[.string ta.name,.slice y1 ta.args.length k1] 29)).alloc (.cells #[.string tb.name,.slice y2 tb.args.length k2] 29))=w3 at *
   refine(QO S q td h HU.out.good ta.name tb MAY.out y2 k2 w3 _ Y' aR.out aI.out ag.out).mono ?_
   rintro e w4 ⟨af,aw⟩
   have HO:=Aa (QW (ta:=ta) (tb:=tb) (cs:=cs) ax ay a8 HR.out aF.out aS.out ah.out af aj.out aq.out (λl=>by unfold Bf; rw[An (by have:=aj.out; have:=aq.out; omega),As aa.out]) aa.out (Ad ⟨rfl,rfl⟩) aw)
   obtain⟨code,rfl,hout⟩:=HO.out
   clear aw
   have aV:=Aa af
   have ak:=Aa hout
   clear af hout HO
   go_wp2_with fail
   go_ret
   exact⟨code,rfl,ak.out⟩
  |false=>
   have aa:=Aa hva
   clear hva
   cases hvb:Ak tb.name with
   |true=>
    have ae:=Aa hvb
    have MAY:Hid (ta.name≠tb.name->Br tb.name [ta]=false->FD (Ai h) tb.name ta):=λ_ ho=>(HU.out.bindV ae.out (Ae ⟨by rw[aD.out],by rw[aC.out]⟩) (by rw[JB ae.out,ho]; simp)).1
    have bg:Hid (tb.name≠ta.name):=λe=>by
     have h1:=aa.out
     have h2:=ae.out
     rw[e,h1]at h2; cases h2
    clear hvb
    go_wp2_with (go_at_call 49; refine(Cz _ _).mono ?_; rintro e w' ⟨rfl,rfl⟩; (first|rw[aa.out]|rw[ae.out]))
    generalize ((w2.alloc (.cells #[.string ta.name,.slice y1 ta.args.length k1] 29)).alloc (.cells #[.string tb.name,.slice y2 tb.args.length k2] 29))=w3 at *
    refine(QO S q td h HU.out.good tb.name ta MAY.out y1 k1 w3 _ Y' aR.out aH.out ag.out).mono ?_
    rintro e w4 ⟨af,aw⟩
    have HO:=Aa (QW (ta:=ta) (tb:=tb) (cs:=cs) ax ay a8 HR.out aF.out aS.out ah.out af aj.out aq.out (λl=>by unfold Bf; rw[An (by have:=aj.out; have:=aq.out; omega),An (by rw[aa.out]; simp),As ae.out,An bg.out]) ae.out (Ae ⟨rfl,rfl⟩) aw)
    obtain⟨code,rfl,hout⟩:=HO.out
    clear aw
    have ak:=Aa hout
    clear af hout HO
    go_wp2_with fail
    go_ret
    exact⟨code,rfl,ak.out⟩
   |false=>
    have ae:=Aa hvb
    clear hvb
    have a7:Hid (Al (λb=>b=S∨b=q∨some b=td.ownBlock) w ((w2.alloc (.cells #[.string ta.name,.slice y1 ta.args.length k1] 29)).alloc (.cells #[.string tb.name,.slice y2 tb.args.length k2] 29))):=ah.out.mono λb hb _=>by
     rcases hb with h1|h1
     ·exact Ad h1
     ·exact Ae (Ad h1)
    have aJ:Hid (∀l,Bf false (Ai h) l ta tb=if ta.name=tb.name/\ta.args.length=tb.args.length then .go (Ai h) (Ax ta.args tb.args++l) else .stop 5 (Ai h)):=λl=>by
     unfold Bf
     rw[An (by have:=aj.out; have:=aq.out; omega),An (by rw[aa.out]; simp),An (by rw[ae.out]; simp)]
    by_cases ao:ta.name=tb.name
    ·have bh:=Hi ao
     by_cases ar:ta.args.length=tb.args.length
     ·have aW:=Aa ar
      have bj:=Aa ao
      have bn:ta.args.length<=2000:=by
       have h1:=Ez ta.args
       have h2:=IK ta
       have h3:=aj.out
       omega
      have bk:h.length<=1000000000:=by have:=HU.out.hlen; omega
      rw[ar]at ag ah a7 aH aI
      clear ao A3 B3 aG a0 aT b0 aU hz3
      have A3:Hid (Ac ((w2.alloc (.cells #[.string ta.name,.slice y1 tb.args.length k1] 29)).alloc (.cells #[.string tb.name,.slice y2 tb.args.length k2] 29)) w2.heap.size #[.string ta.name,.slice y1 tb.args.length k1] 29):=(Ac.new w2 _ _).alloc _
      have B3:Hid (Ac ((w2.alloc (.cells #[.string ta.name,.slice y1 tb.args.length k1] 29)).alloc (.cells #[.string tb.name,.slice y2 tb.args.length k2] 29)) (w2.heap.size+1) #[.string tb.name,.slice y2 tb.args.length k2] 29):=by
       have h1:=Ac.new (w2.alloc (.cells #[.string ta.name,.slice y1 tb.args.length k1] 29)) #[.string tb.name,.slice y2 tb.args.length k2] 29
       rw[CN]at h1
       exact h1
      have a0:((w2.alloc (.cells #[.string ta.name,.slice y1 tb.args.length k1] 29)).alloc (.cells #[.string tb.name,.slice y2 tb.args.length k2] 29)).cell? ⟨w2.heap.size,0,none⟩=some (.string ta.name):=A3.out.cell 0
      have aT:((w2.alloc (.cells #[.string ta.name,.slice y1 tb.args.length k1] 29)).alloc (.cells #[.string tb.name,.slice y2 tb.args.length k2] 29)).cell? ⟨w2.heap.size,1,none⟩=some (.slice y1 tb.args.length k1):=A3.out.cell 1
      have b0:((w2.alloc (.cells #[.string ta.name,.slice y1 tb.args.length k1] 29)).alloc (.cells #[.string tb.name,.slice y2 tb.args.length k2] 29)).cell? ⟨w2.heap.size+1,0,none⟩=some (.string tb.name):=B3.out.cell 0
      have aU:((w2.alloc (.cells #[.string ta.name,.slice y1 tb.args.length k1] 29)).alloc (.cells #[.string tb.name,.slice y2 tb.args.length k2] 29)).cell? ⟨w2.heap.size+1,1,none⟩=some (.slice y2 tb.args.length k2):=B3.out.cell 1
      go_wp2_with (go_at_call 49; refine(Cz _ _).mono ?_; rintro e w' ⟨rfl,rfl⟩; (first|rw[aa.out]|rw[ae.out]))
      generalize ((w2.alloc (.cells #[.string ta.name,.slice y1 tb.args.length k1] 29)).alloc (.cells #[.string tb.name,.slice y2 tb.args.length k2] 29))=w3 at *
      have aX:CZ w3 N (λb=>b<N/\b≠S/\b≠q) td cs:=HR.out.exq ah.out (λb hb=>by rcases hb with rfl|rfl; exact ax; exact ay) (λb hb hh=>by
       rcases hb with h1|h1
       ·exact hh.2.1 h1
       ·exact hh.2.2 h1)
      have AH:=Yr S q N h cs ta.args tb.args ar (by omega) bk y1 y2 k1 k2 w3 td Y' ag.out aX aF.out ax ay (AX a8 ah.out.size) aH.out aI.out
      rw[ar]at AH
      refine AH.mono ?_
      clear AH
      rintro e w4 ⟨rfl,cs',hT,hC,af⟩
      have HT:=Aa hT
      have bl:=Aa hC
      have aV:Hid (Al (λb=>b=S∨b=q∨some b=td.ownBlock) w w4):=a7.out.trans (af.mono λb hb _=>hb.imp id Ae)
      clear hT hC af aX
      go_wp2_with fail
      go_ret
      exact⟨0,rfl,aV.out,Ae ⟨rfl,aj.out,aq.out,h,cs',Ax ta.args tb.args,HT.out,bl.out,λl=>by rw[aJ.out,As ⟨bj.out,aW.out⟩],Ae (Ae ⟨rfl,rfl,aW.out⟩)⟩⟩
     ·have bo:((ta.args.length:Int)==(tb.args.length:Int))=false:=DL.2 (by omega)
      have aK:Hid (¬(ta.name=tb.name/\ta.args.length=tb.args.length)):=λhh=>ar hh.2
      clear ar ao
      go_wp2_with (go_at_call 49; refine(Cz _ _).mono ?_; rintro e w' ⟨rfl,rfl⟩; (first|rw[aa.out]|rw[ae.out]))
      go_ret
      exact⟨5,rfl,a7.out,Ad ⟨by decide,false,Y',td,ag.out,Ae λl=>by rw[aJ.out,An aK.out]⟩⟩
    ·have bh:=I9 ao
     have aK:Hid (¬(ta.name=tb.name/\ta.args.length=tb.args.length)):=λhh=>ao hh.1
     clear ao
     go_wp2_with (go_at_call 49; refine(Cz _ _).mono ?_; rintro e w' ⟨rfl,rfl⟩; (first|rw[aa.out]|rw[ae.out]))
     go_ret
     exact⟨5,rfl,a7.out,Ad ⟨by decide,false,Y',td,ag.out,Ae λl=>by rw[aJ.out,An aK.out]⟩⟩
 ·have aL:=Aa av
  clear av HC
  go_wp2_with fail
  go_ret
  refine⟨8,rfl,ah.out.mono λb hb _=>?_,Ad ⟨by decide,f',Y',td,ag.out,?_⟩⟩
  ·rcases hb with h1|h1
   ·exact Ad h1
   ·exact Ae (Ad h1)
  ·rcases aL.out with h1|h1
   ·exact Ad h1
   ·exact Ae λl=>by unfold Bf; rw[As h1]
open Go.RowKit Go.Shelf
attribute [local go_sem] GJ
theorem Yt (F:Fence) (n:Nat) (hf:F.fn 99) (hro:F.round=none) (v:Value) (w:World) (hv:∃a k c,v=.slice a k c):
  CallsIn F n Tryz.prog 99 #[v] w λe w'=>e=.returned (.func (.func 117) #[] #[.pointer (some ⟨w.heap.size,0,none⟩)])/\w'=w.alloc (.cells #[v] 22):=by
 obtain⟨a,k,c,rfl⟩:=hv
 refine callsIn_of_wp Tryz.func99 rfl hf ?_ hro
 simp only[Tryz.ntmps99,List.size_toArray,Bs,EN,Nat.reduceAdd,Nat.reduceSub,Lw,Lx,List.push_toArray,Ly,DY,Cf]
 gi_wp2
 go_ret
 exact⟨rfl,rfl⟩
abbrev Yx:=Int×Pc
def KM (x:Yx):Array Value:=#[.int .i64 x.1,.agg #[.string x.2.1.l.name,.slice x.2.2.1.1 x.2.1.l.args.length x.2.2.1.2,.string x.2.1.r.name,.slice x.2.2.2.1 x.2.1.r.args.length x.2.2.2.2]]
def EJ {P:Yx->Prop} (xs:List Pc) (hP:∀k (h:k<xs.length),P ((k:Int),xs[k])):(k:Nat)->k<=xs.length->List { x:Yx // P x}
 |0,_=>[]
 |k+1,h=>⟨((k:Int),xs[k]),hP k h⟩::EJ xs hP k (Nat.le_of_succ_le h)
theorem QX {P:Yx->Prop} {xs:List Pc} {hP:∀k (h:k<xs.length),P ((k:Int),xs[k])}:∀k (h:k<=xs.length),(EJ xs hP k h).length=k
 |0,_=>rfl
 |k+1,h=>by rw[EJ,Bs,QX k]
theorem QY {P:Yx->Prop} {xs:List Pc} {hP:∀k (h:k<xs.length),P ((k:Int),xs[k])}:∀k (h:k<=xs.length),(EJ xs hP k h).map (λx=>x.1.2.1)=((xs.take k).map (·.1)).reverse
 |0,_=>by simp[EJ]
 |k+1,h=>by
  rw[EJ,BP,QY k,Bm (by omega),Cr,List.reverse_append]
  rfl
def MT (w:World) (b o:Nat) (xs:List Pc):Prop:=∀j u,(CH xs)[j]? = some u->w.cell? ⟨b,o+j,none⟩=some u
theorem Yu (F:Fence) (n:Nat) (h6:F.fn 117) (hro:F.round=none) (hn:1<=n) {P:Yx->Prop} {Kp:World->World->Prop} (ai:∀A,Kp A A) (aj:∀ {A B C:World},Kp A B->Kp B C->Kp A C) (l Bn b o c:Nat) (ag:∀ {A B:World},Kp A B->B.heap[b]? = A.heap[b]? /\ B.heap[Bn]? = A.heap[Bn]?) (a:Option Addr) (xs:List Pc) (hP:∀k (h:k<xs.length),P ((k:Int),xs[k])) (ha:xs=[]∨a=some ⟨b,o,none⟩) (au:xs.length<=1000000) (J Jx:List { x:Yx // P x}->World->Prop)
  (hY:∀pre x W,J pre W->pre.length<xs.length->YieldAt F (n-1) Tryz.prog l (KM x.1) W λe W'=>
   (e=.returned (.bool true)/\J (pre++[x]) W'/\Kp W W')∨(e=.returned (.bool false)/\Jx (pre++[x]) W'))
  (W:World) (ah:W.cell? ⟨Bn,0,none⟩=some (.slice a xs.length c)) (hL:MT W b o xs) (h0:J [] W):
  CallsIn F n Tryz.prog 117 #[.func (.yield l) #[] #[],.pointer (some ⟨Bn,0,none⟩)] W λe W'=>(∃v,e=.returned v)/\
   ((∃ys,ys=EJ xs hP xs.length (Aj _)/\J ys W')∨(∃pre,pre <+: EJ xs hP xs.length (Aj _)/\Jx pre W')):=by
 refine callsIn_of_wp Tryz.func117 rfl h6 ?_ hro
 simp only[Tryz.ntmps117,List.size_toArray,Bs,EN,Nat.reduceAdd,Nat.reduceSub,Lw,Lx,List.push_toArray,Ly,DY,Cf]
 gi_wp2
 gi_loopw [3] (λi wr=>∃(k:Nat) (hk:k<=xs.length),i=.int .i64 ((k:Int)-1)/\Kp W wr/\∃pre,EJ xs hP xs.length (Aj _)=pre++EJ xs hP k hk/\J pre wr) (λi wr=>(intOf i+1).toNat)
 case atStart=>exact⟨xs.length,Aj _,by go_num,ai _,[],rfl,h0⟩
 case round=>
  obtain⟨k,hk,rfl,hb,pre,aa,hJ⟩:=hrel
  cases k with
  |zero=>
   gi_wp2
   go_end0
   exact⟨⟨_,rfl⟩,.inl ⟨pre,by rw[aa]; simp[EJ],hJ⟩⟩
  |succ k=>
   have ak:((k+1:Nat):Int)-1=k:=by omega
   rw[ak]
   obtain rfl:a=some ⟨b,o,none⟩:=ha.resolve_left (λe=>by rw[e] at hk; simp at hk)
   rw[EJ]at aa
   have ao:pre.length<xs.length:=by
    have h1:=Bu List.length aa
    rw[QX]at h1
    simp at h1
    omega
   have cc:∀j u,(DQ xs[k])[j]? = some u->j<4->wr.cell? ⟨b,o+k*4+j,none⟩=some u:=λj u hu hj=>by
    rw[CM (ag hb).1,I5]
    exact hL _ _ (by rw[IL xs k (by omega) j hj]; exact hu)
   have c0:=cc 0 _ rfl (by decide)
   have c1:=cc 1 _ rfl (by decide)
   have c2:=cc 2 _ rfl (by decide)
   have c3:=cc 3 _ rfl (by decide)
   simp only[FL] at c0
   have av:wr.cell? ⟨Bn,0,none⟩=some (.slice (some ⟨b,o,none⟩) xs.length c):=by rw[CM (ag hb).2]; exact ah
   have aw:(k:Int)<(xs.length:Int):=by omega
   have ae:=hP k (by omega)
   obtain⟨fn,tmps,assign,body,hy,hR⟩:=hY pre ⟨((k:Int),xs[k]),ae⟩ wr hJ ao
   have HP:=Aa aa
   dsimp only[KM] at hy hR
   obtain⟨x,hx⟩:∃x,xs[k]=x:=⟨_,rfl⟩
   have ax:=Aa hx
   simp only[hx] at c0 c1 c2 c3 hy
   clear cc aa hL ah hx
   gi_wp2
   refine hR.mono ?_
   rintro e W3 (⟨rfl,aq,ar⟩|⟨rfl,af⟩)
   ·gi_wp2
    go_roundw
    case rel=>exact⟨k,by omega,by go_num,aj hb ar,pre++[⟨((k:Int),xs[k]),ae⟩],by rw[HP.out]; simp,aq⟩
    case measure=>simp[intOf]
   ·gi_wp2
    refine Ap (results_none rfl _ _ _) rfl ?_
    exact⟨⟨_,rfl⟩,.inr ⟨pre++[⟨((k:Int),xs[k]),ae⟩],⟨EJ xs hP k (by omega),by rw[HP.out]; simp⟩,af⟩⟩
theorem Yv (F:Fence) (n:Nat) (h6:F.fn 117) (hro:F.round=none) (hn:1<=n) {P:Yx->Prop} {Kp:World->World->Prop} (ae:∀A,Kp A A) (af:∀ {A B C:World},Kp A B->Kp B C->Kp A C) (Bn b o c:Nat) (ag:∀ {A B:World},Kp A B->B.heap[b]? = A.heap[b]? /\ B.heap[Bn]? = A.heap[Bn]?) (a:Option Addr) (xs:List Pc) (hP:∀k (h:k<xs.length),P ((k:Int),xs[k])) (ha:xs=[]∨a=some ⟨b,o,none⟩) (ah:xs.length<=1000000) (w:World) (ai:b<w.heap.size) (aa:Bn<w.heap.size) (aj:w.cell? ⟨Bn,0,none⟩=some (.slice a xs.length c)) (hL:MT w b o xs):
  SeqStopsK F n Tryz.prog 117 #[.pointer (some ⟨Bn,0,none⟩)] (λx:{ x:Yx // P x}=>KM x.1) Kp (λys=>ys=EJ xs hP xs.length (Aj _)) (λpre=>pre <+: EJ xs hP xs.length (Aj _)) xs.length w:=λl J Jx W hW _ _ hY h0=>
 Yu F n h6 hro hn ae af l Bn b o c ag a xs hP ha ah J Jx hY W ((hW.cell (p:=⟨Bn,0,none⟩) aa).trans aj) (λj u hj=>(hW.cell (p:=⟨b,o+j,none⟩) ai).trans (hL j u hj)) h0
theorem MU {w:World} {X:Nat->Prop}:∀(l:List Pr) (b o:Nat),(∀i (h:i<l.length),∃a1 c1 a2 c2,w.cell? ⟨b,o+i*4,none⟩=some (.string l[i].l.name)/\w.cell? ⟨b,o+i*4+1,none⟩=some (.slice a1 l[i].l.args.length c1)/\w.cell? ⟨b,o+i*4+2,none⟩=some (.string l[i].r.name)/\w.cell? ⟨b,o+i*4+3,none⟩=some (.slice a2 l[i].r.args.length c2)/\Sl w X a1 l[i].l.args/\Sl w X a2 l[i].r.args)->
  ∃cs:List Pc,cs.map (·.1)=l/\(∀j u,(CH cs)[j]? = some u->w.cell? ⟨b,o+j,none⟩=some u)/\∀x∈cs,Sl w X x.2.1.1 x.1.l.args/\Sl w X x.2.2.1 x.1.r.args
 | [],b,o,_=>⟨[],rfl,λj u h=>by simp[CH] at h,λx h=>by cases h⟩
 |p::r,b,o,h=>by
  obtain⟨a1,c1,a2,c2,h1,h2,h3,h4,h5,h6⟩:=h 0 (by simp)
  obtain⟨cs,e1,e2,e3⟩:=MU r b (o+4) λi hi=>by
   have h7:=h (i+1) (by simpa using hi)
   simp only[F7] at h7
   rw[show o+(i+1)*4=o+4+i*4 by omega]at h7
   exact h7
  simp only[Et,Nat.zero_mul,FL] at h1 h2 h3 h4 h5 h6
  refine⟨(p,(a1,c1),(a2,c2))::cs,by simp[e1],λj u hj=>?_,λx hx=>?_⟩
  ·rw[CH]at hj
   match j,hj with
   |0,hj=>simp[DQ] at hj; subst hj; exact h1
   |1,hj=>simp[DQ] at hj; subst hj; exact h2
   |2,hj=>simp[DQ] at hj; subst hj; exact h3
   |3,hj=>simp[DQ] at hj; subst hj; exact h4
   |j+4,hj=>
    rw[Ny (by simp[DQ])]at hj
    have:=e2 j u (by simpa [DQ] using hj)
    rwa [show o+(j+4)=o+4+j by omega]
  ·rcases BE.1 hx with rfl|hx
   ·exact⟨h5,h6⟩
   ·exact e3 x hx
theorem Yw (x:Pc):∀u∈DQ x,u.oneCell'=true:=λy hy=>by
 simp[DQ]at hy
 rcases hy with rfl|rfl|rfl|rfl<;>rfl
theorem MW:∀cs:List Pc,∀u∈CH cs,u.oneCell'=true
 | [],u,h=>by cases h
 |x::r,u,h=>by
  rw[CH]at h
  rcases Bg.1 h with h|h
  ·exact Yw x u h
  ·exact MW r u h
theorem Yy {w:World} {N:Nat} {Y:Nat->Prop} {v:Value} {cs:List Pc} (h:Cx w N Y v cs) (hN:N<=w.heap.size) (hY:∀b,Y b->b<N) {a:Option Addr} {n c:Nat} {l:List Pr} (hq:QV w Y (.slice a n c) l) (hn:cs.length+l.length<=1000000000):
  ∃v2 w3,(Builtin.append_ #[22,22] 22 #[v,.slice a n c]).run Tryz.prog w=.ok v2 w3/\QV w3 (λb=>Y b∨N<=b) v2 (cs.map (·.1)++l)/\w.grownBy w3 v.ownBlock:=by
 obtain⟨i0,hi,hz0,hz1,hz2⟩:=CT Tryz.infoPair
 obtain⟨a',c',e,hl,hq⟩:=hq
 simp at e
 obtain⟨rfl,rfl,rfl⟩:=e
 by_cases h0:l=[]
 ·subst h0
  obtain⟨va,vc,hv,af,_⟩:=h.qv
  refine⟨v,w,?_,by simpa using h.qv,⟨rfl,rfl,rfl,Aj _,λ_ _ _=>rfl⟩⟩
  subst hv
  have hle:=af.2
  simp only[DZ] at hle
  cases va<;>cases a<;>simp[Builtin.append_,FM Tryz.underlying22,sizeOf,typeInfo,hi,hz1,Builtin.lenOf,Builtin.firstCells,hle,Result.andThen,storeCells,loadCells,loadCellsFrom]
 ·obtain⟨b,o,rfl,ag,hc⟩:=hq.resolve_left h0
  obtain⟨aa,e1,e2,e3⟩:=MU l b o hc
  have hlen:l.length=aa.length:=by rw[<-e1]; simp
  have hp:0<aa.length:=by rw[<-hlen]; exact Fb.2 h0
  have hlt:=h.own.lt
  obtain⟨g,cap,w3,hr,ho,hg,hat,ah⟩:=run_append_lies (P:=Tryz.prog) (w:=w) 22 22 N 31 i0 _ 4 80 Tryz.underlying22 hi hz0 hz1 hz2 rfl (by decide) v cs.length (CH cs) h.own
   ⟨b,o,none⟩ aa.length c (CH aa) (MP aa) (λj u hj=>by have:=e2 j u hj; by_cases h9:j=0; subst h9; simpa [Addr.add] using this; simpa [Addr.add,h9] using this) (MW aa) hp (by unfold maxLen; omega) (by omega) hN _ rfl
  have hrow:Cx w3 N Y (.slice (some ⟨g,0,none⟩) (cs.length+aa.length) cap) (cs++aa):=by
   have ai:N<=g:=by
    rcases hat with e|e
    ·exact(hlt g e).1
    ·omega
   have ae:∀b,Y b->some b≠v.ownBlock:=λb hb=>h.ne (hY b hb)
   refine⟨by rw[KJ]; simpa using ho,λy hy=>?_⟩
   rcases Bg.1 hy with hy|hy
   ·have old:∀(a:Option Addr) (k:List Tm),Sl w (λb=>Y b∨(N<=b/\some b≠v.ownBlock)) a k->Sl w3 (λb=>Y b∨(N<=b/\some b≠(Value.slice (some ⟨g,0,none⟩) (cs.length+aa.length) cap).ownBlock)) a k:=λa k h0=>by
     have h1:Sl w (λb=>(Y b∨(N<=b/\some b≠v.ownBlock))/\b<w.heap.size) a k:=h0.mono λb h1 h2=>⟨h1,h2⟩
     refine(h1.kept λb hx=>hg.block b hx.2 ?_).mono λb hx _=>?_
     ·rcases hx.1 with hy|hy
      ·exact ae b hy
      ·exact hy.2
     ·rcases hx.1 with hy|hy
      ·exact Ad hy
      ·refine Ae ⟨hy.1,λe=>?_⟩
       simp[Value.ownBlock]at e
       rcases hat with e'|e'
       ·exact hy.2 (by rw[e',e])
       ·omega
    exact⟨old _ _ (h.row y hy).1,old _ _ (h.row y hy).2⟩
   ·have new:∀(a:Option Addr) (k:List Tm),Sl w Y a k->Sl w3 (λb=>Y b∨(N<=b/\some b≠(Value.slice (some ⟨g,0,none⟩) (cs.length+aa.length) cap).ownBlock)) a k:=λa k h0=>by
     have h1:Sl w (λb=>Y b/\b<w.heap.size) a k:=h0.mono λb h1 h2=>⟨h1,h2⟩
     exact(h1.kept λb hx=>hg.block b hx.2 (ae b hx.1)).mono λb hx _=>Ad hx.1
    exact⟨new _ _ (e3 y hy).1,new _ _ (e3 y hy).2⟩
  refine⟨_,w3,by rw[hlen]; exact hr,?_,hg⟩
  have:=hrow.qv
  rw[Cr,e1]at this
  exact this
theorem Yz (b o n pc:Nat) (hn:n+1<=pc) (w':World):Sem.run Tryz.prog (Instr.slice 22 (.slice (some ⟨b,o,none⟩) (n+1) pc) (some (.int .i64 1)) none none) w'=.ok (.slice (if pc=1 then some ⟨b,o,none⟩ else some ⟨b,o+4,none⟩) n (pc-1)) w':=by
 have ae:(1:Int)<=(n:Int)+1:=by omega
 have e1:(1:Int)<=((n+1:Nat):Int):=by omega
 rw[run_slice_l (P:=Tryz.prog) (ht:=Tryz.underlying22) (h0:=by omega) (h1:=e1)]
 by_cases aa:pc=1
 ·subst aa
  simp[go_sem,sliced]
 ·simp[go_sem,sliced,aa]
theorem QV.tail {w:World} {X:Nat->Prop} {b o n pc:Nat} {p:Pr} {l:List Pr} (h:QV w X (.slice (some ⟨b,o,none⟩) n pc) (p::l)):QV w X (.slice (if pc=1 then some ⟨b,o,none⟩ else some ⟨b,o+4,none⟩) l.length (pc-1)) l:=by
 obtain⟨a',c',e,⟨aa,hl2⟩,hq⟩:=h
 simp at e
 obtain⟨rfl,rfl,rfl⟩:=e
 simp only[Bs] at aa hl2
 refine⟨_,_,rfl,⟨by omega,by omega⟩,?_⟩
 by_cases h0:l=[]
 ·exact Ad h0
 ·have hp:0<l.length:=Fb.2 h0
  rcases hq with hq|⟨b',o',e,hX,hq⟩
  ·cases hq
  ·simp at e
   obtain⟨rfl,rfl⟩:=e
   refine Ae ⟨b,o+4,by rw[An (by omega)],hX,λi hi=>?_⟩
   have h7:=hq (i+1) (by simpa using hi)
   simp only[F7] at h7
   rw[show o+(i+1)*4=o+4+i*4 by omega]at h7
   exact h7
theorem QZ {t:List Bd} (ht:∀d∈t,Ak d.nm=true) {x:ByteArray} (hx:Ak x=true):∀l:List Tm,Ah l=0->Au x l->Ab [Ag t ⟨x,[]⟩]<=Ab (Am t l):=by
 intro l
 induction l using Tm.indL with
 |h0=>intro _ ho; obtain⟨k,hk,_⟩:=ho; simp[Ao] at hk
 |h n l r aa ae=>
  intro he ho
  obtain⟨g1,g2,g3⟩:=Gt he
  have af:=EG (Ag t ⟨n,l⟩) (Am t r)
  rw[Ba]
  rcases Dc.1 ho with rfl|ho|ho
  ·have e:=g1 hx
   subst e
   omega
  ·cases hv:Ak n with
   |false=>
    have:=aa g2 ho
    rw[Gu ht hv]at af ⊢
    have e:Ab [(⟨n,Am t l⟩:Tm)]=1+Ab (Am t l):=by simp[Ab]
    omega
   |true=>
    have e:=g1 hv
    subst e
    obtain⟨k,hk,_⟩:=ho
    simp[Ao]at hk
  ·have:=ae g3 ho
   omega
theorem MX {u:Tm} (he:Ah [u]=0) (hv:Ak u.name=true):u=⟨u.name,[]⟩:=by
 obtain⟨n,k⟩:=u
 have:=(Gt he).1 hv
 subst this
 rfl
theorem YA {t:List Bd} {l:List Tm} {x:Tm} (h:x∈l):Ab [Ag t x]<=Ab (Am t l):=by
 induction l with
 |nil=>cases h
 |cons a r ih=>
  have hc:=EG (Ag t a) (Am t r)
  rw[Ba]
  rcases BE.1 h with rfl|h
  ·omega
  ·have:=ih h; omega
inductive FO where
 |go (s:List Bd) (l:List Pr)
 |stop (e:Int)
def E7 (s:List Bd) (x:ByteArray) (t:Tm):FO:=if AF x (At [] (Ao [t]))=true then .stop 6 else .go (Cv s x t) []
def DR (s:List Bd) (a b:Tm):FO:=
 if Ak a.name=true then (if a.name=b.name then .go s [] else E7 s a.name b)
 else if Ak b.name=true then E7 s b.name a
 else if a.name=b.name/\a.args.length=b.args.length then .go s (Ax a.args b.args)
 else .stop 5
inductive FR:List Bd->List Pr->Int->List Bd->Prop
 |done (s:List Bd):FR s [] 0 s
 |step {s s' sf:List Bd} {p:Pr} {l' rest:List Pr} {e:Int}:DR s (Ag s p.l) (Ag s p.r)=.go s' l'->FR s' (l'++rest) e sf->FR s (p::rest) e sf
 |stop {s:List Bd} {p:Pr} {rest:List Pr} {e:Int}:DR s (Ag s p.l) (Ag s p.r)=.stop e->FR s (p::rest) e s
theorem Q5 {s:List Bd} {x:ByteArray} {t:Tm} {e:Int} (h:E7 s x t=.stop e):e=6:=by
 unfold E7 at h
 split at h
 ·cases h; rfl
 ·cases h
theorem YC {s:List Bd} {a b:Tm} {e:Int} (h:DR s a b=.stop e):e≠0:=by
 unfold DR at h
 split at h
 ·split at h
  ·cases h
  ·rw[Q5 h]; decide
 ·split at h
  ·rw[Q5 h]; decide
  ·split at h
   ·cases h
   ·cases h; decide
theorem FR.append_ok {s s':List Bd} {a:List Pr} {e0:Int} (h:FR s a e0 s'):e0=0->∀ {b:List Pr} {e:Int} {sf:List Bd},FR s' b e sf->FR s (a++b) e sf:=by
 induction h with
 |done s=>intro _ b e sf h; exact h
 |step h1 _ ih=>intro h0 b e sf h; exact FR.step h1 (by have h2:=ih h0 h; rw[Gb] at h2; exact h2)
 |stop h1=>intro h0; exact absurd h0 (YC h1)
theorem FR.append_err {s s':List Bd} {a:List Pr} {e:Int} (h:FR s a e s'):e≠0->∀(b:List Pr),FR s (a++b) e s':=by
 induction h with
 |done s=>intro h; exact absurd rfl h
 |step h1 _ ih=>intro h0 b; exact FR.step h1 (by have h2:=ih h0 b; rw[Gb] at h2; exact h2)
 |stop h1=>intro h0 b; exact FR.stop h1
def Fo (s s':List Bd):Prop:=∀L:List Tm,Ah L=0->Am s' (Am s L)=Am s' L
theorem Fo.T {s s':List Bd} (h:Fo s s') {t:Tm} (he:Ah [t]=0):Ag s' (Ag s t)=Ag s' t:=by
 have h1:=h [t] he
 rw[Ba,Ba,Ba]at h1
 injection h1
theorem Qa0 {s:List Bd} (h:Bv s):Fo s s:=λL he=>h.idem he
theorem Fo.trans {s s' aa:List Bd} (hs:Bv s) (h:Fo s s') (k:Fo s' aa):Fo s aa:=λL he=>by
 rw[<-k (Am s L) (Ht hs L he),h L he,k L he]
theorem YD {s s':List Bd} {x:ByteArray} {t:Tm} {l':List Pr} (hs:Bv s) (hx:Ak x=true) (hn:∀d∈s,d.nm≠x) (he:Ah [t]=0) (ht:∀e∈s,¬Au e.nm [t]) (h:E7 s x t=.go s' l'):s'=Cv s x t/\l'=[]/\¬Au x [t]/\Bv s'/\Fo s s':=by
 unfold E7 at h
 split at h
 ·cases h
 ·rename_i ho
  cases h
  have h1:=IE hx ho
  have h2:=hs.add hx hn he ht h1
  refine⟨rfl,rfl,h1,h2,λL hL=>?_⟩
  rw[ID hs hx hn h2 _ (Ht hs L hL),ID hs hx hn h2 L hL,hs.idem hL]
def Q6 (s s':List Bd) (a b:Tm) (l':List Pr):Prop:=
 Bv s'/\Fo s s'/\Ah (Aw l')=0/\(∀V:List ByteArray,(∀d∈s,d.nm∈V)->(∀y,Ak y=true->(Au y [a]∨Au y [b])->y∈V)->(∀d∈s',d.nm∈V))/\
  (∀L,Ah L=0->∀y,Ak y=true->Au y (Am s' L)->Au y (Am s L)∨Au y [a]∨Au y [b])/\
  (l'=[]∨(s'=s/\Ak a.name=false/\Ak b.name=false/\l'=Ax a.args b.args))
theorem Q7 {s s':List Bd} {a b:Tm} {l':List Pr} (hs:Bv s) (ha:Ah [a]=0) (hb:Ah [b]=0) (aa:∀e∈s,¬Au e.nm [a]) (ae:∀e∈s,¬Au e.nm [b]) (h:DR s a b=.go s' l'):Q6 s s' a b l':=by
 have bind:∀x t,Ak x=true->(∀d∈s,d.nm≠x)->Ah [t]=0->(∀e∈s,¬Au e.nm [t])->(Au x [a]∨Au x [b])->(∀y,Au y [t]->Au y [a]∨Au y [b])->E7 s x t=.go s' l'->Q6 s s' a b l':=λx t hx hn he ht af ag h=>by
  obtain⟨rfl,rfl,h3,h4,h5⟩:=YD hs hx hn he ht h
  refine⟨h4,h5,by simp[Aw,Ah],λV h6 h7 d hd=>?_,λL hL y hy ho=>?_,Ad rfl⟩
  ·have h8:=(EC (s.map (Bo x t)++[⟨x,t⟩])).subset hd
   rcases Bg.1 h8 with h8|h8
   ·obtain⟨d',ah,rfl⟩:=Cj.1 h8
    exact h6 d' ah
   ·have e:d=⟨x,t⟩:=by simpa using h8
    rw[e]
    exact h7 x hx af
  ·exact((Kw hs hx hn he ht h3 hL).2.1 y hy ho).imp id (ag y)
 unfold DR at h
 split at h
 ·rename_i hva
  split at h
  ·cases h
   exact⟨hs,Qa0 hs,by simp[Aw,Ah],λV h6 _=>h6,λL hL y hy ho=>Ad ho,Ad rfl⟩
  ·exact bind a.name b hva (λd hd e=>aa d hd (by rw[e]; exact G0 a)) hb ae (Ad (G0 a)) (λy h=>Ae h) h
 ·rename_i hva
  split at h
  ·rename_i hvb
   exact bind b.name a hvb (λd hd e=>ae d hd (by rw[e]; exact G0 b)) ha aa (Ae (G0 b)) (λy h=>Ad h) h
  ·rename_i hvb
   split at h
   ·cases h
    exact⟨hs,Qa0 hs,Hv (Fm ha) (Fm hb),λV h6 _=>h6,λL hL y hy ho=>Ad ho,Ae ⟨rfl,by simpa using hva,by simpa using hvb,rfl⟩⟩
   ·cases h
theorem MY {s:List Bd} {rest:List Pr} {a b:Tm} (ha:Ab [a]<=2000) (hb:Ab [b]<=2000):Bf false s rest a b=match DR s a b with
  | .go s' l'=>.go s' (l'++rest)
  | .stop e=>.stop e s:=by
 have bind:∀x t,CB false s rest x t=match E7 s x t with
   | .go s' l'=>.go s' (l'++rest)
   | .stop e=>.stop e s:=λx t=>by
  unfold CB E7
  by_cases h:AF x (At [] (Ao [t]))=true
  ·rw[As h,As h]
  ·rw[An h,An h,An (by simp)]; rfl
 unfold Bf DR
 rw[An (by omega)]
 by_cases h1:Ak a.name=true
 ·rw[As h1,As h1]
  by_cases h2:a.name=b.name
  ·rw[As h2,As h2]; rfl
  ·rw[An h2,An h2]; exact bind _ _
 ·rw[An h1,An h1]
  by_cases h2:Ak b.name=true
  ·rw[As h2,As h2]; exact bind _ _
  ·rw[An h2,An h2]
   by_cases h3:a.name=b.name/\a.args.length=b.args.length
   ·rw[As h3,As h3]
   ·rw[An h3,An h3]
theorem YE:∀ {a b:List Tm} {p:Pr},p∈Ax a b->p.l∈a/\p.r∈b:=@KE
theorem Q8 {sf:List Bd} (hf:Bv sf) {u x:Tm} (hv:Ak u.name=false) (hx:x∈u.args):Ab [Ag sf x]<=Ab [Ag sf u]:=by
 obtain⟨n,l⟩:=u
 rw[Gu hf.vars hv]
 have h1:=YA (t:=sf) hx
 have h2:=IK ⟨n,Am sf l⟩
 simp only at h1 h2
 show Ab [Ag sf x]<=Ab [⟨n,Am sf l⟩]
 omega
theorem FR.run {s sf:List Bd} {l:List Pr} {e:Int} (h:FR s l e sf):Bv s->Ah (Aw l)=0->(Bv sf/\Fo s sf)/\((∀p∈l,Ab [Ag sf p.l]<=2000/\Ab [Ag sf p.r]<=2000)->∃n,AQ false n s l=some (e,sf))/\
  (∀V:List ByteArray,(∀d∈s,d.nm∈V)->(∀y,Ak y=true->Au y (Am s (Aw l))->y∈V)->∀d∈sf,d.nm∈V):=by
 induction h with
 |done s=>intro hs _; exact⟨⟨hs,Qa0 hs⟩,λ_=>⟨1,rfl⟩,λV h _=>h⟩
 | @step s s' sf p l' rest e h1 h2 ih=>
  intro hs he
  obtain⟨e1,e2⟩:=Cp.1 he
  obtain⟨e2,e3⟩:=Cp.1 e2
  have ea:=Ed hs e1
  have eb:=Ed hs e2
  obtain⟨g1,g2,g3,g4,g5,g6⟩:=Q7 hs ea eb (hs.goneT e1) (hs.goneT e2) h1
  have aa:Ah (Aw (l'++rest))=0:=by rw[FX]; exact GY.2 ⟨g3,e3⟩
  obtain⟨⟨i1,i2⟩,i3,i4⟩:=ih g1 aa
  have hab:Fo s sf:=g2.trans hs i2
  refine⟨⟨i1,hab⟩,λhz=>?_,λV h6 h7=>i4 V (g4 V h6 λy hy ho=>h7 y hy ?_) λy hy ho=>?_⟩
  ·have za:=(hz p (by simp)).1
   have zb:=(hz p (by simp)).2
   have ya:Ab [Ag s p.l]<=2000:=by
    have:=LO sf (Ag s p.l)
    rw[hab.T e1]at this
    omega
   have yb:Ab [Ag s p.r]<=2000:=by
    have:=LO sf (Ag s p.r)
    rw[hab.T e2]at this
    omega
   obtain⟨n,hn⟩:=i3 λp' hp'=>by
    rcases Bg.1 hp' with hp'|hp'
    ·rcases g6 with g6|⟨rfl,va,vb,g6⟩
     ·rw[g6]at hp'; cases hp'
     ·rw[g6]at hp'
      obtain⟨m1,m2⟩:=YE hp'
      have z1:=Q8 i1 va m1
      have z2:=Q8 i1 vb m2
      rw[hab.T e1]at z1
      rw[hab.T e2]at z2
      omega
    ·exact hz p' (by simp[hp'])
   refine⟨n+1,?_⟩
   rw[AQ,ES,MY ya yb,h1]
   exact hn
  ·rw[Aw,Ba,Ba]
   rcases ho with ho|ho
   ·exact BM.2 (Ad ho)
   ·exact BM.2 (Ae (BM.2 (Ad ho)))
  ·refine h7 y hy ?_
   rw[Aw,Ba,Ba]
   rw[FX,Hk]at ho
   have fin:Au y (Am s (Aw rest))∨Au y [Ag s p.l]∨Au y [Ag s p.r]:=by
    rcases Ku.1 ho with ho|ho
    ·rcases g6 with g6|⟨gs,va,vb,g6⟩
     ·rw[g6]at ho; simp only[Aw,Am] at ho; exact absurd ho Fk
     ·rw[g6,gs]at ho
      have e6:Am s (Aw (Ax (Ag s p.l).args (Ag s p.r).args))=Aw (Ax (Ag s p.l).args (Ag s p.r).args):=GX _ λd hd hoc=>by
       rcases Hu hoc with hoc|hoc
       ·exact hs.goneT e1 d hd (F2 hoc)
       ·exact hs.goneT e2 d hd (F2 hoc)
      rw[e6]at ho
      rcases Hu ho with ho|ho
      ·exact Ae (Ad (F2 ho))
      ·exact Ae (Ae (F2 ho))
    ·exact g5 _ e3 y hy ho
   rcases fin with ho|ho|ho
   ·exact BM.2 (Ae (BM.2 (Ae ho)))
   ·exact BM.2 (Ad ho)
   ·exact BM.2 (Ae (BM.2 (Ad ho)))
 | @stop s p rest e h1=>
  intro hs he
  obtain⟨e1,e2⟩:=Cp.1 he
  obtain⟨e2,e3⟩:=Cp.1 e2
  refine⟨⟨hs,Qa0 hs⟩,λhz=>⟨1,?_⟩,λV h _=>h⟩
  rw[AQ,ES,MY (hz p (by simp)).1 (hz p (by simp)).2,h1]
theorem Q9 {y:ByteArray}:∀ {l:List Pr},Au y (Aw l)->∃p∈l,Au y [p.l]∨Au y [p.r]
 | [],h=>absurd h Fk
 |p::r,h=>by
  rw[Aw]at h
  rcases BM.1 h with h|h
  ·exact⟨p,by simp,Ad h⟩
  ·rcases BM.1 h with h|h
   ·exact⟨p,by simp,Ae h⟩
   ·obtain⟨q,hq,h⟩:=Q9 h
    exact⟨q,by simp[hq],h⟩
theorem KN:∀ {l:List Pr},Ah (Aw l)=0->∀p∈l,Ah [p.l]=0/\Ah [p.r]=0
 | [],_,p,hp=>by cases hp
 |q::r,h,p,hp=>by
  rw[Aw]at h
  obtain⟨e1,e2⟩:=Cp.1 h
  obtain⟨e2,e3⟩:=Cp.1 e2
  rcases BE.1 hp with rfl|hp
  ·exact⟨e1,e2⟩
  ·exact KN e3 p hp
theorem FR.ends {sf:List Bd} {l:List Pr} {e:Int} (h:FR [] l e sf) (he:Ah (Aw l)=0) (hz:∀p∈l,Ab [Ag sf p.l]<=2000/\Ab [Ag sf p.r]<=2000):(∃n,AQ false n [] l=some (e,sf))/\AD sf=false:=by
 obtain⟨⟨h1,h2⟩,h3,h4⟩:=h.run IB he
 refine⟨h3 hz,?_⟩
 have h5:=h4 ((Ao (Aw l)).map (·.name)) (by simp) (λy hy ho=>by
  rw[GX _ (by simp)]at ho
  obtain⟨k,hk,rfl⟩:=ho
  exact Cj.2 ⟨k,hk,rfl⟩)
 unfold AD
 rw[I4]
 intro hg
 rw[D7]at hg
 obtain⟨d,hd,hgd⟩:=hg
 simp only[decide_eq_true_eq] at hgd
 obtain⟨k,hk,ek⟩:=Cj.1 (h5 d hd)
 obtain⟨p,hp,ho⟩:=Q9 (y:=d.nm) ⟨k,hk,ek⟩
 have hv:=h1.vars d hd
 have ed:Ag sf ⟨d.nm,[]⟩=d.t:=by rw[Fz,Kq h1.1 hd]; rfl
 obtain⟨e1,e2⟩:=KN he p hp
 have aa:=hz p hp
 rcases ho with ho|ho
 ·have h6:=QZ h1.vars hv [p.l] e1 ho
  rw[Ba,ed]at h6
  simp only[Am] at h6
  omega
 ·have h6:=QZ h1.vars hv [p.r] e2 ho
  rw[Ba,ed]at h6
  simp only[Am] at h6
  omega
def DS (s:List Bd) (l k:List Pr):Prop:=l.map (λp=>(Ag s p.l,Ag s p.r))=k.map (λp=>(Ag s p.l,Ag s p.r))
theorem DS.later {s s':List Bd} (ha:Fo s s'):∀ {l k:List Pr},Ah (Aw l)=0->Ah (Aw k)=0->DS s l k->DS s' l k
 | [],[],_,_,_=>rfl
 | [],_::_,_,_,h=>by simp[DS] at h
 |_::_,[],_,_,h=>by simp[DS] at h
 |p::l,q::k,hl,hk,h=>by
  unfold DS at h
  rw[BP,BP]at h
  injection h with h1 h2
  injection h1 with h3 h4
  obtain⟨e1,e2⟩:=Cp.1 hl
  obtain⟨e2,e3⟩:=Cp.1 e2
  obtain⟨f1,f2⟩:=Cp.1 hk
  obtain⟨f2,f3⟩:=Cp.1 f2
  have h5:DS s' l k:=DS.later ha e3 f3 h2
  unfold DS
  rw[BP,BP,h5,<-ha.T e1,<-ha.T e2,<-ha.T f1,<-ha.T f2,h3,h4]
theorem FR.congr {s sf:List Bd} {l:List Pr} {e:Int} (h:FR s l e sf):∀ {k:List Pr},Bv s->Ah (Aw l)=0->Ah (Aw k)=0->DS s l k->FR s k e sf:=by
 induction h with
 |done s=>
  intro k _ _ _ hk
  cases k with
  |nil=>exact FR.done s
  |cons q k=>simp[DS] at hk
 | @step s s' sf p l' rest e h1 h2 ih=>
  intro k hs he hk h
  cases k with
  |nil=>simp[DS] at h
  |cons q k=>
   unfold DS at h
   rw[BP,BP]at h
   injection h with h3 h4
   injection h3 with h5 h6
   obtain⟨e1,e2⟩:=Cp.1 he
   obtain⟨e2,e3⟩:=Cp.1 e2
   obtain⟨f1,f2⟩:=Cp.1 hk
   obtain⟨f2,f3⟩:=Cp.1 f2
   obtain⟨g1,g2,g3,_⟩:=Q7 hs (Ed hs e1) (Ed hs e2) (hs.goneT e1) (hs.goneT e2) h1
   refine FR.step (by rw[<-h5,<-h6]; exact h1) (ih g1 (by rw[FX]; exact GY.2 ⟨g3,e3⟩) (by rw[FX]; exact GY.2 ⟨g3,f3⟩) ?_)
   have h7:DS s' rest k:=DS.later g2 e3 f3 h4
   unfold DS at h7 ⊢
   rw[Cr,Cr,h7]
 | @stop s p rest e h1=>
  intro k hs he hk h
  cases k with
  |nil=>simp[DS] at h
  |cons q k=>
   unfold DS at h
   rw[BP,BP]at h
   injection h with h3 h4
   injection h3 with h5 h6
   exact FR.stop (by rw[<-h5,<-h6]; exact h1)
structure Zp where
 nm:ByteArray
 t:Tm
 b:Nat
 o:Nat
def CD (Z:List Zp) (s:List Bd):Prop:=Bv s/\(∀z∈Z,Ak z.nm=true/\Ah [z.t]=0/\Ag s ⟨z.nm,[]⟩=Ag s z.t)/\(∀d∈s,∃z∈Z,z.nm=d.nm)/\∀z∈Z,∃d∈s,d.nm=z.nm
theorem YF:CD [] []:=⟨IB,by simp,by simp,by simp⟩
theorem CD.unbound {Z:List Zp} {s:List Bd} (h:CD Z s) {n:ByteArray} (hn:∀z∈Z,z.nm≠n):∀d∈s,d.nm≠n:=λd hd e=>by
 obtain⟨z,hz,e2⟩:=h.2.2.1 d hd
 exact hn z hz (e2.trans e)
theorem CD.fresh {Z:List Zp} {s:List Bd} (h:CD Z s) {n:ByteArray} (hn:∀d∈s,d.nm≠n):∀z∈Z,z.nm≠n:=λz hz e=>by
 obtain⟨d,hd,e2⟩:=h.2.2.2 z hz
 exact hn d hd (e2.trans e)
theorem CD.errs {Z:List Zp} {s:List Bd} (h:CD Z s):∀z∈Z,Ah [z.t]=0:=λz hz=>(h.2.1 z hz).2.1
theorem CD.stands {Z:List Zp} {s:List Bd} (h:CD Z s) {t:Tm} (he:Ah [t]=0) (hv:Ak t.name=true) {z:Zp} (hz:z∈Z) (hn:z.nm=t.name):Ag s z.t=Ag s t:=by
 rw[MX he hv,<-hn]
 exact(h.2.1 z hz).2.2.symm
def Ef (s:List Bd) (t:Tm):Prop:=Ah [t]=0/\(Ak t.name=true->∀d∈s,d.nm≠t.name)
theorem Ra {s:List Bd} {n:ByteArray} (h:∀d∈s,d.nm≠n):Ar s n=none:=by
 induction s with
 |nil=>rfl
 |cons d r ih=>rw[Ar,An (h d (by simp))]; exact ih λe he=>h e (by simp[he])
theorem Ef.var {s:List Bd} {t:Tm} (h:Ef s t) (hv:Ak t.name=true):Ag s t=⟨t.name,[]⟩:=by
 rw[MX h.1 hv,Fz,Ra (h.2 hv)]
 rfl
theorem IP {s:List Bd} (hs:Bv s) {t:Tm} (hv:Ak t.name=false):Ag s t=⟨t.name,Am s t.args⟩:=by
 obtain⟨n,l⟩:=t
 exact Gu hs.vars hv l
theorem Ef.name {s:List Bd} (hs:Bv s) {t:Tm} (h:Ef s t):(Ag s t).name=t.name:=by
 cases hv:Ak t.name with
 |true=>rw[h.var hv]
 |false=>rw[IP hs hv]
theorem MZ (s:List Bd):∀l:List Tm,(Am s l).length=l.length
 | []=>by simp[Am]
 |t::r=>by rw[Ba,Bs,MZ s r,Bs]
theorem CD.add {Z:List Zp} {s:List Bd} (h:CD Z s) {x:ByteArray} {t:Tm} (hx:Ak x=true) (hn:∀d∈s,d.nm≠x) (he:Ah [t]=0) (ho:¬Au x [Ag s t]) (b o:Nat):CD (Z++[⟨x,t,b,o⟩]) (Cv s x (Ag s t)):=by
 have hs:=h.1
 have eu:=Ed hs he
 have h1:=hs.add hx hn eu (hs.goneT he) ho
 have aa:∀y,Ah [y]=0->Ag (Cv s x (Ag s t)) y=Ag [⟨x,Ag s t⟩] (Ag s y):=λy hy=>by
  have h2:=ID hs hx hn h1 [y] hy
  rw[Ba,Ba,Ba]at h2
  injection h2
 refine⟨h1,λz hz=>?_,λd hd=>?_,λz hz=>?_⟩
 ·rcases Bg.1 hz with hz|hz
  ·obtain⟨g1,g2,g3⟩:=h.2.1 z hz
   exact⟨g1,g2,by rw[Kv hs.1 hn,g3,aa _ g2]⟩
  ·have e:z=⟨x,t,b,o⟩:=by simpa using hz
   subst e
   refine⟨hx,he,?_⟩
   show Ag (Cv s x (Ag s t)) ⟨x,[]⟩=Ag (Cv s x (Ag s t)) t
   rw[Kv hs.1 hn,aa t he,Fz s x,Ra hn,Jv (s:=[⟨x,Ag s t⟩]) (t:=Ag s t) (λd hd=>by
    have e:d=⟨x,Ag s t⟩:=by simpa using hd
    rw[e]; exact ho)]
   simp[Fz,Ar]
 ·have h8:=(EC (s.map (Bo x (Ag s t))++[⟨x,Ag s t⟩])).subset hd
  rcases Bg.1 h8 with h8|h8
  ·obtain⟨d',af,rfl⟩:=Cj.1 h8
   obtain⟨z,hz,e⟩:=h.2.2.1 d' af
   exact⟨z,by simp[hz],e⟩
  ·have e:d=⟨x,Ag s t⟩:=by simpa using h8
   exact⟨⟨x,t,b,o⟩,by simp,by rw[e]⟩
 ·have ae:∀d,d∈s.map (Bo x (Ag s t))++[⟨x,Ag s t⟩]->d∈Cv s x (Ag s t):=λd hd=>(EC _).symm.subset hd
  rcases Bg.1 hz with hz|hz
  ·obtain⟨d,hd,e⟩:=h.2.2.2 z hz
   exact⟨Bo x (Ag s t) d,ae _ (List.mem_append_left _ (Cj.2 ⟨d,hd,rfl⟩)),e⟩
  ·have e:z=⟨x,t,b,o⟩:=by simpa using hz
   exact⟨⟨x,Ag s t⟩,ae _ (by simp),by rw[e]⟩
theorem Rb {x:ByteArray} {t:Tm} (hx:Ak x=true) (h:Au x [t]):AF x (At [] (Ao [t]))=true:=by
 by_cases hi:AF x (At [] (Ao [t]))=true
 ·exact hi
 ·exact absurd h (IE hx hi)
theorem Rc {x:ByteArray} {t:Tm} (h:¬Au x [t]):¬AF x (At [] (Ao [t]))=true:=λhi=>by
 unfold AF at hi
 rw[D7]at hi
 obtain⟨n,hn,e⟩:=hi
 rcases Kr _ _ _ hn with hn|⟨k,hk,e2,_⟩
 ·cases hn
 ·exact h ⟨k,hk,by rw[e2]; first|exact(Ej (by simpa using e)).symm|exact Ej (by simpa using e)⟩
theorem YG {s:List Bd} {a b a' b':Tm} (hs:Bv s) (ha:Ag s a'=Ag s a) (hb:Ag s b'=Ag s b) (fa:Ef s a') (fb:Ef s b') (hv:Ak a'.name=true) (hn:b'.name=a'.name):FR s [⟨a,b⟩] 0 s:=by
 refine FR.step (s':=s) (l':=[]) ?_ (FR.done s)
 show DR s (Ag s a) (Ag s b)=_
 rw[<-ha,<-hb]
 unfold DR
 rw[fa.name hs,fb.name hs,As hv,As hn.symm]
theorem Re {s:List Bd} {a b a' b':Tm} (hs:Bv s) (ha:Ag s a'=Ag s a) (hb:Ag s b'=Ag s b) (fa:Ef s a') (fb:Ef s b') (h:(Ak a'.name=true/\b'.name≠a'.name/\Au a'.name [Ag s b'])∨(Ak a'.name=false/\Ak b'.name=true/\Au b'.name [Ag s a'])):FR s [⟨a,b⟩] 6 s:=by
 refine FR.stop ?_
 show DR s (Ag s a) (Ag s b)=_
 rw[<-ha,<-hb]
 unfold DR
 rw[fa.name hs,fb.name hs]
 rcases h with ⟨h1,h2,h3⟩|⟨h1,h2,h3⟩
 ·rw[As h1,An (D6 h2)]
  unfold E7
  rw[As (Rb h1 h3)]
 ·rw[An (by rw[h1]; simp),As h2]
  unfold E7
  rw[As (Rb h2 h3)]
theorem Rf {s:List Bd} {a b a' b':Tm} (hs:Bv s) (ha:Ag s a'=Ag s a) (hb:Ag s b'=Ag s b) (fa:Ef s a') (fb:Ef s b') {x:ByteArray} {u:Tm} (h:(Ak a'.name=true/\b'.name≠a'.name/\x=a'.name/\u=b')∨(Ak a'.name=false/\Ak b'.name=true/\x=b'.name/\u=a')) (ho:¬Au x [Ag s u]):FR s [⟨a,b⟩] 0 (Cv s x (Ag s u)):=by
 refine FR.step (s':=Cv s x (Ag s u)) (l':=[]) ?_ (FR.done _)
 show DR s (Ag s a) (Ag s b)=_
 rw[<-ha,<-hb]
 unfold DR
 rw[fa.name hs,fb.name hs]
 rcases h with ⟨h1,h2,rfl,rfl⟩|⟨h1,h2,rfl,rfl⟩
 ·rw[As h1,An (D6 h2)]
  unfold E7
  rw[An (Rc ho)]
 ·rw[An (by rw[h1]; simp),As h2]
  unfold E7
  rw[An (Rc ho)]
theorem Rg {s:List Bd} {a b a' b':Tm} (hs:Bv s) (ha:Ag s a'=Ag s a) (hb:Ag s b'=Ag s b) (va:Ak a'.name=false) (vb:Ak b'.name=false) (h:¬(a'.name=b'.name/\a'.args.length=b'.args.length)):FR s [⟨a,b⟩] 5 s:=by
 refine FR.stop ?_
 show DR s (Ag s a) (Ag s b)=_
 rw[<-ha,<-hb,IP hs va,IP hs vb]
 unfold DR
 rw[An (by rw[va]; simp),An (by rw[vb]; simp),An (by simpa [MZ] using h)]
theorem Rh (s:List Bd):∀(a b:List Tm),(Ax (Am s a) (Am s b))=(Ax a b).map λp=>⟨Ag s p.l,Ag s p.r⟩
 | [],_=>by simp[Am,Ax]
 |_::_,[]=>by simp[Am,Ba,Ax]
 |x::a,y::b=>by rw[Ba,Ba,Ax,Ax,Rh s a b]; rfl
theorem Ri {s sf:List Bd} {a b a' b':Tm} {e:Int} (hs:Bv s) (ha:Ag s a'=Ag s a) (hb:Ag s b'=Ag s b) (ea:Ah [a']=0) (eb:Ah [b']=0) (va:Ak a'.name=false) (vb:Ak b'.name=false) (hn:a'.name=b'.name) (hl:a'.args.length=b'.args.length) (h:FR s (Ax a'.args b'.args) e sf):FR s [⟨a,b⟩] e sf:=by
 refine FR.step (s':=s) (l':=Ax (Am s a'.args) (Am s b'.args)) ?_ ?_
 ·show DR s (Ag s a) (Ag s b)=_
  rw[<-ha,<-hb,IP hs va,IP hs vb]
  unfold DR
  rw[An (by rw[va]; simp),An (by rw[vb]; simp),As (by simpa [MZ] using⟨hn,hl⟩)]
 ·rw[List.append_nil]
  have e1:=Hv (Fm ea) (Fm eb)
  have e2:Ah (Aw (Ax (Am s a'.args) (Am s b'.args)))=0:=Hv (Ht hs _ (Fm ea)) (Ht hs _ (Fm eb))
  refine h.congr hs e1 e2 ?_
  unfold DS
  rw[Rh,List.map_map]
  refine List.map_congr_left λp hp=>?_
  obtain⟨f1,f2⟩:=KN e1 p hp
  show(Ag s p.l,Ag s p.r)=(Ag s (Ag s p.l),Ag s (Ag s p.r))
  rw[(Qa0 hs).T f1,(Qa0 hs).T f2]
theorem Rj:∀ {a b:List Tm} {k:Nat} (h:k<a.length) (h2:k<b.length),Ax (a.take (k+1)) (b.take (k+1))=Ax (a.take k) (b.take k)++[⟨a[k],b[k]⟩]
 |x::a,y::b,0,_,_=>by simp[Ax]
 |x::a,y::b,k+1,h,h2=>by
  rw[F8,F8,Ax,Rj (k:=k) (by simpa using h) (by simpa using h2)]
  rfl
theorem Rk:∀(a b:List Tm) (k:Nat),Ax a b=Ax (a.take k) (b.take k)++Ax (a.drop k) (b.drop k)
 |a,b,0=>by simp[Ax]
 | [],b,k+1=>by simp[Ax]
 |x::a,[],k+1=>by simp[Ax]
 |x::a,y::b,k+1=>by
  rw[F8,F8,Lv,Lv,Ax,Ax,Rk a b k]
  rfl
theorem Rl {s s' sf:List Bd} {a b:List Tm} {k:Nat} {e:Int} (h:k<a.length) (h2:k<b.length) (h0:FR s (Ax (a.take k) (b.take k)) 0 s') (h1:FR s' [⟨a[k],b[k]⟩] e sf):FR s (Ax (a.take (k+1)) (b.take (k+1))) e sf:=by
 rw[Rj h h2]
 exact h0.append_ok rfl h1
theorem YH {s sf:List Bd} {a b:List Tm} (k:Nat) {e:Int} (he:e≠0) (h:FR s (Ax (a.take k) (b.take k)) e sf):FR s (Ax a b) e sf:=by
 rw[Rk a b k]
 exact h.append_err he _
theorem Rm {s s' sf:List Bd} {l:List Pr} {k:Nat} {e:Int} (h:k<l.length) (h0:FR s (l.take k) 0 s') (h1:FR s' [⟨l[k].l,l[k].r⟩] e sf):FR s (l.take (k+1)) e sf:=by
 rw[Bm h]
 exact h0.append_ok rfl h1
theorem YI {s sf:List Bd} {l:List Pr} (k:Nat) {e:Int} (he:e≠0) (h:FR s (l.take k) e sf):FR s l e sf:=by
 have h1:=h.append_err he (l.drop k)
 rwa [Eu] at h1
def DA (w:World) (X:Nat->Prop) (b o:Nat) (t:Tm):Prop:=EF w X b o t/\X b
theorem DA.exq {w w':World} {X Q:Nat->Prop} {b o:Nat} {t:Tm} (h:DA w X b o t) (he:Al Q w w') (hX:∀b,X b->¬Q b):DA w' X b o t:=by
 obtain⟨⟨a,c,h1,h2,h3,h4⟩,h5⟩:=h
 have e:=he.block b h4 (hX b h5)
 exact⟨⟨a,c,(CM e).trans h1,(CM e).trans h2,h3.exq he hX,Do h4 he.size⟩,h5⟩
theorem DA.sub {w:World} {X:Nat->Prop} {b o:Nat} {t:Tm} (h:DA w X b o t):∃a c,w.cell? ⟨b,o+1,none⟩=some (.slice a t.args.length c)/\t.args.length<=9223372036854775807/\∀k (hk:k<t.args.length),∃b' o',a=some ⟨b',o',none⟩/\DA w X b' (o'+k*2) t.args[k]:=by
 obtain⟨⟨a,c,h1,h2,h3,h4⟩,_⟩:=h
 refine⟨a,c,h2,h3.1,λk hk=>?_⟩
 obtain⟨b',o',a',c',rfl,d0,d1,hx⟩:=h3.get (Af _ _) (λ_ _ h=>h) k hk
 obtain⟨a2,c2,e2,hx⟩:=hx
 cases e2
 have hX:X b':=by
  obtain⟨_,h1⟩:=h3
  rcases h1 with h1|⟨b2,o2,e',h1⟩
  ·rw[h1]at hk; simp at hk
  ·cases e'; exact(FQ _ _ _ h1 k hk).1
 exact⟨b',o',rfl,⟨a',c',d0,d1,hx,D9 d0⟩,hX⟩
def GA (z:Zp):ByteArray×Value:=(z.nm,.pointer (some ⟨z.b,z.o,none⟩))
def CI (w:World) (S q:Nat) (X:Nat->Prop) (Z:List Zp) (left:Int):Prop:=
 Ac w S #[.map (some q),.int .i64 left] 130/\Bl w q (Z.map GA)/\(∀z∈Z,DA w X z.b z.o z.t)/\∀b,X b->b≠S/\b≠q
def Cq (S q:Nat):Nat->Prop:=λb=>b=S∨b=q
theorem CI.ne {w:World} {S q:Nat} {X:Nat->Prop} {Z:List Zp} {left:Int} (h:CI w S q X Z left):S≠q:=λe=>by
 obtain⟨es,aa,h1,_⟩:=h.2.1
 have h2:=h.1
 unfold Ac at h2
 rw[e,h1]at h2; cases h2
theorem CI.X {w:World} {S q:Nat} {X:Nat->Prop} {Z:List Zp} {left:Int} (h:CI w S q X Z left):∀b,X b->¬Cq S q b:=λb hb hq=>by
 rcases hq with e|e
 ·exact(h.2.2.2 b hb).1 e
 ·exact(h.2.2.2 b hb).2 e
theorem CI.later {w w':World} {S q:Nat} {X:Nat->Prop} {Z:List Zp} {left:Int} (h:CI w S q X Z left) (hb:Below w.heap.size w w'):CI w' S q X Z left:=
 ⟨h.1.below hb h.1.lt,h.2.1.below hb h.2.1.lt,λz hz=>(h.2.2.1 z hz).exq (Al.ofBelow (Q:=Cq S q) hb) h.X,h.2.2.2⟩
theorem CI.spend {w:World} {S q:Nat} {X:Nat->Prop} {Z:List Zp} {left:Int} (h:CI w S q X Z left) (n:Int):CI (w.setCell ⟨S,1,none⟩ (.int .i64 n)) S q X Z n:=
 ⟨by have:=h.1.set 1 (.int .i64 n); simpa using this,h.2.1.kept (Aq _ _ _ _ (by simpa using h.ne.symm)),λz hz=>(h.2.2.1 z hz).exq ((Al.refl (Cq S q) w).set (Ad rfl) 1 _) h.X,h.2.2.2⟩
theorem Ro {Z:List Zp} {n:ByteArray}:(Bb (Z.map GA) n=none/\∀z∈Z,z.nm≠n)∨∃z∈Z,z.nm=n/\Bb (Z.map GA) n=some (.pointer (some ⟨z.b,z.o,none⟩)):=by
 induction Z with
 |nil=>exact Ad ⟨rfl,by simp⟩
 |cons y r ih=>
  by_cases hn:y.nm=n
  ·exact Ae ⟨y,by simp,hn,by simp[Bb,GA,hn]⟩
  ·rcases ih with ⟨h1,h2⟩|⟨z,hz,h1,h2⟩
   ·refine Ad ⟨by rw[BP,Bb,An (by simpa [GA] using hn)]; exact h1,λz hz=>?_⟩
    rcases BE.1 hz with rfl|hz
    ·exact hn
    ·exact h2 z hz
   ·exact Ae ⟨z,by simp[hz],h1,by rw[BP,Bb,An (by simpa [GA] using hn)]; exact h2⟩
def YJ (w:World) (S q:Nat) (X:Nat->Prop) (Z:List Zp) (left:Int) (t:Tm) (e:Ending) (w':World):Prop:=
 ∃(b o:Nat) (t':Tm) (n:Int),e=.returned (.pointer (some ⟨b,o,none⟩))/\CI w' S q X Z n/\DA w' X b o t'/\Al (Cq S q) w w'/\n<=left/\(-1<=n∨n=left)/\Ah [t']=0/\∀s,CD Z s->Ag s t'=Ag s t/\(0<=n->Ef s t')
def YK (w:World) (S q:Nat) (X:Nat->Prop) (Z:List Zp) (left:Int) (t:Tm) (g:Nat) (tv:Value) (wr:World):Prop:=
 ∃(b o:Nat) (t':Tm) (n:Int),g=(n+1).toNat/\tv=.pointer (some ⟨b,o,none⟩)/\CI wr S q X Z n/\DA wr X b o t'/\Al (Cq S q) w wr/\n<=left/\(-1<=n∨n=left)/\Ah [t']=0/\∀s,CD Z s->Ag s t'=Ag s t
theorem KO (S q:Nat) (X:Nat->Prop) (Z:List Zp) (hZ:∀z∈Z,Ah [z.t]=0) (left:Int) (t:Tm) (b o:Nat) (w:World) (hS:CI w S q X Z left) (hl:-100<=left) (hl2:left<=100000) (ht:DA w X b o t) (he:Ah [t]=0):
  Calls Tryz.prog 114 #[.pointer (some ⟨S,0,none⟩),.pointer (some ⟨b,o,none⟩)] w λe w'=>YJ w S q X Z left t e w':=by
 have HS:=Aa hS
 have HT:=Aa ht
 have HE:=Aa he
 clear hS ht
 go_enter Tryz.func114,Tryz.ntmps114
 go_wp2_with fail
 go_loopg [1] (left+1).toNat (λg tv wr=>YK w S q X Z left t g tv wr)
 case atStart=>exact⟨b,o,t,left,rfl,rfl,HS.out,HT.out,Al.refl _ _,Int.le_refl _,Ae rfl,HE.out,λ_ _=>rfl⟩
 case round=>
  obtain⟨b1,o1,t1,n,rfl,rfl,af,ao,aq,ai,aj,ae,ar⟩:=hrel
  have aa:=Aa af
  have ak:=Aa ao
  have ag:=Aa aq
  have ah:=Aa ar
  have s1:wr.cell? ⟨S,1,none⟩=some (.int .i64 n):=af.1.cell 1
  have s0:=af.1.c0
  obtain⟨⟨a1,c1,p0,p1,a6,a7⟩,a8⟩:=ao
  clear af aq ar
  by_cases aA:0<=n
  ·cases hvb:Ak t1.name with
   |false=>
    have HF:Hid (∀s,CD Z s->Ag s t1=Ag s t/\(0<=n->Ef s t1)):=λs hs=>⟨ah.out s hs,λ_=>⟨ae,λh=>by rw[hvb] at h; cases h⟩⟩
    go_wp2_with (go_at_call 49; refine(Cz _ _).mono ?_; rintro e wr ⟨rfl,rfl⟩; rw[hvb])
    refine Ap (v:=.pointer (some ⟨b1,o1,none⟩)) (by simp[results,Tryz.results114,go_sem]) rfl ?_
    exact⟨b1,o1,t1,n,rfl,aa.out,ak.out,ag.out,ai,aj,ae,HF.out⟩
   |true=>
    have hz:∀w',(zeroValue 132).run Tryz.prog w'=.ok (.pointer none) w':=λw'=>Tryz.zeroValue132 w'
    have au:=Aa (And.intro s0 p0)
    rcases Ro (Z:=Z) (n:=t1.name) with ⟨hg,hno⟩|⟨z,hz1,av,hg⟩
    ·have HF:Hid (∀s,CD Z s->Ag s t1=Ag s t/\(0<=n->Ef s t1)):=λs hs=>⟨ah.out s hs,λ_=>⟨ae,λ_=>hs.unbound hno⟩⟩
     have az:(Instr.lookup 128 (.map (some q)) (.string t1.name) true).run Tryz.prog wr.drew=.ok (.tuple #[.pointer none,.bool false]) wr.drew:=by
      rw[ET (P:=Tryz.prog) Tryz.underlying128 Tryz.underlying9 (hz _) (show Bl wr.drew q (Z.map GA) from aa.out.2.1) t1.name,hg]; rfl
     clear hg hno
     go_wp2_with (go_at_call 49; refine(Cz _ _).mono ?_; rintro e wr ⟨rfl,rfl⟩; rw[hvb])
     go_region_held3 (λw'=>w'.cell? ⟨S,0,none⟩=some (.map (some q))/\w'.cell? ⟨b1,o1,none⟩=some (.string t1.name)) (first|exact au.out|go_keep) (fail)
     go_wp2_with fail
     refine Ap (v:=.pointer (some ⟨b1,o1,none⟩)) (by simp[results,Tryz.results114,go_sem]) rfl ?_
     have hD:Below wr.heap.size wr wr.drew:=(Af _ _).drew
     exact⟨b1,o1,t1,n,rfl,aa.out.later hD,ak.out.exq (Al.ofBelow (Q:=Cq S q) hD) aa.out.X,ag.out.drew,ai,aj,ae,HF.out⟩
    ·have HF:Hid (∀s,CD Z s->Ag s z.t=Ag s t):=λs hs=>(hs.stands ae hvb hz1 av).trans (ah.out s hs)
     have aw:=Aa hz1
     have az:(Instr.lookup 128 (.map (some q)) (.string t1.name) true).run Tryz.prog wr.drew=.ok (.tuple #[.pointer (some ⟨z.b,z.o,none⟩),.bool true]) wr.drew:=by
      rw[ET (P:=Tryz.prog) Tryz.underlying128 Tryz.underlying9 (hz _) (show Bl wr.drew q (Z.map GA) from aa.out.2.1) t1.name,hg]; rfl
     have aB:wr.drew.cell? ⟨S,1,none⟩=some (.int .i64 n):=s1
     have aC:wr.drew.frozen? ⟨S,1,none⟩=false:=aa.out.1.frozen 1
     clear hg hz1 av
     go_wp2_with (go_at_call 49; refine(Cz _ _).mono ?_; rintro e wr ⟨rfl,rfl⟩; rw[hvb])
     go_region_held3 (λw'=>w'.cell? ⟨S,0,none⟩=some (.map (some q))/\w'.cell? ⟨b1,o1,none⟩=some (.string t1.name)) (first|exact au.out|go_keep) (fail)
     have ax:IntKind.i64.wrap (n-1)=n-1:=by rw[E4]; omega
     go_wp2_with fail
     have hD:Below wr.heap.size wr wr.drew:=(Af _ _).drew
     have ay:Al (Cq S q) wr (wr.setCell ⟨S,1,none⟩ (.int .i64 (n-1))).drew:=((Al.refl (Cq S q) wr).set (Ad rfl) 1 _).drew
     go_roundg ((n-1)+1).toNat
     case rel=>exact⟨z.b,z.o,z.t,n-1,rfl,rfl,(aa.out.spend (n-1)).later ((Af _ _).drew),(aa.out.2.2.1 z aw.out).exq ay aa.out.X,ag.out.trans ay,by omega,by omega,hZ z aw.out,HF.out⟩
     case measure=>omega
  ·go_wp2_with fail
   refine Ap (v:=.pointer (some ⟨b1,o1,none⟩)) (by simp[results,Tryz.results114,go_sem]) rfl ?_
   exact⟨b1,o1,t1,n,rfl,aa.out,ak.out,ag.out,ai,aj,ae,λs hs=>⟨ah.out s hs,λh=>absurd h (by omega)⟩⟩
theorem Ef.knot {s:List Bd} (hs:Bv s) {t:Tm} (h:Ef s t):Ag s t=⟨t.name,Am s t.args⟩:=by
 cases hv:Ak t.name with
 |false=>exact IP hs hv
 |true=>
  rw[h.var hv]
  have e:t.args=[]:=by rw[MX h.1 hv]
  rw[e]
  simp[Am]
theorem Rp {s:List Bd} {x:ByteArray}:∀ {l:List Tm},Au x (Am s l)↔∃k,∃h:k<l.length,Au x [Ag s l[k]]
 | []=>by
  simp only[Am]
  exact⟨λh=>absurd h Fk,λ⟨k,h,_⟩=>absurd h (by simp)⟩
 |t::r=>by
  rw[Ba,BM,Rp (l:=r)]
  constructor
  ·rintro(h|⟨k,hk,h⟩)
   ·exact⟨0,by simp,h⟩
   ·exact⟨k+1,by simpa using hk,h⟩
  ·rintro⟨k,hk,h⟩
   cases k with
   |zero=>exact Ad h
   |succ k=>exact Ae ⟨k,by simpa using hk,h⟩
theorem JC:∀ {l:List Tm},Ah l=0->∀k (h:k<l.length),Ah [l[k]]=0
 |t::r,he,0,_=>(Cp.1 he).1
 |t::r,he,k+1,h=>JC (Cp.1 he).2 k (by simpa using h)
def YL (w:World) (S q:Nat) (X:Nat->Prop) (Z:List Zp) (left:Int) (t:Tm) (x:ByteArray) (e:Ending) (w':World):Prop:=
 ∃(r:Bool) (n:Int),e=.returned (.bool r)/\CI w' S q X Z n/\Al (Cq S q) w w'/\n<left/\-2<=n/\(n<0->r=true)/\(0<=n->∀s,CD Z s->(∀d∈s,d.nm≠x)->(r=true↔Au x [Ag s t]))
def YM (w:World) (S q:Nat) (X:Nat->Prop) (Z:List Zp) (left:Int) (b1 o1:Nat) (t1:Tm) (x:ByteArray) (i:Value) (wr:World):Prop:=
 ∃(k:Nat) (n:Int),k<=t1.args.length/\i=.int .i64 (k:Int)/\DA wr X b1 o1 t1/\CI wr S q X Z n/\Al (Cq S q) w wr/\n<left/\0<=n/\∀s,CD Z s->(∀d∈s,d.nm≠x)->∀j (h:j<t1.args.length),j<k->¬Au x [Ag s t1.args[j]]
theorem YN (S q:Nat) (X:Nat->Prop) (Z:List Zp) (hZ:∀z∈Z,Ah [z.t]=0) (x:ByteArray) (m:Nat):∀(left:Int) (t:Tm) (b o:Nat) (w:World),left.toNat=m->0<=left->left<=100000->CI w S q X Z left->DA w X b o t->Ah [t]=0->
  Calls Tryz.prog 133 #[.pointer (some ⟨S,0,none⟩),.pointer (some ⟨b,o,none⟩),.string x] w λe w'=>YL w S q X Z left t x e w':=by
 induction m using Nat.strongRecOn with
 |_ m ih=>
  intro left t b o w hm h0 h1 hS hP he
  have IH:=Aa ih
  have HS:=Aa hS
  have HP:=Aa hP
  clear ih hS hP
  go_enter Tryz.func133,Tryz.ntmps133
  go_wp2_with fail
  refine(KO S q X Z hZ left t b o w HS.out (by omega) h1 HP.out he).mono ?_
  rintro e w1 ⟨b1,o1,t1,n,rfl,aa,ag,ah,aS,aT,aK,av⟩
  have aU:=Aa aa
  have aV:=Aa ag
  have aW:=Aa ah
  have aw:=Aa av
  have s1:w1.cell? ⟨S,1,none⟩=some (.int .i64 n):=aa.1.cell 1
  have f1:w1.frozen? ⟨S,1,none⟩=false:=aa.1.frozen 1
  have ax:IntKind.i64.wrap (n-1)=n-1:=by rw[E4]; omega
  have ai:Al (Cq S q) w1 (w1.setCell ⟨S,1,none⟩ (.int .i64 (n-1))):=(Al.refl (Cq S q) w1).set (Ad rfl) 1 _
  have aj:=Aa (ah.trans ai)
  have ak:=Aa (aa.spend (n-1))
  have ay:=Aa (ag.exq ai aa.X)
  have aL:=Aa aa.X
  obtain⟨⟨a1,c1,p0,p1,az,aX⟩,aY⟩:=ay.out
  have aZ:=az.1
  clear aa ah av ag az ai
  by_cases hlt:n-1<0
  ·go_wp2_with fail
   refine Ap (v:=.bool true) (by simp[results,Tryz.results133,go_sem]) rfl ?_
   exact⟨true,n-1,rfl,ak.out,aj.out,by omega,by omega,λ_=>rfl,λh=>absurd h (by omega)⟩
  ·have af:Hid (∀s,CD Z s->Ag s t1=Ag s t/\Ag s t1=⟨t1.name,Am s t1.args⟩):=λs hs=>⟨(aw.out s hs).1,((aw.out s hs).2 (by omega)).knot hs.1⟩
   cases ao:(t1.name.toList==x.toList) with
   |true=>
    have hx:t1.name=x:=Ej (by simpa using ao)
    go_wp2_with fail
    refine Ap (v:=.bool true) (by simp[results,Tryz.results133,go_sem]) rfl ?_
    refine⟨true,n-1,rfl,ak.out,aj.out,by omega,by omega,λ_=>rfl,λ_ s hs _=>⟨λ_=>?_,λ_=>rfl⟩⟩
    rw[<- (af.out s hs).1,(af.out s hs).2,<-hx]
    exact Dc.2 (Ad rfl)
   |false=>
    have HX:Hid (t1.name≠x):=λe=>by rw[e] at ao; simp at ao
    have a6:Hid (∀s,CD Z s->(Au x [Ag s t]↔∃k,∃h:k<t1.args.length,Au x [Ag s t1.args[k]])):=λs hs=>by
     rw[<- (af.out s hs).1,(af.out s hs).2,Dc,Rp]
     exact⟨λh=>h.elim (λe=>absurd e HX.out) (λh=>h.elim id λh=>absurd h Fk),λh=>Ae (Ad h)⟩
    have aM:Ah t1.args=0:=Fm aK
    go_wp2_with fail
    go_loopw [36] (λi wr=>YM w S q X Z left b1 o1 t1 x i wr) (λi wr=>t1.args.length-(intOf i).toNat)
    case atStart=>exact⟨0,n-1,AE _,rfl,ay.out,ak.out,aj.out,by omega,by omega,λ_ _ _ j _ h=>absurd h (by omega)⟩
    case round=>
     obtain⟨k,n2,hk,rfl,aq,a7,a8,ba,aN,hno⟩:=hrel
     have aO:=Aa aq
     have aA:=Aa a7
     have aB:=Aa a8
     have aC:=Aa hno
     obtain⟨a',c',q1,_,ae⟩:=aq.sub
     clear aq a7 a8 hno p0 p1
     by_cases ar:k<t1.args.length
     ·obtain⟨b',o',rfl,hx⟩:=ae k ar
      have hk2:(k:Int)<(t1.args.length:Int):=by omega
      have aP:=Aa (IH.out n2.toNat (by omega) n2 t1.args[k] b' (o'+k*2) wr rfl aN (by omega) aA.out hx (JC aM k ar))
      have bb:=Aa hx
      clear ae hx
      go_wp2_with fail
      refine aP.out.mono ?_
      rintro e w5 ⟨r5,n5,rfl,aD,au,bc,bf,aQ,aF⟩
      have aG:=Aa aD
      have aH:=Aa (aB.out.trans au)
      have aR:=Aa (aO.out.exq au aL.out)
      have aI:=Aa aF
      clear aD au aF
      cases r5 with
      |true=>
       go_wp2_with fail
       refine Ap (v:=.bool true) (by simp[results,Tryz.results133,go_sem]) rfl ?_
       refine⟨true,n5,rfl,aG.out,aH.out,by omega,by omega,λ_=>rfl,λh5 s hs hu=>⟨λ_=>?_,λ_=>rfl⟩⟩
       exact(a6.out s hs).2 ⟨k,ar,(aI.out h5 s hs hu).1 (by simp)⟩
      |false=>
       have aJ:0<=n5:=by
        by_cases h:n5<0
        ·have:=aQ h; cases this
        ·omega
       go_wp2_with fail
       go_roundw
       case rel => exact ⟨k + 1, n5, by omega, by go_num, aR.out, aG.out, aH.out, by omega, aJ, λs hs hu j h hj => by
        by_cases e:j=k
        ·subst e
         intro hoc
         have:=(aI.out aJ s hs hu).2 hoc
         cases this
        ·exact aC.out s hs hu j h (by omega)⟩
       case measure=>simp[intOf]; omega
     ·clear ae
      go_wp2_with fail
      refine Ap (v:=.bool false) (by simp[results,Tryz.results133,go_sem]) rfl ?_
      refine⟨false,n2,rfl,aA.out,aB.out,by omega,by omega,λh=>absurd h (by omega),λ_ s hs hu=>⟨(λh=>absurd h (by simp)),λh=>?_⟩⟩
      obtain⟨j,hj,hoc⟩:=(a6.out s hs).1 h
      exact absurd hoc (aC.out s hs hu j hj (by omega))
def YO (w:World) (S q:Nat) (X:Nat->Prop) (Z:List Zp) (s:List Bd) (left:Int) (x:ByteArray) (u:Tm) (b o:Nat) (e:Ending) (w':World):Prop:=
 ∃(code n:Int) (Z':List Zp),e=.returned (.int .i64 code)/\CI w' S q X Z' n/\(∀z∈Z',Ah [z.t]=0)/\Al (Cq S q) w w'/\n<=left/\-2<=n/\(n<0->code≠0)/\
  ((u.name=x/\code=0/\Z'=Z)∨(u.name≠x/\code=6/\Z'=Z/\(0<=n->Au x [Ag s u]))∨(u.name≠x/\code=0/\Z'=Z++[⟨x,u,b,o⟩]/\¬Au x [Ag s u]))
theorem Rq (S q:Nat) (X:Nat->Prop) (Z:List Zp) (s:List Bd) (hC:CD Z s) (x:ByteArray) (hx:∀d∈s,d.nm≠x) (left:Int) (u:Tm) (b o:Nat) (w:World) (h0:0<=left) (h1:left<=100000) (hS:CI w S q X Z left) (hP:DA w X b o u) (he:Ah [u]=0):
  Calls Tryz.prog 115 #[.pointer (some ⟨S,0,none⟩),.string x,.pointer (some ⟨b,o,none⟩)] w λe w'=>YO w S q X Z s left x u b o e w':=by
 have HS:=Aa hS
 have HP:=Aa hP
 have HC:=Aa hC
 have HZ:=Aa hC.errs
 have HX:=Aa hx
 obtain⟨⟨a1,c1,p0,p1,aw,aA⟩,aB⟩:=hP
 clear hS hC aw hx
 cases ag:(u.name.toList==x.toList) with
 |true=>
  have hn:u.name=x:=Ej (by simpa using ag)
  go_enter Tryz.func115,Tryz.ntmps115
  go_wp2_with fail
  refine Ap (v:=.int .i64 0) (by simp[results,Tryz.results115,go_sem]) rfl ?_
  exact⟨0,left,Z,rfl,HS.out,HZ.out,Al.refl _ _,Int.le_refl _,by omega,λh=>absurd h (by omega),Ad ⟨hn,rfl,rfl⟩⟩
 |false=>
  have HN:Hid (u.name≠x):=λe=>by rw[e] at ag; simp at ag
  go_enter Tryz.func115,Tryz.ntmps115
  go_wp2_with fail
  refine(YN S q X Z HZ.out x left.toNat left u b o w rfl h0 h1 HS.out HP.out he).mono ?_
  rintro e w1 ⟨r,n,rfl,aa,ae,aC,aj,hr1,ah⟩
  have ax:=Aa aa
  have ay:=Aa ae
  have ak:=Aa ah
  cases r with
  |true=>
   clear aa ae ah
   go_wp2_with fail
   refine Ap (v:=.int .i64 6) (by simp[results,Tryz.results115,go_sem]) rfl ?_
   exact⟨6,n,Z,rfl,ax.out,HZ.out,ay.out,by omega,aj,λ_=>by decide,Ae (Ad ⟨HN.out,rfl,rfl,λh=>(ak.out h s HC.out HX.out).1 (by simp)⟩)⟩
  |false=>
   have az:0<=n:=by
    by_cases h:n<0
    ·have:=hr1 h; cases this
    ·omega
   have HO:Hid (¬Au x [Ag s u]):=λhoc=>by
    have:=(ak.out az s HC.out HX.out).2 hoc
    cases this
   have hg:Bb (Z.map GA) x=none:=by
    rcases Ro (Z:=Z) (n:=x) with ⟨hg,_⟩|⟨z,hz,e,_⟩
    ·exact hg
    ·exact absurd e (HC.out.fresh HX.out z hz)
   have s0:w1.cell? ⟨S,0,none⟩=some (.map (some q)):=aa.1.cell 0
   obtain⟨w8,hrun,ao,aq,ar,au,av,ai⟩:=Je (P:=Tryz.prog) Tryz.underlying128 Tryz.underlying9 aa.2.1 x (.pointer (some ⟨b,o,none⟩)) hg
   have af:Al (Cq S q) w1 w8:=⟨ar,au,av,by rw[aq]; exact Aj _,λk hk hn=>ai k (λe=>hn (Ae e))⟩
   have a6:=Aa (ae.trans af)
   have a7:Hid (CI w8 S q X (Z++[⟨x,u,b,o⟩]) n):=by
    refine⟨?_,by rw[Cr]; exact ao,λz hz=>?_,aa.2.2.2⟩
    ·have h2:=aa.1
     unfold Ac at h2 ⊢
     rw[ai S aa.ne]; exact h2
    ·rcases Bg.1 hz with hz|hz
     ·exact(aa.2.2.1 z hz).exq af aa.X
     ·have e:z=⟨x,u,b,o⟩:=by simpa using hz
      subst e
      exact(HP.out.exq ae aa.X).exq af aa.X
   have a8:Hid (∀z∈Z++[(⟨x,u,b,o⟩:Zp)],Ah [z.t]=0):=λz hz=>by
    rcases Bg.1 hz with hz|hz
    ·exact HZ.out z hz
    ·have e:z=⟨x,u,b,o⟩:=by simpa using hz
     subst e; exact he
   clear aa ae ah ao aq ar au av ai af hg
   go_wp2_with fail
   refine Ap (v:=.int .i64 0) (by simp[results,Tryz.results115,go_sem]) rfl ?_
   exact⟨0,n,_,rfl,a7.out,a8.out,a6.out,by omega,aj,λh=>absurd h (by omega),Ae (Ae ⟨HN.out,rfl,rfl,HO.out⟩)⟩
def YP (w:World) (S q:Nat) (X:Nat->Prop) (Z:List Zp) (left:Int) (t:Tm) (before:Nat) (e:Ending) (w':World):Prop:=
 ∃(c:Nat) (n:Int),e=.returned (.int .i64 (c:Int))/\CI w' S q X Z n/\Al (Cq S q) w w'/\n<=left/\(-1<=n∨n=left)/\before<c/\c<=2001/\(n<0->2000<c)/\∀s,CD Z s->c<=2000->c=before+Ab [Ag s t]
def YQ (w:World) (S q:Nat) (X:Nat->Prop) (Z:List Zp) (left:Int) (b1 o1:Nat) (t1:Tm) (before:Nat) (cv i:Value) (wr:World):Prop:=
 ∃(k c:Nat) (n:Int),k<=t1.args.length/\i=.int .i64 (k:Int)/\cv=.int .i64 (c:Int)/\DA wr X b1 o1 t1/\CI wr S q X Z n/\Al (Cq S q) w wr/\n<=left/\(-1<=n∨n=left)/\before<c/\c<=2001/\(n<0->2000<c)/\∀s,CD Z s->c<=2000->c=before+1+Ab (Am s (t1.args.take k))
theorem Rr (S q:Nat) (X:Nat->Prop) (Z:List Zp) (hZ:∀z∈Z,Ah [z.t]=0) (m:Nat):∀(before:Nat) (left:Int) (t:Tm) (b o:Nat) (w:World),2001-before=m->before<=2000→-100<=left->left<=100000->CI w S q X Z left->DA w X b o t->Ah [t]=0->
  Calls Tryz.prog 116 #[.pointer (some ⟨S,0,none⟩),.pointer (some ⟨b,o,none⟩),.int .i64 (before:Int)] w λe w'=>YP w S q X Z left t before e w':=by
 induction m using Nat.strongRecOn with
 |_ m ih=>
  intro before left t b o w hm aV h0 h1 hS hP he
  have IH:=Aa ih
  have HS:=Aa hS
  have HP:=Aa hP
  clear ih hS hP
  go_enter Tryz.func116,Tryz.ntmps116
  go_wp2_with fail
  refine(KO S q X Z hZ left t b o w HS.out h0 h1 HP.out he).mono ?_
  rintro e w1 ⟨b1,o1,t1,n,rfl,ae,ao,aq,ar,au,aI,av⟩
  have aw:=Aa ae
  have aJ:=Aa ao
  have ax:=Aa aq
  have ay:=Aa av
  have aK:=Aa ae.X
  have s1:w1.cell? ⟨S,1,none⟩=some (.int .i64 n):=ae.1.cell 1
  obtain⟨⟨a1,c1,p0,p1,az,aW⟩,aX⟩:=ao
  have aY:=az.1
  clear ae aq av az
  by_cases hlt:n<0
  ·go_wp2_with fail
   refine Ap (v:=.int .i64 2001) (by simp[results,Tryz.results116,go_sem]) rfl ?_
   exact⟨2001,n,rfl,aw.out,ax.out,ar,au,by omega,by omega,λ_=>by omega,λ_ _ h=>absurd h (by omega)⟩
  ·have aL:Hid (∀s,CD Z s->Ab [Ag s t]=1+Ab (Am s t1.args)):=λs hs=>by
    rw[<- (ay.out s hs).1,((ay.out s hs).2 (by omega)).knot hs.1,IK]
   have a6:IntKind.i64.wrap ((before:Int)+1)=(before:Int)+1:=by rw[E4]; omega
   have aM:Ah t1.args=0:=Fm aI
   go_wp2_with fail
   go_loopw [7,24] (λcv i wr=>YQ w S q X Z left b1 o1 t1 before cv i wr) (λcv i wr=>t1.args.length-(intOf i).toNat)
   case atStart=>exact⟨0,before+1,n,AE _,rfl,by go_num,aJ.out,aw.out,ax.out,ar,au,by omega,by omega,λh=>absurd h (by omega),λs _ _=>by simp[Am,Ab]⟩
   case round=>
    obtain⟨k,c,n2,hk,rfl,rfl,af,a7,a8,aA,aB,hc3,aC,aD,hno⟩:=hrel
    have aN:=Aa af
    have ag:=Aa a7
    have ah:=Aa a8
    have aF:=Aa hno
    obtain⟨a',c',q1,_,aa⟩:=af.sub
    clear af a7 a8 hno p0 p1
    by_cases ai:k<t1.args.length
    ·have hk2:(k:Int)<(t1.args.length:Int):=by omega
     by_cases aZ:2000<c
     ·have aj:(2000:Int)<(c:Int):=by omega
      clear aa
      go_wp2_with fail
      refine Ap (v:=.int .i64 (c:Int)) (by simp[results,Tryz.results116,go_sem]) rfl ?_
      exact⟨c,n2,rfl,ag.out,ah.out,aA,aB,hc3,aC,aD,λ_ _ h=>absurd h (by omega)⟩
     ·have aj:¬(2000:Int)<(c:Int):=by omega
      obtain⟨b',o',rfl,hx⟩:=aa k ai
      have aO:=Aa (IH.out (2001-c) (by omega) c n2 t1.args[k] b' (o'+k*2) wr rfl (by omega) (by omega) (by omega) ag.out hx (JC aM k ai))
      clear aa hx
      go_wp2_with fail
      refine aO.out.mono ?_
      rintro e w5 ⟨c5,n5,rfl,aG,ak,ba,bb,bc,aP,aQ,aH⟩
      have aR:=Aa aG
      have aS:=Aa (ah.out.trans ak)
      have aT:=Aa (aN.out.exq ak aK.out)
      have aU:=Aa aH
      clear aG ak aH
      go_wp2_with fail
      go_roundw
      case rel => exact ⟨k + 1, c5, n5, by omega, by go_num, rfl, aT.out, aR.out, aS.out, by omega, by omega, by omega, aP, aQ, λs hs h => by
       have h6:=aF.out s hs (by omega)
       have h7:=aU.out s hs h
       rw[Bm ai,Hk,D8,Ba]
       simp only[Am]
       omega⟩
      case measure=>simp[intOf]; omega
    ·clear aa
     go_wp2_with fail
     refine Ap (v:=.int .i64 (c:Int)) (by simp[results,Tryz.results116,go_sem]) rfl ?_
     refine⟨c,n2,rfl,ag.out,ah.out,aA,aB,hc3,aC,aD,λs hs h=>?_⟩
     have h6:=aF.out s hs h
     rw[AW (by omega)]at h6
     rw[aL.out s hs]
     omega
def YR (w:World) (S q:Nat) (X:Nat->Prop) (s:List Bd) (left:Int) (a b:Tm) (e:Ending) (w':World):Prop:=
 ∃(code n:Int) (Z':List Zp),e=.returned (.int .i64 code)/\CI w' S q X Z' n/\(∀z∈Z',Ah [z.t]=0)/\Al (Cq S q) w w'/\n<left/\-2<=n/\(n<0->code≠0)/\(0<=n->∃s',CD Z' s'/\FR s [⟨a,b⟩] code s')
def YS (w:World) (S q:Nat) (X:Nat->Prop) (s:List Bd) (left:Int) (b1 o1 b2 o2:Nat) (a1 a2:Tm) (i:Value) (wr:World):Prop:=
 ∃(k:Nat) (n:Int) (Z':List Zp) (s':List Bd),k<=a1.args.length/\i=.int .i64 (k:Int)/\DA wr X b1 o1 a1/\DA wr X b2 o2 a2/\CI wr S q X Z' n/\Al (Cq S q) w wr/\n<left/\0<=n/\CD Z' s'/\FR s (Ax (a1.args.take k) (a2.args.take k)) 0 s'
theorem YT (S q:Nat) (X:Nat->Prop) (m:Nat):∀(left:Int) (Z:List Zp) (s:List Bd) (a b:Tm) (ba oa bb ob:Nat) (w:World),left.toNat=m->0<=left->left<=100000->CD Z s->CI w S q X Z left->DA w X ba oa a->DA w X bb ob b->Ah [a]=0->Ah [b]=0->
  Calls Tryz.prog 97 #[.pointer (some ⟨S,0,none⟩),.pointer (some ⟨ba,oa,none⟩),.pointer (some ⟨bb,ob,none⟩)] w λe w'=>YR w S q X s left a b e w':=by
 induction m using Nat.strongRecOn with
 |_ m ih=>
  intro left Z s a b ba oa bb ob w hm h0 h1 hC hS bo bp bA bB
  have IH:=Aa ih
  have HS:=Aa hS
  have HC:=Aa hC
  have HZ:=Aa hC.errs
  have bC:=Aa bo
  have bD:=Aa bp
  clear ih hS bo bp hC
  go_enter Tryz.func97,Tryz.ntmps97
  go_wp2_with fail
  refine(KO S q X Z HZ.out left a ba oa w HS.out (by omega) h1 bC.out bA).mono ?_
  rintro e w1 ⟨b1,o1,a1,n1,rfl,aT,bq,aU,bY,bZ,aA,br⟩
  have bE:=Aa aT
  have bF:=Aa bq
  have bG:=Aa aU
  have ah:=Aa (br s HC.out)
  have aV:=Aa (bD.out.exq aU aT.X)
  clear aT bq aU br
  go_wp2_with fail
  refine(KO S q X Z HZ.out n1 b bb ob w1 bE.out (by omega) (by omega) aV.out bB).mono ?_
  rintro e w2 ⟨b2,o2,a2,n2,rfl,aq,bs,aW,cc,cd,aB,hc2⟩
  have ai:=Aa (hc2 s HC.out)
  have aP:Al (Cq S q) w2 (w2.setCell ⟨S,1,none⟩ (.int .i64 (n2-1))):=(Al.refl (Cq S q) w2).set (Ad rfl) 1 _
  have az:=Aa ((bG.out.trans aW).trans aP)
  have a6:=Aa (aq.spend (n2-1))
  have av:=Aa ((bF.out.exq aW aq.X).exq aP aq.X)
  have aw:=Aa (bs.exq aP aq.X)
  have aj:=Aa aq.X
  have s1:w2.cell? ⟨S,1,none⟩=some (.int .i64 n2):=aq.1.cell 1
  have f1:w2.frozen? ⟨S,1,none⟩=false:=aq.1.frozen 1
  have bt:IntKind.i64.wrap (n2-1)=n2-1:=by rw[E4]; omega
  obtain⟨⟨x1,c1,p0,p1,aC,bH⟩,bI⟩:=av.out
  obtain⟨⟨x2,c2,r0,r1,aD,bJ⟩,bK⟩:=aw.out
  have cf:=aC.1
  have hl2:=aD.1
  clear aq bs aW hc2 aP aC aD
  by_cases hlt:n2-1<0
  ·go_wp2_with fail
   refine Ap (v:=.int .i64 8) (by simp[results,Tryz.results97,go_sem]) rfl ?_
   exact⟨8,n2-1,Z,rfl,a6.out,HZ.out,az.out,by omega,by omega,λ_=>by decide,λh=>absurd h (by omega)⟩
  ·have ax:Hid (Ef s a1):=ah.out.2 (by omega)
   have ay:Hid (Ef s a2):=ai.out.2 (by omega)
   have hs:Bv s:=HC.out.1
   have ak:=Aa hs
   clear hs
   cases aa:Ak a1.name with
   |true=>
    go_wp2_with (go_at_call 49; refine(Cz _ _).mono ?_; rintro e w9 ⟨rfl,rfl⟩; rw[aa])
    refine(Rq S q X Z s HC.out a1.name (ax.out.2 aa) (n2-1) a2 b2 o2 _ (by omega) (by omega) a6.out aw.out aB).mono ?_
    rintro e w5 ⟨code,n5,Z5,rfl,ar,au,ae,bu,aF,aG,hcs⟩
    have a7:=Aa ar
    have aH:=Aa au
    have a8:=Aa (az.out.trans ae)
    clear ar au ae
    go_wp2_with fail
    refine Ap (v:=.int .i64 code) (by simp[results,Tryz.results97,go_sem]) rfl ?_
    refine⟨code,n5,Z5,rfl,a7.out,aH.out,a8.out,by omega,aF,aG,λh5=>?_⟩
    rcases hcs with ⟨g1,rfl,rfl⟩|⟨g1,rfl,rfl,g2⟩|⟨g1,rfl,rfl,g2⟩
    ·exact⟨s,HC.out,YG ak.out ah.out.1 ai.out.1 ax.out ay.out aa g1⟩
    ·exact⟨s,HC.out,Re ak.out ah.out.1 ai.out.1 ax.out ay.out (Ad ⟨aa,g1,g2 h5⟩)⟩
    ·exact⟨_,HC.out.add aa (ax.out.2 aa) aB g2 b2 o2,Rf ak.out ah.out.1 ai.out.1 ax.out ay.out (Ad ⟨aa,g1,rfl,rfl⟩) g2⟩
   |false=>
    cases hv2:Ak a2.name with
    |true=>
     go_wp2_with (go_at_call 49; refine(Cz _ _).mono ?_; rintro e w9 ⟨rfl,rfl⟩; first|rw[aa]|rw[hv2])
     refine(Rq S q X Z s HC.out a2.name (ay.out.2 hv2) (n2-1) a1 b1 o1 _ (by omega) (by omega) a6.out av.out aA).mono ?_
     rintro e w5 ⟨code,n5,Z5,rfl,ar,au,ae,bu,aF,aG,hcs⟩
     have a7:=Aa ar
     have aH:=Aa au
     have a8:=Aa (az.out.trans ae)
     clear ar au ae
     go_wp2_with fail
     refine Ap (v:=.int .i64 code) (by simp[results,Tryz.results97,go_sem]) rfl ?_
     refine⟨code,n5,Z5,rfl,a7.out,aH.out,a8.out,by omega,aF,aG,λh5=>?_⟩
     rcases hcs with ⟨g1,rfl,rfl⟩|⟨g1,rfl,rfl,g2⟩|⟨g1,rfl,rfl,g2⟩
     ·rw[g1,hv2]at aa; cases aa
     ·exact⟨s,HC.out,Re ak.out ah.out.1 ai.out.1 ax.out ay.out (Ae ⟨aa,hv2,g2 h5⟩)⟩
     ·exact⟨_,HC.out.add hv2 (ay.out.2 hv2) aA g2 b1 o1,Rf ak.out ah.out.1 ai.out.1 ax.out ay.out (Ae ⟨aa,hv2,rfl,rfl⟩) g2⟩
    |false=>
     have aI:=Aa (And.intro p0 (And.intro p1 (And.intro r0 r1)))
     cases aX:(a1.name.toList==a2.name.toList) with
     |false=>
      have hne:a1.name≠a2.name:=λe=>by rw[e] at aX; simp at aX
      go_wp2_with (go_at_call 49; refine(Cz _ _).mono ?_; rintro e w9 ⟨rfl,rfl⟩; first|rw[aa]|rw[hv2])
      generalize w2.setCell ⟨S,1,none⟩ (.int .i64 (n2-1))=w3 at *
      refine CU (S:=(λw'=>w'.cell? ⟨b1,o1,none⟩=some (.string a1.name)/\w'.cell? ⟨b1,o1+1,none⟩=some (.slice x1 a1.args.length c1)/\w'.cell? ⟨b2,o2,none⟩=some (.string a2.name)/\w'.cell? ⟨b2,o2+1,none⟩=some (.slice x2 a2.args.length c2))) (by kernel_rfl) aI.out (λhHeld=>?_)
      refine tkz 0 ?_ (hy:=by intro w' hSw;obtain⟨k1,k2,k3,k4⟩:=hSw;go_simp<;>with_reducible rfl)
      refine tkz 1 ?_ (hy:=by intro w' hSw;obtain⟨k1,k2,k3,k4⟩:=hSw;go_simp<;>with_reducible rfl)
      refine tkz 2 ?_ (hy:=by intro w' hSw;obtain⟨k1,k2,k3,k4⟩:=hSw;go_simp<;>with_reducible rfl)
      refine tkz 3 ?_ (hy:=by intro w' hSw;obtain⟨k1,k2,k3,k4⟩:=hSw;go_simp<;>with_reducible rfl)
      refine tkz 4 ?_ (hy:=by intro w' hSw;obtain⟨k1,k2,k3,k4⟩:=hSw;go_simp<;>with_reducible rfl)
      refine tkz 5 ?_ (hy:=by intro w' hSw;obtain⟨k1,k2,k3,k4⟩:=hSw;go_simp<;>with_reducible rfl)
      refine tkz 6 ?_ (hy:=by intro w' hSw;obtain⟨k1,k2,k3,k4⟩:=hSw;go_simp<;>with_reducible rfl)
      refine tkz 7 ?_ (hy:=by intro w' hSw;obtain⟨k1,k2,k3,k4⟩:=hSw;go_simp<;>with_reducible rfl)
      refine tkz 8 ?_ (hy:=by intro w' hSw;obtain⟨k1,k2,k3,k4⟩:=hSw;go_simp<;>with_reducible rfl)
      refine tkz 9 ?_ (hy:=by intro w' hSw;obtain⟨k1,k2,k3,k4⟩:=hSw;go_simp<;>with_reducible rfl)
      refine tku 10 ?_
      try simp only[Act.put,sq]
      refine tku 11 ?_
      try simp only[Act.put,sq]
      refine tku 12 ?_
      try simp only[Act.put,sq]
      refine tku 13 ?_
      try simp only[Act.put,sq]
      refine tku 14 ?_
      try simp only[Act.put,sq]
      refine tku 15 ?_
      try simp only[Act.put,sq]
      refine tku 16 ?_
      try simp only[Act.put,sq]
      refine tku 17 ?_
      try simp only[Act.put,sq]
      refine tku 18 ?_
      try simp only[Act.put,sq]
      refine tku 19 ?_
      try simp only[Act.put,sq]
      refine tku 20 ?_
      try simp only[Act.put,sq]
      refine tkz 21 ?_ (hy:=by intro w' hSw;obtain⟨k1,k2,k3,k4⟩:=hSw;go_simp<;>with_reducible rfl)
      refine tkz 22 ?_ (hy:=by intro w' hSw;obtain⟨k1,k2,k3,k4⟩:=hSw;go_simp<;>with_reducible rfl)
      refine dnq ?_
      go_wp2_with fail
      refine Ap (v:=.int .i64 5) (by simp[results,Tryz.results97,go_sem]) rfl ?_
      exact⟨5,n2-1,Z,rfl,a6.out.later ((Af _ _).drew),HZ.out,az.out.drew,by omega,by omega,λ_=>by decide,λ_=>⟨s,HC.out,Rg ak.out ah.out.1 ai.out.1 aa hv2 (λh=>hne h.1)⟩⟩
     |true=>
      have hne:a1.name=a2.name:=Ej (by simpa using aX)
      by_cases hm:a1.args.length=a2.args.length
      case neg=>
       have bL:((a1.args.length:Int)==(a2.args.length:Int))=false:=DL.2 (by omega)
       have cg:((a1.args.length:Int) !=(a2.args.length:Int))=true:=by simp[bne,bL]
       have HM:=Aa hm
       clear hm
       go_wp2_with (go_at_call 49; refine(Cz _ _).mono ?_; rintro e w9 ⟨rfl,rfl⟩; first|rw[aa]|rw[hv2])
       generalize w2.setCell ⟨S,1,none⟩ (.int .i64 (n2-1))=w3 at *
       go_region_held3 (λw'=>w'.cell? ⟨b1,o1,none⟩=some (.string a1.name)/\w'.cell? ⟨b1,o1+1,none⟩=some (.slice x1 a1.args.length c1)/\w'.cell? ⟨b2,o2,none⟩=some (.string a2.name)/\w'.cell? ⟨b2,o2+1,none⟩=some (.slice x2 a2.args.length c2)) (first|exact aI.out|go_keep) (fail)
       go_wp2_with fail
       refine Ap (v:=.int .i64 5) (by simp[results,Tryz.results97,go_sem]) rfl ?_
       exact⟨5,n2-1,Z,rfl,a6.out.later ((Af _ _).drew),HZ.out,az.out.drew,by omega,by omega,λ_=>by decide,λ_=>⟨s,HC.out,Rg ak.out ah.out.1 ai.out.1 aa hv2 (λh=>HM.out h.2)⟩⟩
      case pos=>
       have aJ:=Aa hm
       rw[<-hm]at r1 hl2 aI
       clear hm
       go_wp2_with (go_at_call 49; refine(Cz _ _).mono ?_; rintro e w9 ⟨rfl,rfl⟩; first|rw[aa]|rw[hv2])
       generalize w2.setCell ⟨S,1,none⟩ (.int .i64 (n2-1))=w3 at *
       go_region_held3 (λw'=>w'.cell? ⟨b1,o1,none⟩=some (.string a1.name)/\w'.cell? ⟨b1,o1+1,none⟩=some (.slice x1 a1.args.length c1)/\w'.cell? ⟨b2,o2,none⟩=some (.string a2.name)/\w'.cell? ⟨b2,o2+1,none⟩=some (.slice x2 a1.args.length c2)) (first|exact aI.out|go_keep) (fail)
       have bM:=Aa (Fm aA)
       have bN:=Aa (Fm aB)
       go_wp2_with fail
       go_loopw [82] (λi wr=>YS w S q X s left b1 o1 b2 o2 a1 a2 i wr) (λi wr=>a1.args.length-(intOf i).toNat)
       case atStart=>exact⟨0,n2-1,Z,s,AE _,rfl,av.out.exq ((Al.refl (Cq S q) _).drew) aj.out,aw.out.exq ((Al.refl (Cq S q) _).drew) aj.out,a6.out.later ((Af _ _).drew),az.out.drew,by omega,by omega,HC.out,by simpa [Ax] using FR.done s⟩
       case round=>
        obtain⟨k,n3,Z3,s3,hk,rfl,aK,aL,bw,bx,bu,aF,bz,b3⟩:=hrel
        have bO:=Aa aK
        have bP:=Aa aL
        have b4:=Aa bw
        have b5:=Aa bx
        have aY:=Aa bz
        have aZ:=Aa b3
        obtain⟨y1,d1,q1,_,af⟩:=aK.sub
        obtain⟨y2,d2,q2,_,ag⟩:=aL.sub
        rw[<-aJ.out]at q2
        have bc:=aK.1.lt
        have bf:=aL.1.lt
        have aM:=aK.2
        have aN:=aL.2
        clear aK aL bw bx bz b3 p0 p1 r0 r1 aI
        by_cases aQ:k<a1.args.length
        ·have ao:k<a2.args.length:=by have:=aJ.out; omega
         have hk2:(k:Int)<(a1.args.length:Int):=by omega
         obtain⟨bg,bh,rfl,hx1⟩:=af k aQ
         obtain⟨bj,bk,rfl,hx2⟩:=ag k ao
         have bl:=Aa (And.intro q1 q2)
         have hD:Below wr.heap.size wr wr.drew:=(Af _ _).drew
         have bQ:=Aa (IH.out n3.toNat (by omega) n3 Z3 s3 a1.args[k] a2.args[k] bg (bh+k*2) bj (bk+k*2) wr.drew rfl aF (by omega) aY.out (b4.out.later hD) (hx1.exq (Al.ofBelow (Q:=Cq S q) hD) aj.out) (hx2.exq (Al.ofBelow (Q:=Cq S q) hD) aj.out) (JC bM.out k aQ) (JC bN.out k ao))
         have bR:Hid (∀w5,Al (Cq S q) wr.drew w5->w5.cell? ⟨b1,o1+1,none⟩=some (.slice (some ⟨bg,bh,none⟩) a1.args.length d1)/\w5.cell? ⟨b2,o2+1,none⟩=some (.slice (some ⟨bj,bk,none⟩) a1.args.length d2)):=λw5 h5=>⟨(CM (h5.block b1 bc (aj.out _ aM))).trans bl.out.1,(CM (h5.block b2 bf (aj.out _ aN))).trans bl.out.2⟩
         clear af ag hx1 hx2 hD
         go_wp2_with fail
         go_region_held3 (λw'=>w'.cell? ⟨b1,o1+1,none⟩=some (.slice (some ⟨bg,bh,none⟩) a1.args.length d1)/\w'.cell? ⟨b2,o2+1,none⟩=some (.slice (some ⟨bj,bk,none⟩) a1.args.length d2)) (first|exact bl.out|exact aO|go_keep)
          ((go_at_call 97; refine bQ.out.mono ?_; rintro e w5 ⟨code,n5,Z5,rfl,ar,au,ae,cj,bS,aG,b6⟩; have aO:=bR.out w5 ae))
         have a7:=Aa ar
         have aH:=Aa au
         have a8:=Aa ((b5.out.drew).trans ae)
         have bT:=Aa ((bO.out.exq ((Al.refl (Cq S q) _).drew) aj.out).exq ae aj.out)
         have bU:=Aa ((bP.out.exq ((Al.refl (Cq S q) _).drew) aj.out).exq ae aj.out)
         have b7:=Aa b6
         clear ar au ae b6 aO
         by_cases bm:code=0
         ·subst bm
          have b8:0<=n5:=by
           by_cases h:n5<0
           ·exact absurd rfl (aG h)
           ·omega
          obtain⟨s5,aR,aS⟩:=b7.out b8
          have bV:=Aa aR
          have bW:=Aa (Rl aQ ao aZ.out aS)
          clear aR aS
          go_wp2_with fail
          go_roundw
          case rel=>exact⟨k+1,n5,Z5,s5,by omega,by go_num,bT.out,bU.out,a7.out,a8.out,by omega,b8,bV.out,bW.out⟩
          case measure=>simp[intOf]; omega
         ·have bn:(code==0)=false:=DL.2 bm
          have bX:(code !=0)=true:=by simp[bne,bn]
          have b9:=Aa bm
          go_wp2_with fail
          refine Ap (v:=.int .i64 code) (by simp[results,Tryz.results97,go_sem]) rfl ?_
          refine⟨code,n5,Z5,rfl,a7.out,aH.out,a8.out,by omega,bS,λ_=>b9.out,λh5=>?_⟩
          obtain⟨s5,aR,aS⟩:=b7.out h5
          exact⟨s5,aR,Ri ak.out ah.out.1 ai.out.1 aA aB aa hv2 hne aJ.out (YH (k+1) b9.out (Rl aQ ao aZ.out aS))⟩
        ·clear af ag
         go_wp2_with fail
         refine Ap (v:=.int .i64 0) (by simp[results,Tryz.results97,go_sem]) rfl ?_
         refine⟨0,n3,Z3,rfl,b4.out,aY.out.errs,b5.out,by omega,by omega,λh=>absurd h (by omega),λ_=>⟨s3,aY.out,Ri ak.out ah.out.1 ai.out.1 aA aB aa hv2 hne aJ.out ?_⟩⟩
         have h6:=aZ.out
         rwa [AW (by omega),AW (by have:=aJ.out; omega)] at h6
theorem QV.at {w:World} {X:Nat->Prop} {a:Option Addr} {n c:Nat} {l:List Pr} (h:QV w X (.slice a n c) l) (i:Nat) (hi:i<l.length):∃b o,a=some ⟨b,o,none⟩/\DA w X b (o+i*4) l[i].l/\DA w X b (o+i*4+2) l[i].r:=by
 obtain⟨a2,c2,e,hl,h⟩:=h
 simp at e
 obtain⟨rfl,rfl,rfl⟩:=e
 rcases h with h|⟨b,o,ea,hX,h⟩
 ·subst h; simp at hi
 ·obtain⟨a1,c1,a2,c2,h1,h2,h3,h4,h5,h6⟩:=h i hi
  exact⟨b,o,ea,⟨⟨a1,c1,h1,h2,h5,D9 h1⟩,hX⟩,⟨⟨a2,c2,h3,h4,h6,D9 h3⟩,hX⟩⟩
theorem QV.exq {w w':World} {X Q:Nat->Prop} {v:Value} {l:List Pr} (h:QV w X v l) (he:Al Q w w') (hX:∀b,X b->¬Q b):QV w' X v l:=
 ((h.mono (Y:=λb=>X b/\b<w.heap.size) λb h1 h2=>⟨h1,h2⟩).kept λb hb=>he.block b hb.2 (hX b hb.1)).mono λb hb _=>hb.1
def YU (w:World) (S q:Nat) (X:Nat->Prop) (Z:List Zp) (left:Int) (ls:List Pr) (e:Ending) (w':World):Prop:=
 ∃(r:Bool) (n:Int),e=.returned (.bool r)/\CI w' S q X Z n/\Al (Cq S q) w w'/\(left<0->ls≠[]->r=false)/\∀s,CD Z s->r=true->∀p∈ls,Ab [Ag s p.l]<=2000/\Ab [Ag s p.r]<=2000
def YV (w:World) (S q:Nat) (X:Nat->Prop) (Z:List Zp) (left:Int) (ls:List Pr) (i:Value) (wr:World):Prop:=
 ∃(k:Nat) (n:Int),k<=ls.length/\i=.int .i64 (k:Int)/\CI wr S q X Z n/\Al (Cq S q) w wr/\n<=left/\-100<=n/\(0<k->0<=left)/\∀s,CD Z s->∀j (h:j<ls.length),j<k->Ab [Ag s ls[j].l]<=2000/\Ab [Ag s ls[j].r]<=2000
theorem YW (S q:Nat) (X:Nat->Prop) (Z:List Zp) (hZ:∀z∈Z,Ah [z.t]=0) (left:Int) (h0:-100<=left) (h1:left<=100000) (ls:List Pr) (ah:∀p∈ls,Ah [p.l]=0/\Ah [p.r]=0) (v:Value) (w:World) (hS:CI w S q X Z left) (hv:QV w X v ls):
  Calls Tryz.prog 98 #[.pointer (some ⟨S,0,none⟩),v] w λe w'=>YU w S q X Z left ls e w':=by
 have HS:=Aa hS
 have HV:=Aa hv
 have ai:=Aa hS.X
 have aD:=Aa ah
 obtain⟨a,c,rfl,⟨aO,hl2⟩,_⟩:=hv
 clear hS ah
 go_enter Tryz.func98,Tryz.ntmps98
 go_wp2_with fail
 go_loopw [8] (λi wr=>YV w S q X Z left ls i wr) (λi wr=>ls.length-(intOf i).toNat)
 case atStart=>exact⟨0,left,AE _,rfl,HS.out,Al.refl _ _,Int.le_refl _,h0,λh=>absurd h (by omega),λ_ _ j _ h=>absurd h (by omega)⟩
 case round=>
  obtain⟨k,n,hk,rfl,aj,ak,aP,aF,aG,hno⟩:=hrel
  have ao:=Aa aj
  have aa:=Aa ak
  have aq:=Aa hno
  clear aj ak hno
  by_cases ar:k<ls.length
  ·obtain⟨b,o,rfl,au,av⟩:=(HV.out.exq aa.out ai.out).at k ar
   have hk2:(k:Int)<(ls.length:Int):=by omega
   have aH:=Aa au
   have aI:=Aa av
   have aw:=aD.out ls[k] (AV ar)
   clear au av
   go_wp2_with fail
   refine(Rr S q X Z hZ 2001 0 n ls[k].l b (o+k*4) wr rfl (by omega) aF (by omega) ao.out aH.out aw.1).mono ?_
   rintro e w5 ⟨c5,n5,rfl,ax,ae,aQ,aR,aS,aT,aJ,ay⟩
   have az:=Aa ax
   have a6:=Aa (aa.out.trans ae)
   have aK:=Aa (aI.out.exq ae ai.out)
   have aL:=Aa ay
   clear ax ae ay
   by_cases aU:2000<c5
   ·have af:(2000:Int)<(c5:Int):=by omega
    go_wp2_with fail
    refine Ap (v:=.bool false) (by simp[results,Tryz.results98,go_sem]) rfl ?_
    exact⟨false,n5,rfl,az.out,a6.out,λ_ _=>rfl,λ_ _ h=>absurd h (by simp)⟩
   ·have af:¬(2000:Int)<(c5:Int):=by omega
    have aM:0<=n5:=by
     by_cases h:n5<0
     ·have:=aJ h; omega
     ·omega
    go_wp2_with fail
    refine(Rr S q X Z hZ 2001 0 n5 ls[k].r b (o+k*4+2) w5 rfl (by omega) (by omega) (by omega) az.out aK.out aw.2).mono ?_
    rintro e w6 ⟨c6,n6,rfl,a7,a8,aV,aW,aX,aY,aZ,aA⟩
    have aB:=Aa a7
    have aC:=Aa (a6.out.trans a8)
    have aN:=Aa aA
    clear a7 a8 aA
    by_cases ba:2000<c6
    ·have ag:(2000:Int)<(c6:Int):=by omega
     go_wp2_with fail
     refine Ap (v:=.bool false) (by simp[results,Tryz.results98,go_sem]) rfl ?_
     exact⟨false,n6,rfl,aB.out,aC.out,λ_ _=>rfl,λ_ _ h=>absurd h (by simp)⟩
    ·have ag:¬(2000:Int)<(c6:Int):=by omega
     go_wp2_with fail
     go_roundw
     case rel => exact ⟨k + 1, n6, by omega, by go_num, aB.out, aC.out, by omega, by omega, λ_ => by omega, λs hs j h hj => by
      by_cases e:j=k
      ·subst e
       have g1:=aL.out s hs (by omega)
       have g2:=aN.out s hs (by omega)
       omega
      ·exact aq.out s hs j h (by omega)⟩
     case measure=>simp[intOf]; omega
  ·go_wp2_with fail
   refine Ap (v:=.bool true) (by simp[results,Tryz.results98,go_sem]) rfl ?_
   refine⟨true,n,rfl,ao.out,aa.out,λhl hne=>?_,λs hs _ p hp=>?_⟩
   ·have:0<ls.length:=Fb.2 hne
    have:=aG (by omega)
    omega
   ·obtain⟨j,hj,rfl⟩:=Hb hp
    exact aq.out s hs j hj (by omega)
def YX (w:World) (ls:List Pr) (e:Ending) (w':World):Prop:=
 ∃code:Int,e=.returned (.int .i64 code)/\Below w.heap.size w w'/\(code≠0->∃n sf,AQ false n [] ls=some (code,sf)/\AD sf=false)
def YY (w:World) (S q:Nat) (X:Nat->Prop) (ls:List Pr) (i:Value) (wr:World):Prop:=
 ∃(k:Nat) (n:Int) (Z:List Zp) (s:List Bd),k<=ls.length/\i=.int .i64 (k:Int)/\CI wr S q X Z n/\Al (Cq S q) w wr/\n<=100000/\0<=n/\CD Z s/\FR [] (ls.take k) 0 s
theorem YZ (ls:List Pr) (ax:Ah (Aw ls)=0) (v:Value) (w:World) (X:Nat->Prop) (hv:QV w X v ls):
  Calls Tryz.prog 84 #[v] w λe w'=>YX w ls e w':=by
 have HV:=Aa (hv.mono (Y:=λb=>X b/\b<w.heap.size) λb h1 h2=>⟨h1,h2⟩)
 have ay:=Aa (KN ax)
 obtain⟨a,c,rfl,⟨bm,hl2⟩,_⟩:=hv
 have bn:=@run_makeMap Tryz.prog
 go_enter Tryz.func84,Tryz.ntmps84
 go_wp2_with fail
 have Bx:Below w.heap.size w ((w.alloc (.map #[] 0)).alloc (.cells #[.map (some w.heap.size),.int .i64 100000] 130)):=((Af _ _).alloc (Aj _) _).alloc (by simp) _
 have az:Ac ((w.alloc (.map #[] 0)).alloc (.cells #[.map (some w.heap.size),.int .i64 100000] 130)) (w.heap.size+1) #[.map (some w.heap.size),.int .i64 100000] 130:=by
  have h1:=Ac.new (w.alloc (.map #[] 0)) #[.map (some w.heap.size),.int .i64 100000] 130
  rw[CN]at h1
  exact h1
 have a6:Bl ((w.alloc (.map #[] 0)).alloc (.cells #[.map (some w.heap.size),.int .i64 100000] 130)) w.heap.size []:=(Bl.new w).kept (AP _ _ _ (by simp))
 generalize (w.alloc (.map #[] 0)).alloc (.cells #[.map (some w.heap.size),.int .i64 100000] 130)=w2 at *
 have ao:CI w2 (w.heap.size+1) w.heap.size (λb=>X b/\b<w.heap.size) [] 100000:=⟨az,a6,by simp,λb hb=>⟨by omega,by omega⟩⟩
 have aQ:=Aa (HV.out.later Bx)
 have ae:=Aa ao.X
 have aR:=Aa ao
 have aS:=Aa Bx
 have hw2:w.heap.size<=w2.heap.size:=Bx.size
 have aq:Hid (∀w',Al (Cq (w.heap.size+1) w.heap.size) w2 w'->Below w.heap.size w w'):=λw' h=>aS.out.trans (h.below hw2 (λb hb=>by rcases hb with e|e<;>omega))
 clear ao Bx az a6
 go_loopw [10] (λi wr=>YY w2 (w.heap.size+1) w.heap.size (λb=>X b/\b<w.heap.size) ls i wr) (λi wr=>ls.length-(intOf i).toNat)
 case atStart=>exact⟨0,100000,[],[],AE _,rfl,aR.out,Al.refl _ _,by omega,by omega,YF,by simpa using FR.done []⟩
 case round=>
  obtain⟨k,n,Z,s,hk,rfl,a7,a8,aT,aU,aA,aB⟩:=hrel
  have aV:=Aa a7
  have ah:=Aa a8
  have aW:=Aa aA
  have aC:=Aa aB
  clear a7 a8 aA aB
  by_cases aa:k<ls.length
  ·have ar:=aQ.out.exq ah.out ae.out
   have aX:=Aa ar
   obtain⟨b,o,rfl,aD,aF⟩:=ar.at k aa
   have hk2:(k:Int)<(ls.length:Int):=by omega
   have aG:=ay.out ls[k] (AV aa)
   have hD:Below wr.heap.size wr wr.drew:=(Af _ _).drew
   have HW:=Aa (YT (w.heap.size+1) w.heap.size (λb=>X b/\b<w.heap.size) n.toNat n Z s ls[k].l ls[k].r b (o+k*4) b (o+k*4+2) wr.drew rfl aU aT aW.out (aV.out.later hD) (aD.exq (Al.ofBelow (Q:=Cq (w.heap.size+1) w.heap.size) hD) ae.out) (aF.exq (Al.ofBelow (Q:=Cq (w.heap.size+1) w.heap.size) hD) ae.out) aG.1 aG.2)
   have aH:Hid (w.heap.size<=wr.heap.size):=AX hw2 ah.out.size
   clear aD aF hD ar
   go_wp2_with fail
   go_region_held3 (λw'=>w.heap.size<=w'.heap.size) (first|exact aH.out|exact au|go_keep)
    ((go_at_call 97; refine HW.out.mono ?_; rintro e w5 ⟨code,n5,Z5,rfl,aI,aJ,ai,bo,bp,aY,aK⟩; have au:w.heap.size<=w5.heap.size:=AX aH.out ai.size))
   have aL:=Aa aI
   have aZ:=Aa aJ
   have aM:=Aa ((ah.out.drew).trans ai)
   have ba:=Aa ((aX.out.exq ((Al.refl (Cq (w.heap.size+1) w.heap.size) _).drew) ae.out).exq ai ae.out)
   have aN:=Aa aK
   clear aI aJ ai aK
   by_cases aj:code=0
   ·subst aj
    have ak:0<=n5:=by
     by_cases h:n5<0
     ·exact absurd rfl (aY h)
     ·omega
    obtain⟨s5,af,ag⟩:=aN.out ak
    have bb:=Aa af
    have bc:=Aa (Rm aa aC.out ag)
    clear af ag
    go_wp2_with fail
    go_roundw
    case rel=>exact⟨k+1,n5,Z5,s5,by omega,by go_num,aL.out,aM.out,by omega,ak,bb.out,bc.out⟩
    case measure=>simp[intOf]; omega
   ·have av:(code==0)=false:=DL.2 aj
    have bf:(code !=0)=true:=by simp[bne,av]
    have bg:=Aa aj
    clear aj
    go_wp2_with fail
    refine(YW (w.heap.size+1) w.heap.size (λb=>X b/\b<w.heap.size) Z5 aZ.out n5 (by omega) (by omega) ls ay.out _ w5 aL.out ba.out).mono ?_
    rintro e w6 ⟨r,n6,rfl,bh,aO,aw,hsm⟩
    have aP:=Aa (aM.out.trans aO)
    have bj:=Aa hsm
    clear bh aO hsm
    cases r with
    |true=>
     have ak:0<=n5:=by
      by_cases h:n5<0
      ·have:=aw h (λe=>by rw[e] at aa; simp at aa)
       cases this
      ·omega
     obtain⟨s5,af,ag⟩:=aN.out ak
     have bk:=Aa (FR.ends (YI (k+1) bg.out (Rm aa aC.out ag)) ax (bj.out s5 af rfl))
     clear af ag
     go_wp2_with fail
     refine Ap (v:=.int .i64 code) (by simp[results,Tryz.results84,go_sem]) rfl ?_
     obtain⟨⟨g,hg⟩,bl⟩:=bk.out
     exact⟨code,rfl,aq.out _ aP.out,λ_=>⟨g,s5,hg,bl⟩⟩
    |false=>
     go_wp2_with fail
     refine Ap (v:=.int .i64 0) (by simp[results,Tryz.results84,go_sem]) rfl ?_
     exact⟨0,rfl,aq.out _ aP.out,λh=>absurd rfl h⟩
  ·go_wp2_with fail
   refine Ap (v:=.int .i64 0) (by simp[results,Tryz.results84,go_sem]) rfl ?_
   exact⟨0,rfl,aq.out _ ah.out,λh=>absurd rfl h⟩
theorem M0 {lim:Bool}:∀(n m:Nat) (s:List Bd) (l:List Pr) (r r':Int×List Bd),AQ lim n s l=some r->AQ lim m s l=some r'->r=r'
 |0,_,_,_,_,_,h,_=>by cases h
 |_+1,0,_,_,_,_,_,h=>by cases h
 |n+1,m+1,s,l,r,r',h,h'=>by
  rw[AQ]at h h'
  cases hn:Em lim s l with
  |stop e s'=>
   rw[hn]at h h'
   cases h; cases h'; rfl
  |go s' l'=>
   rw[hn]at h h'
   exact M0 n m s' l' r r' h h'
def GC:Value->Option (DataW Unit×List MemPlace):=λ_=>some (.nil,[])
theorem Y3 {w:World} {q:Nat} {L:List (ByteArray×Value)} (h:Bl w q L) (hap:(L.map (·.1)).Pairwise (·≠·)) (hsz:∀p∈L,p.1.size<=maxLen) (hl:L.length<=maxLen):
  ∃D0:DataW Unit,w.ownsMap Tryz.prog 9 GC q L.length D0/\(strKeys D0).Perm (L.map (λp=>p.1.data.toList))/\Go.Maps.size D0=L.length:=by
 obtain⟨es,aa,hb,he,hst⟩:=h
 have hlen:es.toList.length=L.length:=by have:=Bu List.length he; simpa using this
 have hkey:∀i (h1:i<es.toList.length) (h2:i<L.length),es.toList[i].key=.string L[i].1:=λi h1 h2=>by
  have e1:(es.toList.map (λe=>(e.key,e.val)))[i]? = (L.map (λp=>(Value.string p.1,p.2)))[i]? := by rw[he]
  rw[List.getElem?_map,List.getElem?_map,Ha h1,Ha h2]at e1
  simp only[Option.map_some,GH,Prod.mk.injEq] at e1
  exact e1.1
 have ae:∀x∈es.toList,∃p∈L,x.key=.string p.1:=λx hx=>by
  obtain⟨i,hi,rfl⟩:=Hb hx
  have h2:i<L.length:=by omega
  exact⟨L[i],AV h2,hkey i hi h2⟩
 have af:∀x∈es.toList,∀s:ByteArray,x.key=.string s->s.size<=maxLen->WideElems.rd Tryz.prog 9 GC x=some (.string s.data.toList,.nil):=λx hx s hs hz=>by
  unfold WideElems.rd GC
  rw[hs,Go.WideMaps.keyOf_string_mk Tryz.underlying9 hz]
  rfl
 have F:WideElems.Fit Tryz.prog 9 GC es aa:=by
  refine⟨by rw[<-Array.length_toList]; omega,(MapKept.stamped_iff es aa).2 ⟨hst.1,hst.2,?_⟩,λx hx=>?_⟩
  ·rw[JU]
   intro i j hi hj ag e
   rw[hkey i hi (by omega),hkey j hj (by omega)]at e
   rw[FP,JU]at hap
   have:=hap i j (by omega) (by omega) ag
   exact this (by simpa using e)
  ·obtain⟨p,hp,e⟩:=ae x hx
   exact⟨_,af x hx p.1 e (hsz p hp)⟩
 refine⟨.map ((es.toList.map (WideElems.rg Tryz.prog 9 GC)).foldr DataW.insert []),⟨es,aa,hb,F,by rw[<-Array.length_toList]; omega,rfl⟩,?_,?_⟩
 ·have h1:(strKeys (DataW.map ((es.toList.map (WideElems.rg Tryz.prog 9 GC)).foldr DataW.insert []):DataW Unit)).Perm ((es.toList.map (WideElems.rg Tryz.prog 9 GC)).map λp=>strOf p.1):=(WideShapes.sorted_perm _).map _
  refine h1.trans ?_
  have h2:(es.toList.map (WideElems.rg Tryz.prog 9 GC)).map (λp=>strOf p.1)=L.map (λp=>p.1.data.toList):=by
   refine List.ext_getElem (by simp; omega) λi h3 h4=>?_
   simp only[DZ] at h3 h4
   simp only[Hc]
   unfold WideElems.rg
   rw[af _ (AV h3) L[i].1 (hkey i h3 h4) (hsz _ (AV h4))]
   rfl
  rw[h2]
 ·rw[Maps.size_eq,Go.length_sorted]
  simpa using hlen
open Go.RowKit Go.Maps Go.Sort Go.Shelf
theorem Y4 (m:Nat):AnyZ.SortsIn Tryz.prog Tryz.sortedK_ren Fence.wide m:=
 ⟨λblk off cap ss W hH hblk hsz=>DN.2 (AnyM.slices_Sort_string Tryz.sortK blk off cap ss W hH hblk hsz),
  λp cap W=>DN.2 (AnyM.slices_Sort_string_none Tryz.sortK p cap W)⟩
theorem Y5 (mb:Option Nat) (W:World):CallsIn Fence.wide 5 Tryz.prog 122 #[.map mb] W λe w'=>e=.returned (.func (.func 136) #[] #[.pointer (some ⟨W.heap.size,0,none⟩)])/\w'=W.alloc (.cells #[.map mb] 133):=
 AnyZ.keys_in Tryz.keysK Fence.wide 5 trivial rfl mb W
theorem Y6 {H:Type} (b nn:Nat) (D0:DataW H) (R:Value->Option (DataW H×List MemPlace)) (w:World) (hown:w.ownsMap Tryz.prog 9 R b nn D0) (ae:Maps.size D0<=maxLen) (aa:Maps.size D0*16<=140737488355328):
  CallsIn Fence.wide 5 Tryz.prog 121 #[.func (.func 136) #[] #[.pointer (some ⟨w.heap.size,0,none⟩)]] (w.alloc (.cells #[.map (some b)] 133)) λe w'=>∃(v:Value) (ss:List (List UInt8)),e=.returned v/\ss.Perm (strKeys D0)/\
   w'.ownsRow (w.alloc (.cells #[.map (some b)] 133)).heap.size 9 1 v ss.length ((ss.mergeSort (λx y=>decide (x<=y))).map encStr)/\(v=.slice none 0 0↔ss=[])/\Below (w.alloc (.cells #[.map (some b)] 133)).heap.size (w.alloc (.cells #[.map (some b)] 133)) w':=by
 have af:=hown.lt
 have hseq:SeqGives Fence.wide 2 Tryz.prog 136 #[.pointer (some ⟨w.heap.size,0,none⟩)] encStr (λss=>ss.Perm (strKeys D0)) (Maps.size D0) (w.alloc (.cells #[.map (some b)] 133)):=
  AnyZ.keys_gives (ρ:=Tryz.keysK_ren) { Tryz.keysK with} Fence.wide _ trivial rfl (by omega) w.heap.size b nn D0 _ (by simp) (by simp) (by
   obtain⟨es,clock,hb,Ft,hs,hD⟩:=hown
   exact⟨es,clock,(AP _ _ b af).trans hb,Ft,hs,hD⟩)
 exact AnyZ.sorted_in Tryz.sortedK Fence.wide 5 trivial trivial trivial trivial rfl (by omega) (Y4 _) (enters_of Tryz.func135 (by kernel_rfl) rfl) 136 #[.pointer (some ⟨w.heap.size,0,none⟩)] trivial (enters_of Tryz.func136 (by kernel_rfl) rfl) _ _ ae aa _ hseq
theorem Rs:MO:=by
 intro q L w hM hap hsz hlen
 refine⟨DN.1 (Y5 (some q) w),?_⟩
 obtain⟨D0,hown,ae,aa⟩:=Y3 hM hap (λp hp=>by have:=hsz p hp; unfold maxLen; omega) (by unfold maxLen; omega)
 refine(DN.1 (Y6 q L.length D0 GC w hown (by rw[aa]; unfold maxLen; omega) (by rw[aa]; omega))).mono ?_
 rintro e w' ⟨v,ss,rfl,hp,hrow,_,hb⟩
 have ag:(w.alloc (.cells #[.map (some q)] 133)).heap.size=w.heap.size+1:=by simp
 rw[ag]at hrow hb
 have af:=List.mergeSort_perm ss (λx y=>decide (x<=y))
 have ah:(ss.mergeSort (λx y=>decide (x<=y))).Pairwise (λa b=>decide (a<=b)=true):=List.pairwise_mergeSort (λa b c h1 h2=>by simp at *; exact List.le_trans h1 h2) (λa b=>by simp; exact List.le_total a b) ss
 generalize ss.mergeSort (λx y=>decide (x<=y))=ms at *
 refine⟨v,ms.map (λl=>⟨l.toArray⟩),rfl,?_,?_,?_,hb⟩
 ·have h1:ms.Perm (L.map (λp=>p.1.data.toList)):=(af.trans hp).trans ae
  have h2:=h1.map (λl:List UInt8=>(⟨l.toArray⟩:ByteArray))
  simpa [Function.comp_def] using h2
 ·rw[FP]
  refine ah.imp fun {a b} h=>?_
  unfold Cs
  have e1:(⟨b.toArray⟩:ByteArray).toList=b:=by rw[GG]
  have e2:(⟨a.toArray⟩:ByteArray).toList=a:=by rw[GG]
  rw[e1,e2,bytesLess_eq]
  have h2:a<=b:=by simpa using h
  simpa using h2
 ·have h1:=LV.of_own (f:=Value.string) (l:=ms.map (λl:List UInt8=>(⟨l.toArray⟩:ByteArray))) (w:=w') (N:=w.heap.size+1) (T:=9) (v:=v) (by
   have h2:ms.length=ss.length:=af.length_eq
   rw[DZ,h2,List.map_map]
   exact hrow)
  exact h1
theorem Ex.below {w w0 w':World} {B:Nat} (h:Ex B w0 w') (h0:Below w.heap.size w w0) (hB:w.heap.size<=B):Below w.heap.size w w':=
 ⟨h.os.trans h0.os,h.tape.trans h0.tape,h.output.trans h0.output,AX h0.size h.size,λk hk=>(h.block k (Do hk h0.size) (by omega)).trans (h0.block k hk)⟩
end Go.Proofs.YtlkeafenklamjaaGreatDoor
