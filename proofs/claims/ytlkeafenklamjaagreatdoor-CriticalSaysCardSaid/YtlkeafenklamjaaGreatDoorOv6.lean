import Derived.Test.YtlkeafenklamjaaGreatDoorOv5
import Derived.Laws.EntriesVeiled
namespace Go.Proofs.YtlkeafenklamjaaGreatDoor
set_option linter.all false
set_option maxRecDepth 20000
set_option maxHeartbeats 8000000
open Go.RowKit
theorem Zs (v0 v1 v2 v3 v4 v5 v6 v7:Value) (w:World):Sem.run Tryz.prog (Instr.index 66 (.agg #[v0,v1,v2,v3,v4,v5,v6,v7]) (.int .i64 0)) w=.ok (.agg #[v0,v1,v2,v3]) w:=by kernel_rfl
theorem Zt (v0 v1 v2 v3 v4 v5 v6 v7:Value) (w:World):Sem.run Tryz.prog (Instr.index 66 (.agg #[v0,v1,v2,v3,v4,v5,v6,v7]) (.int .i64 1)) w=.ok (.agg #[v4,v5,v6,v7]) w:=by kernel_rfl
structure GD (w:World) (P R B r Bn:Nat) (cs:Array Value) (ns:List ByteArray) (wr:World):Prop where
 pb:Ac wr P cs 66
 rb:Ac wr R #[.string ⟨#[]⟩,.slice none 0 0,.string ⟨#[]⟩,.slice none 0 0,.string ⟨#[]⟩,.slice none 0 0,.string ⟨#[]⟩,.slice none 0 0] 66
 nm:CW wr B r ns
 bn:Ac wr Bn #[.func (.func 80) #[] #[.pointer (some ⟨B,0,none⟩)]] 89
 bl:Below w.heap.size w wr
 sz:w.heap.size+2<=r/\w.heap.size+2<=B/\w.heap.size+2<=Bn/\Bn≠r
theorem GD.later {w wr w':World} {P R B r Bn:Nat} {cs:Array Value} {ns:List ByteArray} (h:GD w P R B r Bn cs ns wr) (hb:Below wr.heap.size wr w'):GD w P R B r Bn cs ns w':=
 ⟨h.pb.below hb h.pb.lt,h.rb.below hb h.rb.lt,h.nm.later hb,h.bn.below hb h.bn.lt,h.bl.trans (hb.mono h.bl.size),h.sz⟩
def Zu (w:World) (P R B r Bn:Nat) (oa nb:Pr) (a1 a2 a3 a4:Option Addr) (c1 c2 c3 c4:Nat) (o:Value) (wr:World):Prop:=
 (o=.int .i64 0/\GD w P R B r Bn #[.string oa.l.name,.slice a1 oa.l.args.length c1,.string oa.r.name,.slice a2 oa.r.args.length c2,.string nb.l.name,.slice a3 nb.l.args.length c3,.string nb.r.name,.slice a4 nb.r.args.length c4] [] wr)∨
 (o=.int .i64 1/\∃x b1 d1 b2 d2 ns,(x,ns)=Cl (AA 0) [] oa/\GD w P R B r Bn #[.string x.l.name,.slice b1 x.l.args.length d1,.string x.r.name,.slice b2 x.r.args.length d2,.string nb.l.name,.slice a3 nb.l.args.length c3,.string nb.r.name,.slice a4 nb.r.args.length c4] ns wr/\Sl wr (λb=>w.heap.size+2<=b/\b≠r) b1 x.l.args/\Sl wr (λb=>w.heap.size+2<=b/\b≠r) b2 x.r.args)∨
 (o=.int .i64 2/\∃x y b1 d1 b2 d2 b3 d3 b4 d4 ns,(x,y)=Av oa nb/\GD w P R B r Bn #[.string x.l.name,.slice b1 x.l.args.length d1,.string x.r.name,.slice b2 x.r.args.length d2,.string y.l.name,.slice b3 y.l.args.length d3,.string y.r.name,.slice b4 y.r.args.length d4] ns wr/\Sl wr (λb=>w.heap.size+2<=b/\b≠r) b1 x.l.args/\Sl wr (λb=>w.heap.size+2<=b/\b≠r) b2 x.r.args/\Sl wr (λb=>w.heap.size+2<=b/\b≠r) b3 y.l.args/\Sl wr (λb=>w.heap.size+2<=b/\b≠r) b4 y.r.args)
def Zv (oa nb:Pr) (w:World) (e:Ending) (w':World):Prop:=
 Below w.heap.size w w'/\∃x y b1 d1 b2 d2 b3 d3 b4 d4,(x,y)=Av oa nb/\e=.returned (.agg #[.string x.l.name,.slice b1 x.l.args.length d1,.string x.r.name,.slice b2 x.r.args.length d2,.string y.l.name,.slice b3 y.l.args.length d3,.string y.r.name,.slice b4 y.r.args.length d4])/\Sl w' (λb=>w.heap.size<=b) b1 x.l.args/\Sl w' (λb=>w.heap.size<=b) b2 x.r.args/\Sl w' (λb=>w.heap.size<=b) b3 y.l.args/\Sl w' (λb=>w.heap.size<=b) b4 y.r.args
theorem RM (BT:Nat) (oa nb:Pr) (a1 a2 a3 a4:Option Addr) (c1 c2 c3 c4:Nat) (w:World) (X:Nat->Prop) (hs1:Sl w X a1 oa.l.args) (hs2:Sl w X a2 oa.r.args) (hs3:Sl w X a3 nb.l.args) (bg:Sl w X a4 nb.r.args) (ho:Ay oa.l=0/\Ay oa.r=0) (hn:Ay nb.l=0/\Ay nb.r=0) (hT:Tb BT w) (bh:BT<=w.heap.size):
  Calls Tryz.prog 34 #[.agg #[.string oa.l.name,.slice a1 oa.l.args.length c1,.string oa.r.name,.slice a2 oa.r.args.length c2,.string nb.l.name,.slice a3 nb.l.args.length c3,.string nb.r.name,.slice a4 nb.r.args.length c4]] w λe w'=>Zv oa nb w e w':=by
 have bp:=Aa (hs1.mono (Y:=λb=>b<w.heap.size) λb h1 h2=>h2)
 have bq:=Aa (hs2.mono (Y:=λb=>b<w.heap.size) λb h1 h2=>h2)
 have br:=Aa (hs3.mono (Y:=λb=>b<w.heap.size) λb h1 h2=>h2)
 have bs:=Aa (bg.mono (Y:=λb=>b<w.heap.size) λb h1 h2=>h2)
 have HT:=Aa hT
 have HO:=Aa ho
 have aM:=Aa hn
 clear hs1 hs2 hs3 bg hT ho hn
 have bx:=@hmq Tryz.prog
 go_enter Tryz.func34,Tryz.ntmps34
 go_wp2_with fail
 have Bx:Below w.heap.size w ((w.alloc (.cells #[.string oa.l.name,.slice a1 oa.l.args.length c1,.string oa.r.name,.slice a2 oa.r.args.length c2,.string nb.l.name,.slice a3 nb.l.args.length c3,.string nb.r.name,.slice a4 nb.r.args.length c4] 66)).alloc (.cells #[.string ⟨#[]⟩,.slice none 0 0,.string ⟨#[]⟩,.slice none 0 0,.string ⟨#[]⟩,.slice none 0 0,.string ⟨#[]⟩,.slice none 0 0] 66)):=((Af _ _).alloc (Aj _) _).alloc (by simp) _
 have aN:Ac ((w.alloc (.cells #[.string oa.l.name,.slice a1 oa.l.args.length c1,.string oa.r.name,.slice a2 oa.r.args.length c2,.string nb.l.name,.slice a3 nb.l.args.length c3,.string nb.r.name,.slice a4 nb.r.args.length c4] 66)).alloc (.cells #[.string ⟨#[]⟩,.slice none 0 0,.string ⟨#[]⟩,.slice none 0 0,.string ⟨#[]⟩,.slice none 0 0,.string ⟨#[]⟩,.slice none 0 0] 66)) w.heap.size #[.string oa.l.name,.slice a1 oa.l.args.length c1,.string oa.r.name,.slice a2 oa.r.args.length c2,.string nb.l.name,.slice a3 nb.l.args.length c3,.string nb.r.name,.slice a4 nb.r.args.length c4] 66:=(Ac.new w _ _).alloc _
 have aO:Ac ((w.alloc (.cells #[.string oa.l.name,.slice a1 oa.l.args.length c1,.string oa.r.name,.slice a2 oa.r.args.length c2,.string nb.l.name,.slice a3 nb.l.args.length c3,.string nb.r.name,.slice a4 nb.r.args.length c4] 66)).alloc (.cells #[.string ⟨#[]⟩,.slice none 0 0,.string ⟨#[]⟩,.slice none 0 0,.string ⟨#[]⟩,.slice none 0 0,.string ⟨#[]⟩,.slice none 0 0] 66)) (w.heap.size+1) #[.string ⟨#[]⟩,.slice none 0 0,.string ⟨#[]⟩,.slice none 0 0,.string ⟨#[]⟩,.slice none 0 0,.string ⟨#[]⟩,.slice none 0 0] 66:=by
  have h:=Ac.new (w.alloc (.cells #[.string oa.l.name,.slice a1 oa.l.args.length c1,.string oa.r.name,.slice a2 oa.r.args.length c2,.string nb.l.name,.slice a3 nb.l.args.length c3,.string nb.r.name,.slice a4 nb.r.args.length c4] 66)) #[.string ⟨#[]⟩,.slice none 0 0,.string ⟨#[]⟩,.slice none 0 0,.string ⟨#[]⟩,.slice none 0 0,.string ⟨#[]⟩,.slice none 0 0] 66
  rw[CN]at h
  exact h
 have hz2:((w.alloc (.cells #[.string oa.l.name,.slice a1 oa.l.args.length c1,.string oa.r.name,.slice a2 oa.r.args.length c2,.string nb.l.name,.slice a3 nb.l.args.length c3,.string nb.r.name,.slice a4 nb.r.args.length c4] 66)).alloc (.cells #[.string ⟨#[]⟩,.slice none 0 0,.string ⟨#[]⟩,.slice none 0 0,.string ⟨#[]⟩,.slice none 0 0,.string ⟨#[]⟩,.slice none 0 0] 66)).heap.size=w.heap.size+2:=by simp
 generalize (w.alloc (.cells #[.string oa.l.name,.slice a1 oa.l.args.length c1,.string oa.r.name,.slice a2 oa.r.args.length c2,.string nb.l.name,.slice a3 nb.l.args.length c3,.string nb.r.name,.slice a4 nb.r.args.length c4] 66)).alloc (.cells #[.string ⟨#[]⟩,.slice none 0 0,.string ⟨#[]⟩,.slice none 0 0,.string ⟨#[]⟩,.slice none 0 0,.string ⟨#[]⟩,.slice none 0 0] 66)=W at *
 obtain⟨R,hR⟩:∃R,R=w.heap.size+1:=⟨_,rfl⟩
 obtain⟨P,hP⟩:∃P,P=w.heap.size:=⟨_,rfl⟩
 rw[<-hR]at aO ⊢
 rw[<-hP]at aN ⊢
 have af:Hid (R=w.heap.size+1/\P=w.heap.size):=⟨hR,hP⟩
 clear hR hP
 refine(Ol _).mono ?_
 rintro e w3 ⟨B,r,rfl,aR,hr3,bt,hb3⟩
 have bj:Hid (GD w P R B r w3.heap.size #[.string oa.l.name,.slice a1 oa.l.args.length c1,.string oa.r.name,.slice a2 oa.r.args.length c2,.string nb.l.name,.slice a3 nb.l.args.length c3,.string nb.r.name,.slice a4 nb.r.args.length c4] [] (w3.alloc (.cells #[.func (.func 80) #[] #[.pointer (some ⟨B,0,none⟩)]] 89))):=by
  have bk:Below w3.heap.size w3 (w3.alloc (.cells #[.func (.func 80) #[] #[.pointer (some ⟨B,0,none⟩)]] 89)):=(Af _ _).alloc (Aj _) _
  have aS:=hb3.trans (bk.mono hb3.size)
  have aP:=aR.map.lt
  have hsz:=hb3.size
  exact⟨aN.below aS aN.lt,aO.below aS aO.lt,aR.later bk,Ac.new w3 _ _,Bx.trans (aS.mono Bx.size),by omega⟩
 clear aR hr3 bt hb3 Bx aN aO hz2
 have ai:=Aa bj.out.pb
 have p0:(w3.alloc (.cells #[.func (.func 80) #[] #[.pointer (some ⟨B,0,none⟩)]] 89)).cell? ⟨P,0,none⟩=some (.string oa.l.name):=ai.out.cell 0
 have p1:(w3.alloc (.cells #[.func (.func 80) #[] #[.pointer (some ⟨B,0,none⟩)]] 89)).cell? ⟨P,1,none⟩=some (.slice a1 oa.l.args.length c1):=ai.out.cell 1
 have p2:(w3.alloc (.cells #[.func (.func 80) #[] #[.pointer (some ⟨B,0,none⟩)]] 89)).cell? ⟨P,2,none⟩=some (.string oa.r.name):=ai.out.cell 2
 have p3:(w3.alloc (.cells #[.func (.func 80) #[] #[.pointer (some ⟨B,0,none⟩)]] 89)).cell? ⟨P,3,none⟩=some (.slice a2 oa.r.args.length c2):=ai.out.cell 3
 have p4:(w3.alloc (.cells #[.func (.func 80) #[] #[.pointer (some ⟨B,0,none⟩)]] 89)).cell? ⟨P,4,none⟩=some (.string nb.l.name):=ai.out.cell 4
 have p5:(w3.alloc (.cells #[.func (.func 80) #[] #[.pointer (some ⟨B,0,none⟩)]] 89)).cell? ⟨P,5,none⟩=some (.slice a3 nb.l.args.length c3):=ai.out.cell 5
 have p6:(w3.alloc (.cells #[.func (.func 80) #[] #[.pointer (some ⟨B,0,none⟩)]] 89)).cell? ⟨P,6,none⟩=some (.string nb.r.name):=ai.out.cell 6
 have p7:(w3.alloc (.cells #[.func (.func 80) #[] #[.pointer (some ⟨B,0,none⟩)]] 89)).cell? ⟨P,7,none⟩=some (.slice a4 nb.r.args.length c4):=ai.out.cell 7
 go_wp2_with fail
 generalize (w3.alloc (.cells #[.func (.func 80) #[] #[.pointer (some ⟨B,0,none⟩)]] 89))=w4 at *
 clear p0 p1 p2 p3 p4 p5 p6 p7
 generalize w3.heap.size=Bn at *
 have bu:=Zs
 have bw:=Zt
 go_loopw [9] (λo wr=>Zu w P R B r Bn oa nb a1 a2 a3 a4 c1 c2 c3 c4 o wr) (λo wr=>2-(intOf o).toNat)
 case atStart=>exact Ad ⟨rfl,bj.out⟩
 case round=>
  rcases hrel with ⟨rfl,hS⟩|⟨rfl,x,b1,d1,b2,d2,ns,hx,hS,hx1,hx2⟩|⟨rfl,x,y,b1,d1,b2,d2,b3,d3,b4,d4,ns,hx,hS,hx1,hx2,hx3,bm⟩
  ·go_wp2_with fail
   have hb2:Below wr.heap.size wr ((wr.alloc (.cells #[.int .i64 0] 3)).alloc (.cells #[.string oa.l.name,.slice a1 oa.l.args.length c1,.string oa.r.name,.slice a2 oa.r.args.length c2] 31)):=((Af _ _).alloc (Aj _) _).alloc (by simp) _
   have aj:Ac ((wr.alloc (.cells #[.int .i64 0] 3)).alloc (.cells #[.string oa.l.name,.slice a1 oa.l.args.length c1,.string oa.r.name,.slice a2 oa.r.args.length c2] 31)) wr.heap.size #[.int .i64 0] 3:=(Ac.new wr _ _).alloc _
   have ak:Ac ((wr.alloc (.cells #[.int .i64 0] 3)).alloc (.cells #[.string oa.l.name,.slice a1 oa.l.args.length c1,.string oa.r.name,.slice a2 oa.r.args.length c2] 31)) (wr.heap.size+1) #[.string oa.l.name,.slice a1 oa.l.args.length c1,.string oa.r.name,.slice a2 oa.r.args.length c2] 31:=by
    have h:=Ac.new (wr.alloc (.cells #[.int .i64 0] 3)) #[.string oa.l.name,.slice a1 oa.l.args.length c1,.string oa.r.name,.slice a2 oa.r.args.length c2] 31
    rw[CN]at h
    exact h
   have hz2:((wr.alloc (.cells #[.int .i64 0] 3)).alloc (.cells #[.string oa.l.name,.slice a1 oa.l.args.length c1,.string oa.r.name,.slice a2 oa.r.args.length c2] 31)).heap.size=wr.heap.size+2:=by simp
   have aw:=hS.later hb2
   have aT:=hS.bl.size
   have aU:=hS.pb.lt
   have aP:=hS.nm.map.lt
   have aV:=hS.rb.lt
   have aW:=hS.bn.lt
   generalize (wr.alloc (.cells #[.int .i64 0] 3)).alloc (.cells #[.string oa.l.name,.slice a1 oa.l.args.length c1,.string oa.r.name,.slice a2 oa.r.args.length c2] 31)=W2 at *
   obtain⟨Bi,ax⟩:∃Bi,Bi=wr.heap.size:=⟨_,rfl⟩
   obtain⟨Bp,ay⟩:∃Bp,Bp=wr.heap.size+1:=⟨_,rfl⟩
   rw[<-ay]at ak ⊢
   rw[<-ax]at aj ⊢
   have ae:Hid (Bi=wr.heap.size/\Bp=wr.heap.size+1/\w.heap.size<=wr.heap.size/\r<wr.heap.size/\R<wr.heap.size/\P<wr.heap.size/\Bn<wr.heap.size):=by unfold Hid; omega
   have HZD:Hid (W2.drew.heap.size=wr.heap.size+2):=hz2
   have ao:Below W2.heap.size W2 W2.drew:=(Af _ W2).drew
   have aa:=Aa (aw.later ao)
   have HI:Hid (Ac W2.drew Bi #[.int .i64 0] 3):=aj.drewN 1
   have HQ:Hid (Ac W2.drew Bp #[.string oa.l.name,.slice a1 oa.l.args.length c1,.string oa.r.name,.slice a2 oa.r.args.length c2] 31):=ak.drewN 1
   clear hS aw hb2 aj ak hz2 ao aT aU aP aV aW ax ay 
   refine CU (S:=λw'=>Ac w' Bi #[.int .i64 0] 3/\Ac w' Bp #[.string oa.l.name,.slice a1 oa.l.args.length c1,.string oa.r.name,.slice a2 oa.r.args.length c2] 31) (by kernel_rfl) ⟨HI.out,HQ.out⟩ (λhHeld=>?_)
   generalize W2.drew=wd at *
   refine tkz 0 ?_ (hy:=by intro w' hSw;have c0:=hSw.1.cell 0;go_simp<;>with_reducible rfl)
   refine tkz 1 ?_ (hy:=by intro w' hSw;have c0:=hSw.2.cell 0;have c1:=hSw.2.cell 1;have c2:=hSw.2.cell 2;have c3:=hSw.2.cell 3;go_simp<;>with_reducible rfl)
   refine tkz 2 ?_
   refine rdq 3 rfl λK hK=>?_
   go_simp
   go_at_call 57
   refine(RG BT B r Bn Bi 0 (by have:=aa.out.sz; omega) (by decide) aa.out.sz.2.2.2 (by have:=ae.out; omega) oa a1 a2 c1 c2 [] _ (λb=>b<w.heap.size) (bp.out.later aa.out.bl) (bq.out.later aa.out.bl) (λb hb=>by have:=aa.out.sz; omega) aa.out.nm ⟨aa.out.bn,HI.out⟩ (HT.out.on (aa.out.bl.mono bh)) (by have h1:=CC HO.out.1; have h2:=CC HO.out.2; simp only[EN]; omega) (Dy HO.out.1) (Dy HO.out.2)).mono ?_
   rintro e w6 ⟨e1,f1,e2,f2,rfl,az,a6,a7,ah⟩
   have a8:=HI.out.exq ah (by have:=ae.out; omega)
   have aA:=HQ.out.exq ah (by have:=ae.out; omega)
   have aB:=aa.out.pb.exq ah (by have h1:=aa.out.sz; have h2:=af.out; omega)
   have aC:=aa.out.rb.exq ah (by have h1:=aa.out.sz; have h2:=af.out; omega)
   have aD:=aa.out.bn.exq ah aa.out.sz.2.2.2
   have aF:Below w.heap.size w w6:=aa.out.bl.trans (ah.below (aa.out.bl.size) (λb hb=>by have:=aa.out.sz; omega))
   have aG:Sl w6 (λb=>w.heap.size+2<=b/\b≠r) e1 (Cl (AA 0) [] oa).1.l.args:=az.mono λb hb _=>by have h1:=HZD.out; have h2:=ae.out; have h3:=aa.out.sz; omega
   have aH:Sl w6 (λb=>w.heap.size+2<=b/\b≠r) e2 (Cl (AA 0) [] oa).1.r.args:=a6.mono λb hb _=>by have h1:=HZD.out; have h2:=ae.out; have h3:=aa.out.sz; omega
   have aq:=Aa (And.intro a8 aA)
   have ag:=Aa aB
   have aX:=Aa aC
   have aY:=Aa aD
   have aZ:=Aa aF
   have ar:=Aa aG
   have au:=Aa aH
   have av:=Aa a7
   have HG:=Aa aa.out.sz
   clear az a6 a7 ah a8 aA aB aC aD aF aG aH 
   obtain⟨z,nz,hz⟩:∃z nz,(z,nz)=Cl (AA 0) [] oa:=⟨_,_,rfl⟩
   rw[<-hz]at ar au av ⊢
   have HZ:=Aa hz
   clear hz
   simp only at ar au av ⊢
   go_simp
   refine hK.out _ _ (by exact aq.out) (λhHeld=>?_)
   clear hK K
   try simp only[Act.put,sq]
   refine tkz 4 ?_
   have q0:=ag.out.cell 0
   have q1:=ag.out.cell 1
   have q2:=ag.out.cell 2
   have q3:=ag.out.cell 3
   have q4:=ag.out.cell 4
   have q5:=ag.out.cell 5
   have q6:=ag.out.cell 6
   have q7:=ag.out.cell 7
   have qf:=ag.out.frozen
   have ql:P<w6.heap.size:=ag.out.lt
   refine rdq 5 rfl λK hK=>?_
   go_simp
   refine hK.out _ _ (by exact⟨(((aq.out.1.setOther _ _ (by have h1:=ae.out; have h2:=af.out; omega)).setOther _ _ (by have h1:=ae.out; have h2:=af.out; omega)).setOther _ _ (by have h1:=ae.out; have h2:=af.out; omega)).setOther _ _ (by have h1:=ae.out; have h2:=af.out; omega),(((aq.out.2.setOther _ _ (by have h1:=ae.out; have h2:=af.out; omega)).setOther _ _ (by have h1:=ae.out; have h2:=af.out; omega)).setOther _ _ (by have h1:=ae.out; have h2:=af.out; omega)).setOther _ _ (by have h1:=ae.out; have h2:=af.out; omega)⟩) (λhHeld=>?_)
   clear hK K
   try simp only[Act.put,sq]
   refine dnq ?_
   clear q0 q1 q2 q3 q4 q5 q6 q7
   go_wp2_with fail
   go_roundw
   case rel=>
    have g1:=HG.out
    have g2:=af.out
    have g3:=ae.out
    have hap:GD w P R B r Bn #[.string z.l.name,.slice e1 z.l.args.length f1,.string z.r.name,.slice e2 z.r.args.length f2,.string nb.l.name,.slice a3 nb.l.args.length c3,.string nb.r.name,.slice a4 nb.r.args.length c4] nz ((((w6.setCell ⟨P,0,none⟩ (.string z.l.name)).setCell ⟨P,1,none⟩ (.slice e1 z.l.args.length f1)).setCell ⟨P,2,none⟩ (.string z.r.name)).setCell ⟨P,3,none⟩ (.slice e2 z.r.args.length f2)):=
     ⟨(((ag.out.set 0 _).set 1 _).set 2 _).set 3 _,(((aX.out.setOther _ _ (by omega)).setOther _ _ (by omega)).setOther _ _ (by omega)).setOther _ _ (by omega),Er (Er (Er (Er av.out (by omega) (by omega)) (by omega) (by omega)) (by omega) (by omega)) (by omega) (by omega),(((aY.out.setOther _ _ (by omega)).setOther _ _ (by omega)).setOther _ _ (by omega)).setOther _ _ (by omega),(((aZ.out.setCell (p:=⟨P,0,none⟩) (by simp; omega) _).setCell (p:=⟨P,1,none⟩) (by simp; omega) _).setCell (p:=⟨P,2,none⟩) (by simp; omega) _).setCell (p:=⟨P,3,none⟩) (by simp; omega) _,HG.out⟩
    have kp:∀ {a:Option Addr} {l:List Tm},Sl w6 (λb=>w.heap.size+2<=b/\b≠r) a l->Sl ((((w6.setCell ⟨P,0,none⟩ (.string z.l.name)).setCell ⟨P,1,none⟩ (.slice e1 z.l.args.length f1)).setCell ⟨P,2,none⟩ (.string z.r.name)).setCell ⟨P,3,none⟩ (.slice e2 z.r.args.length f2)) (λb=>w.heap.size+2<=b/\b≠r) a l:=λh=>h.kept λb hb=>by
     have hne:b≠P:=by omega
     rw[Aq _ _ _ _ (by simpa using hne),Aq _ _ _ _ (by simpa using hne),Aq _ _ _ _ (by simpa using hne),Aq _ _ _ _ (by simpa using hne)]
    exact Ae (Ad ⟨rfl,z,e1,f1,e2,f2,nz,HZ.out,hap,kp ar.out,kp au.out⟩)
   case measure=>simp[intOf]
  ·have aQ:=Aa hx
   clear hx
   go_wp2_with fail
   have hb2:Below wr.heap.size wr ((wr.alloc (.cells #[.int .i64 1] 3)).alloc (.cells #[.string nb.l.name,.slice a3 nb.l.args.length c3,.string nb.r.name,.slice a4 nb.r.args.length c4] 31)):=((Af _ _).alloc (Aj _) _).alloc (by simp) _
   have aj:Ac ((wr.alloc (.cells #[.int .i64 1] 3)).alloc (.cells #[.string nb.l.name,.slice a3 nb.l.args.length c3,.string nb.r.name,.slice a4 nb.r.args.length c4] 31)) wr.heap.size #[.int .i64 1] 3:=(Ac.new wr _ _).alloc _
   have ak:Ac ((wr.alloc (.cells #[.int .i64 1] 3)).alloc (.cells #[.string nb.l.name,.slice a3 nb.l.args.length c3,.string nb.r.name,.slice a4 nb.r.args.length c4] 31)) (wr.heap.size+1) #[.string nb.l.name,.slice a3 nb.l.args.length c3,.string nb.r.name,.slice a4 nb.r.args.length c4] 31:=by
    have h:=Ac.new (wr.alloc (.cells #[.int .i64 1] 3)) #[.string nb.l.name,.slice a3 nb.l.args.length c3,.string nb.r.name,.slice a4 nb.r.args.length c4] 31
    rw[CN]at h
    exact h
   have hz2:((wr.alloc (.cells #[.int .i64 1] 3)).alloc (.cells #[.string nb.l.name,.slice a3 nb.l.args.length c3,.string nb.r.name,.slice a4 nb.r.args.length c4] 31)).heap.size=wr.heap.size+2:=by simp
   have aw:=hS.later hb2
   have aI:=hx1.later hb2
   have aJ:=hx2.later hb2
   have aT:=hS.bl.size
   have aU:=hS.pb.lt
   have aP:=hS.nm.map.lt
   have aV:=hS.rb.lt
   have aW:=hS.bn.lt
   generalize (wr.alloc (.cells #[.int .i64 1] 3)).alloc (.cells #[.string nb.l.name,.slice a3 nb.l.args.length c3,.string nb.r.name,.slice a4 nb.r.args.length c4] 31)=W2 at *
   obtain⟨Bi,ax⟩:∃Bi,Bi=wr.heap.size:=⟨_,rfl⟩
   obtain⟨Bp,ay⟩:∃Bp,Bp=wr.heap.size+1:=⟨_,rfl⟩
   rw[<-ay]at ak ⊢
   rw[<-ax]at aj ⊢
   have ae:Hid (Bi=wr.heap.size/\Bp=wr.heap.size+1/\w.heap.size<=wr.heap.size/\r<wr.heap.size/\R<wr.heap.size/\P<wr.heap.size/\Bn<wr.heap.size):=by unfold Hid; omega
   have HZD:Hid (W2.drew.heap.size=wr.heap.size+2):=hz2
   have ao:Below W2.heap.size W2 W2.drew:=(Af _ W2).drew
   have aa:=Aa (aw.later ao)
   have ba:=Aa (aI.later ao)
   have bb:=Aa (aJ.later ao)
   have HI:Hid (Ac W2.drew Bi #[.int .i64 1] 3):=aj.drewN 1
   have HQ:Hid (Ac W2.drew Bp #[.string nb.l.name,.slice a3 nb.l.args.length c3,.string nb.r.name,.slice a4 nb.r.args.length c4] 31):=ak.drewN 1
   clear hS aw hb2 aj ak hz2 ao aT aU aP aV aW ax ay hx1 aI hx2 aJ
   refine CU (S:=λw'=>Ac w' Bi #[.int .i64 1] 3/\Ac w' Bp #[.string nb.l.name,.slice a3 nb.l.args.length c3,.string nb.r.name,.slice a4 nb.r.args.length c4] 31) (by kernel_rfl) ⟨HI.out,HQ.out⟩ (λhHeld=>?_)
   generalize W2.drew=wd at *
   refine tkz 0 ?_ (hy:=by intro w' hSw;have c0:=hSw.1.cell 0;go_simp<;>with_reducible rfl)
   refine tkz 1 ?_ (hy:=by intro w' hSw;have c0:=hSw.2.cell 0;have c1:=hSw.2.cell 1;have c2:=hSw.2.cell 2;have c3:=hSw.2.cell 3;go_simp<;>with_reducible rfl)
   refine tkz 2 ?_
   refine rdq 3 rfl λK hK=>?_
   go_simp
   go_at_call 57
   refine(RG BT B r Bn Bi 1 (by have:=aa.out.sz; omega) (by decide) aa.out.sz.2.2.2 (by have:=ae.out; omega) nb a3 a4 c3 c4 ns _ (λb=>b<w.heap.size) (br.out.later aa.out.bl) (bs.out.later aa.out.bl) (λb hb=>by have:=aa.out.sz; omega) aa.out.nm ⟨aa.out.bn,HI.out⟩ (HT.out.on (aa.out.bl.mono bh)) (by have h1:=CC aM.out.1; have h2:=CC aM.out.2; have h3:=CC HO.out.1; have h4:=CC HO.out.2; have h5:=Ql (AA 0) oa []; rw[<-aQ.out] at h5; simp only[EN] at h5; omega) (Dy aM.out.1) (Dy aM.out.2)).mono ?_
   rintro e w6 ⟨e1,f1,e2,f2,rfl,az,a6,a7,ah⟩
   have a8:=HI.out.exq ah (by have:=ae.out; omega)
   have aA:=HQ.out.exq ah (by have:=ae.out; omega)
   have aB:=aa.out.pb.exq ah (by have h1:=aa.out.sz; have h2:=af.out; omega)
   have aC:=aa.out.rb.exq ah (by have h1:=aa.out.sz; have h2:=af.out; omega)
   have aD:=aa.out.bn.exq ah aa.out.sz.2.2.2
   have aF:Below w.heap.size w w6:=aa.out.bl.trans (ah.below (aa.out.bl.size) (λb hb=>by have:=aa.out.sz; omega))
   have aG:Sl w6 (λb=>w.heap.size+2<=b/\b≠r) e1 (Cl (AA 1) ns nb).1.l.args:=az.mono λb hb _=>by have h1:=HZD.out; have h2:=ae.out; have h3:=aa.out.sz; omega
   have aH:Sl w6 (λb=>w.heap.size+2<=b/\b≠r) e2 (Cl (AA 1) ns nb).1.r.args:=a6.mono λb hb _=>by have h1:=HZD.out; have h2:=ae.out; have h3:=aa.out.sz; omega
   have aK:=ba.out.exq ah (λb hb=>hb.2)
   have aL:=bb.out.exq ah (λb hb=>hb.2)
   have aq:=Aa (And.intro a8 aA)
   have ag:=Aa aB
   have aX:=Aa aC
   have aY:=Aa aD
   have aZ:=Aa aF
   have ar:=Aa aG
   have au:=Aa aH
   have av:=Aa a7
   have HG:=Aa aa.out.sz
   have bc:=Aa aK
   have bf:=Aa aL
   clear az a6 a7 ah a8 aA aB aC aD aF aG aH aK aL
   obtain⟨z,nz,hz⟩:∃z nz,(z,nz)=Cl (AA 1) ns nb:=⟨_,_,rfl⟩
   rw[<-hz]at ar au av ⊢
   have HZ:=Aa hz
   clear hz
   simp only at ar au av ⊢
   go_simp
   refine hK.out _ _ (by exact aq.out) (λhHeld=>?_)
   clear hK K
   try simp only[Act.put,sq]
   refine tkz 4 ?_
   have q0:=ag.out.cell 0
   have q1:=ag.out.cell 1
   have q2:=ag.out.cell 2
   have q3:=ag.out.cell 3
   have q4:=ag.out.cell 4
   have q5:=ag.out.cell 5
   have q6:=ag.out.cell 6
   have q7:=ag.out.cell 7
   have qf:=ag.out.frozen
   have ql:P<w6.heap.size:=ag.out.lt
   refine rdq 5 rfl λK hK=>?_
   go_simp
   refine hK.out _ _ (by exact⟨(((aq.out.1.setOther _ _ (by have h1:=ae.out; have h2:=af.out; omega)).setOther _ _ (by have h1:=ae.out; have h2:=af.out; omega)).setOther _ _ (by have h1:=ae.out; have h2:=af.out; omega)).setOther _ _ (by have h1:=ae.out; have h2:=af.out; omega),(((aq.out.2.setOther _ _ (by have h1:=ae.out; have h2:=af.out; omega)).setOther _ _ (by have h1:=ae.out; have h2:=af.out; omega)).setOther _ _ (by have h1:=ae.out; have h2:=af.out; omega)).setOther _ _ (by have h1:=ae.out; have h2:=af.out; omega)⟩) (λhHeld=>?_)
   clear hK K
   try simp only[Act.put,sq]
   refine dnq ?_
   clear q0 q1 q2 q3 q4 q5 q6 q7
   go_wp2_with fail
   go_roundw
   case rel=>
    have g1:=HG.out
    have g2:=af.out
    have g3:=ae.out
    have hap:GD w P R B r Bn #[.string x.l.name,.slice b1 x.l.args.length d1,.string x.r.name,.slice b2 x.r.args.length d2,.string z.l.name,.slice e1 z.l.args.length f1,.string z.r.name,.slice e2 z.r.args.length f2] nz ((((w6.setCell ⟨P,4,none⟩ (.string z.l.name)).setCell ⟨P,5,none⟩ (.slice e1 z.l.args.length f1)).setCell ⟨P,6,none⟩ (.string z.r.name)).setCell ⟨P,7,none⟩ (.slice e2 z.r.args.length f2)):=
     ⟨(((ag.out.set 4 _).set 5 _).set 6 _).set 7 _,(((aX.out.setOther _ _ (by omega)).setOther _ _ (by omega)).setOther _ _ (by omega)).setOther _ _ (by omega),Er (Er (Er (Er av.out (by omega) (by omega)) (by omega) (by omega)) (by omega) (by omega)) (by omega) (by omega),(((aY.out.setOther _ _ (by omega)).setOther _ _ (by omega)).setOther _ _ (by omega)).setOther _ _ (by omega),(((aZ.out.setCell (p:=⟨P,4,none⟩) (by simp; omega) _).setCell (p:=⟨P,5,none⟩) (by simp; omega) _).setCell (p:=⟨P,6,none⟩) (by simp; omega) _).setCell (p:=⟨P,7,none⟩) (by simp; omega) _,HG.out⟩
    have kp:∀ {a:Option Addr} {l:List Tm},Sl w6 (λb=>w.heap.size+2<=b/\b≠r) a l->Sl ((((w6.setCell ⟨P,4,none⟩ (.string z.l.name)).setCell ⟨P,5,none⟩ (.slice e1 z.l.args.length f1)).setCell ⟨P,6,none⟩ (.string z.r.name)).setCell ⟨P,7,none⟩ (.slice e2 z.r.args.length f2)) (λb=>w.heap.size+2<=b/\b≠r) a l:=λh=>h.kept λb hb=>by
     have hne:b≠P:=by omega
     rw[Aq _ _ _ _ (by simpa using hne),Aq _ _ _ _ (by simpa using hne),Aq _ _ _ _ (by simpa using hne),Aq _ _ _ _ (by simpa using hne)]
    exact Ae (Ae ⟨rfl,x,z,b1,d1,b2,d2,e1,f1,e2,f2,nz,by unfold Av; rw[<-aQ.out]; simp only; rw[<-HZ.out],hap,kp bc.out,kp bf.out,kp ar.out,kp au.out⟩)
   case measure=>simp[intOf]
  ·have aQ:=Aa hx
   have bo:=Aa hS
   have H1:=Aa hx1
   have H2:=Aa hx2
   have H3:=Aa hx3
   have H4:=Aa bm
   have q0:=hS.pb.cell 0
   have q1:=hS.pb.cell 1
   have q2:=hS.pb.cell 2
   have q3:=hS.pb.cell 3
   have q4:=hS.pb.cell 4
   have q5:=hS.pb.cell 5
   have q6:=hS.pb.cell 6
   have q7:=hS.pb.cell 7
   have s0:=hS.rb.cell 0
   have s1:=hS.rb.cell 1
   have s2:=hS.rb.cell 2
   have s3:=hS.rb.cell 3
   have s4:=hS.rb.cell 4
   have s5:=hS.rb.cell 5
   have s6:=hS.rb.cell 6
   have s7:=hS.rb.cell 7
   have sf:=hS.rb.frozen
   have sl:R<wr.heap.size:=hS.rb.lt
   clear hS hx hx1 hx2 hx3 bm
   go_wp2_with fail
   refine Ap (v:=.agg #[.string x.l.name,.slice b1 x.l.args.length d1,.string x.r.name,.slice b2 x.r.args.length d2,.string y.l.name,.slice b3 y.l.args.length d3,.string y.r.name,.slice b4 y.r.args.length d4]) (by simp[results,Tryz.results34,go_sem,AU,AG,s0,s1,s2,s3,s4,s5,s6,s7,sl]) rfl ?_
   have g1:=bo.out.sz
   have g2:=af.out
   have kp:∀ {a:Option Addr} {l:List Tm},Sl wr (λb=>w.heap.size+2<=b/\b≠r) a l->Sl ((((((((wr.setCell ⟨R,0,none⟩ (.string x.l.name)).setCell ⟨R,1,none⟩ (.slice b1 x.l.args.length d1)).setCell ⟨R,2,none⟩ (.string x.r.name)).setCell ⟨R,3,none⟩ (.slice b2 x.r.args.length d2)).setCell ⟨R,4,none⟩ (.string y.l.name)).setCell ⟨R,5,none⟩ (.slice b3 y.l.args.length d3)).setCell ⟨R,6,none⟩ (.string y.r.name)).setCell ⟨R,7,none⟩ (.slice b4 y.r.args.length d4)) (λb=>w.heap.size<=b) a l:=λh=>(h.kept λb hb=>by
    have hne:b≠R:=by omega
    rw[Aq _ _ _ _ (by simpa using hne),Aq _ _ _ _ (by simpa using hne),Aq _ _ _ _ (by simpa using hne),Aq _ _ _ _ (by simpa using hne),Aq _ _ _ _ (by simpa using hne),Aq _ _ _ _ (by simpa using hne),Aq _ _ _ _ (by simpa using hne),Aq _ _ _ _ (by simpa using hne)]).mono λb hb _=>by omega
   exact⟨((((((((bo.out.bl.setCell (p:=⟨R,0,none⟩) (by simp; omega) _).setCell (p:=⟨R,1,none⟩) (by simp; omega) _).setCell (p:=⟨R,2,none⟩) (by simp; omega) _).setCell (p:=⟨R,3,none⟩) (by simp; omega) _).setCell (p:=⟨R,4,none⟩) (by simp; omega) _).setCell (p:=⟨R,5,none⟩) (by simp; omega) _).setCell (p:=⟨R,6,none⟩) (by simp; omega) _).setCell (p:=⟨R,7,none⟩) (by simp; omega) _),x,y,b1,d1,b2,d2,b3,d3,b4,d4,aQ.out,rfl,kp H1.out,kp H2.out,kp H3.out,kp H4.out⟩
end Go.Proofs.YtlkeafenklamjaaGreatDoor
