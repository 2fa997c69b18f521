import Derived.Test.YtlkeafenklamjaaGreatDoorOv2
namespace Go.Proofs.YtlkeafenklamjaaGreatDoor
set_option linter.all false
set_option maxRecDepth 20000
set_option maxHeartbeats 8000000
open Go.RowKit
def RD (B r:Nat) (y:Pr×List ByteArray) (w:World) (e:Ending) (w':World):Prop:=
 ∃a1 c1 a2 c2,e=.returned (.agg #[.string y.1.l.name,.slice a1 y.1.l.args.length c1,.string y.1.r.name,.slice a2 y.1.r.args.length c2])/\Sl w' (λb=>w.heap.size<=b) a1 y.1.l.args/\Sl w' (λb=>w.heap.size<=b) a2 y.1.r.args/\CW w' B r y.2/\Al (λb=>b=r) w w'
theorem RE (BT B r:Nat) (aa:BT<=r) (t:Tm) (v:Value) (ns:List ByteArray) (w:World) (X:Nat->Prop) (hv:TV w X v t) (hX:∀b,X b->b≠r) (hN:CW w B r ns) (hT:Tb BT w) (hs:ns.length+Ab [t]<=100000):
  Calls Tryz.prog 82 #[v,.func (.func 80) #[] #[.pointer (some ⟨B,0,none⟩)]] w λe w'=>Ma B r (AO id ns t) w e w':=by
 rw[<-Zi]
 exact Vr BT B r aa t v ns w X hv hX hN hT hs
theorem Er {w:World} {B r R k:Nat} {ns:List ByteArray} {v:Value} (h:CW w B r ns) (h1:B≠R) (h2:r≠R):CW (w.setCell ⟨R,k,none⟩ v) B r ns:=⟨h.box.setOther _ _ h1,h.map.kept (Aq _ _ _ _ (by simpa using h2)),h.ne⟩
theorem Cy {w:World} {N R k:Nat} {a:Option Addr} {l:List Tm} {v:Value} (h:Sl w (λb=>N<=b) a l) (hR:R<N):Sl (w.setCell ⟨R,k,none⟩ v) (λb=>N<=b) a l:=h.kept λb hb=>Aq _ _ _ _ (by simp; omega)
theorem Zo (BT B r:Nat) (au:BT<=r) (p:Pr) (a1 a2:Option Addr) (c1 c2:Nat) (ns:List ByteArray) (w:World) (X:Nat->Prop) (hs1:Sl w X a1 p.l.args) (hs2:Sl w X a2 p.r.args) (hX:∀b,X b->b≠r) (hN:CW w B r ns) (hT:Tb BT w) (hsz:ns.length+Ab [p.l]+Ab [p.r]<=100000):
  Calls Tryz.prog 57 #[.agg #[.string p.l.name,.slice a1 p.l.args.length c1,.string p.r.name,.slice a2 p.r.args.length c2],.func (.func 80) #[] #[.pointer (some ⟨B,0,none⟩)]] w λe w'=>RD B r (Cl (id) ns p) w e w':=by
 have aD:=Aa hs1
 have aF:=Aa hs2
 have HX:=Aa hX
 have HN:=Aa hN
 have HT:=Aa hT
 have aQ:r<w.heap.size:=hN.map.lt
 have hBl:B<w.heap.size:=hN.box.lt
 have aG:BT<=w.heap.size:=by omega
 have aH:=Aa hsz
 clear hs1 hs2 hX hN hT
 go_enter Tryz.func57,Tryz.ntmps57
 go_wp2_with fail
 have Bx:Below w.heap.size w ((w.alloc (.cells #[.string p.l.name,.slice a1 p.l.args.length c1,.string p.r.name,.slice a2 p.r.args.length c2] 31)).alloc (.cells #[.string ⟨#[]⟩,.slice none 0 0,.string ⟨#[]⟩,.slice none 0 0] 31)):=((Af _ _).alloc (Aj _) _).alloc (by simp) _
 have ak:Ac ((w.alloc (.cells #[.string p.l.name,.slice a1 p.l.args.length c1,.string p.r.name,.slice a2 p.r.args.length c2] 31)).alloc (.cells #[.string ⟨#[]⟩,.slice none 0 0,.string ⟨#[]⟩,.slice none 0 0] 31)) w.heap.size #[.string p.l.name,.slice a1 p.l.args.length c1,.string p.r.name,.slice a2 p.r.args.length c2] 31:=(Ac.new w _ _).alloc _
 have ao:Ac ((w.alloc (.cells #[.string p.l.name,.slice a1 p.l.args.length c1,.string p.r.name,.slice a2 p.r.args.length c2] 31)).alloc (.cells #[.string ⟨#[]⟩,.slice none 0 0,.string ⟨#[]⟩,.slice none 0 0] 31)) (w.heap.size+1) #[.string ⟨#[]⟩,.slice none 0 0,.string ⟨#[]⟩,.slice none 0 0] 31:=by
  have h:=Ac.new (w.alloc (.cells #[.string p.l.name,.slice a1 p.l.args.length c1,.string p.r.name,.slice a2 p.r.args.length c2] 31)) #[.string ⟨#[]⟩,.slice none 0 0,.string ⟨#[]⟩,.slice none 0 0] 31
  rw[CN]at h
  exact h
 have hz2:((w.alloc (.cells #[.string p.l.name,.slice a1 p.l.args.length c1,.string p.r.name,.slice a2 p.r.args.length c2] 31)).alloc (.cells #[.string ⟨#[]⟩,.slice none 0 0,.string ⟨#[]⟩,.slice none 0 0] 31)).heap.size=w.heap.size+2:=by simp
 generalize (w.alloc (.cells #[.string p.l.name,.slice a1 p.l.args.length c1,.string p.r.name,.slice a2 p.r.args.length c2] 31)).alloc (.cells #[.string ⟨#[]⟩,.slice none 0 0,.string ⟨#[]⟩,.slice none 0 0] 31)=W at *
 obtain⟨R,hR⟩:∃R,R=w.heap.size+1:=⟨_,rfl⟩
 obtain⟨Q,hQ⟩:∃Q,Q=w.heap.size:=⟨_,rfl⟩
 rw[<-hR]at ao ⊢
 rw[<-hQ]at ak ⊢
 have af:Hid (Below w.heap.size w W.drew):=Bx.trans ((Af _ W).drew)
 have av:Hid (Ac W.drew Q #[.string p.l.name,.slice a1 p.l.args.length c1,.string p.r.name,.slice a2 p.r.args.length c2] 31):=ak.drewN 1
 have aI:Hid (Ac W.drew R #[.string ⟨#[]⟩,.slice none 0 0,.string ⟨#[]⟩,.slice none 0 0] 31):=ao.drewN 1
 have ah:Hid (W.drew.heap.size=w.heap.size+2):=hz2
 have aa:Hid (R=w.heap.size+1/\Q=w.heap.size):=⟨hR,hQ⟩
 refine CU (S:=λw'=>Ac w' Q #[.string p.l.name,.slice a1 p.l.args.length c1,.string p.r.name,.slice a2 p.r.args.length c2] 31) (by kernel_rfl) av.out (λhHeld=>?_)
 generalize W.drew=wd at *
 clear Bx ak ao hz2 hR hQ
 have aJ:=HN.out.later af.out
 have aw:=HT.out.on (af.out.mono aG)
 refine tkz 0 ?_
 refine tkz 1 ?_ (hy:=by intro w' hSw;have c0:=hSw.cell 0;have c1:=hSw.cell 1;have c2:=hSw.cell 2;have c3:=hSw.cell 3;go_simp<;>with_reducible rfl)
 refine tkz 2 ?_
 refine tkz 4 ?_
 refine tkz 5 ?_ (hy:=by intro w' hSw;have c0:=hSw.cell 0;have c1:=hSw.cell 1;have c2:=hSw.cell 2;have c3:=hSw.cell 3;go_simp<;>with_reducible rfl)
 refine tkz 6 ?_
 refine rdq 3 rfl λK hK=>?_
 go_simp
 go_at_call 82
 refine(RE BT B r au p.l _ ns _ X ⟨a1,c1,rfl,aD.out.later af.out⟩ HX.out aJ aw (by omega)).mono ?_
 rintro e w5 ⟨b1,d1,rfl,hs5,ax,ai⟩
 have aK:=Aa hs5
 have aL:=Aa ax
 have aj:=Aa ai
 have ay:=av.out.exq ai (by have:=aa.out; omega)
 have aM:=Aa (aI.out.exq ai (by have:=aa.out; omega))
 have az:=Aa ay
 clear hs5 ax ai ay
 go_simp
 refine hK.out _ _ (by exact az.out) (λhHeld=>?_)
 clear hK K
 try simp only[Act.put,sq]
 refine rdq 7 rfl λK hK=>?_
 go_simp
 go_at_call 82
 refine(RE BT B r au p.r _ _ _ X ⟨a2,c2,rfl,(aF.out.later af.out).exq aj.out (λb hb=>HX.out b hb)⟩ HX.out aL.out (aw.on (aj.out.below (by have:=ah.out; omega) (λb hb=>by omega))) (by have h9:=Js id p.l ns; have:=aH.out; omega)).mono ?_
 rintro e w6 ⟨b2,d2,rfl,a6,a7,ag⟩
 have aN:=Aa a7
 have a8:=az.out.exq ag (by have:=aa.out; omega)
 have ae:=Aa (aM.out.exq ag (by have:=aa.out; omega))
 have aA:=Aa a8
 have aO:=aj.out.size
 have aB:Hid (Sl w6 (λb=>w.heap.size+2<=b) b1 (AO (id) ns p.l).1.args):=(aK.out.exq ag (λb hb e=>by have:=ah.out; omega)).mono λb hb _=>by have:=ah.out; omega
 have aC:Hid (Sl w6 (λb=>w.heap.size+2<=b) b2 (AO (id) (AO (id) ns p.l).2 p.r).1.args):=a6.mono λb hb _=>by have:=ah.out; omega
 have aP:Hid (Al (λb=>b=r) w w6):=((Al.ofBelow af.out).trans aj.out).trans ag
 clear a6 a7 ag a8 aO
 go_simp
 refine hK.out _ _ (by exact aA.out) (λhHeld=>?_)
 clear hK K
 try simp only[Act.put,sq]
 have q0:=ae.out.cell 0
 have q1:=ae.out.cell 1
 have q2:=ae.out.cell 2
 have q3:=ae.out.cell 3
 have qf:=ae.out.frozen
 have ql:R<w6.heap.size:=ae.out.lt
 have HK:=Aa (And.intro aa.out.1 aa.out.2)
 obtain⟨y1,aq⟩:∃y1,y1=(AO (id) ns p.l).1:=⟨_,rfl⟩
 obtain⟨y2,ar⟩:∃y2,y2=(AO (id) (AO (id) ns p.l).2 p.r).1:=⟨_,rfl⟩
 rw[<-aq]at aB ⊢
 rw[<-ar]at aC ⊢
 have HY:Hid (Cl (id) ns p=(⟨y1,y2⟩,(AO (id) (AO (id) ns p.l).2 p.r).2)):=by unfold Hid Cl; rw[aq,ar]
 clear aq ar
 refine tkz 8 ?_
 refine rdq 9 rfl λK hK=>?_
 go_simp
 refine hK.out _ _ (by exact(((aA.out.setOther _ _ (by have:=aa.out; omega)).setOther _ _ (by have:=aa.out; omega)).setOther _ _ (by have:=aa.out; omega)).setOther _ _ (by have:=aa.out; omega)) (λhHeld=>?_)
 clear hK K
 try simp only[Act.put,sq]
 refine dnq ?_
 go_wp2_with fail
 refine Ap (v:=.agg #[.string y1.name,.slice b1 y1.args.length d1,.string y2.name,.slice b2 y2.args.length d2]) (by simp[results,Tryz.results57,go_sem,AU,AG,q0,q1,q2,q3,ql]) rfl ?_
 have hk:=aa.out
 rw[HY.out]
 refine⟨b1,d1,b2,d2,rfl,(Cy (Cy (Cy (Cy aB.out (by omega)) (by omega)) (by omega)) (by omega)).mono λb hb _=>by omega,(Cy (Cy (Cy (Cy aC.out (by omega)) (by omega)) (by omega)) (by omega)).mono λb hb _=>by omega,Er (Er (Er (Er aN.out (by omega) (by omega)) (by omega) (by omega)) (by omega) (by omega)) (by omega) (by omega),(((aP.out.setNew (by omega) _ _).setNew (by omega) _ _).setNew (by omega) _ _).setNew (by omega) _ _⟩
theorem RG (BT B r Bn Bi i:Nat) (aw:BT<=r) (ax:i<=9) (ak:Bn≠r) (ao:Bi≠r) (p:Pr) (a1 a2:Option Addr) (c1 c2:Nat) (ns:List ByteArray) (w:World) (X:Nat->Prop) (hs1:Sl w X a1 p.l.args) (hs2:Sl w X a2 p.r.args) (hX:∀b,X b->b≠r) (hN:CW w B r ns) (hO:FG w B Bn Bi i) (hT:Tb BT w) (hsz:ns.length+Ab [p.l]+Ab [p.r]<=100000) (aH:Ah [p.l]=0) (aI:Ah [p.r]=0):
  Calls Tryz.prog 57 #[.agg #[.string p.l.name,.slice a1 p.l.args.length c1,.string p.r.name,.slice a2 p.r.args.length c2],.func (.func 55) #[] #[.pointer (some ⟨Bn,0,none⟩),.pointer (some ⟨Bi,0,none⟩)]] w λe w'=>RD B r (Cl (AA i) ns p) w e w':=by
 have aJ:=Aa hs1
 have aK:=Aa hs2
 have HX:=Aa hX
 have HN:=Aa hN
 have HT:=Aa hT
 have aV:r<w.heap.size:=hN.map.lt
 have hBl:B<w.heap.size:=hN.box.lt
 have aL:BT<=w.heap.size:=by omega
 have HO:=Aa hO
 have aM:=Aa hsz
 clear hs1 hs2 hX hN hT
 go_enter Tryz.func57,Tryz.ntmps57
 go_wp2_with fail
 have Bx:Below w.heap.size w ((w.alloc (.cells #[.string p.l.name,.slice a1 p.l.args.length c1,.string p.r.name,.slice a2 p.r.args.length c2] 31)).alloc (.cells #[.string ⟨#[]⟩,.slice none 0 0,.string ⟨#[]⟩,.slice none 0 0] 31)):=((Af _ _).alloc (Aj _) _).alloc (by simp) _
 have aq:Ac ((w.alloc (.cells #[.string p.l.name,.slice a1 p.l.args.length c1,.string p.r.name,.slice a2 p.r.args.length c2] 31)).alloc (.cells #[.string ⟨#[]⟩,.slice none 0 0,.string ⟨#[]⟩,.slice none 0 0] 31)) w.heap.size #[.string p.l.name,.slice a1 p.l.args.length c1,.string p.r.name,.slice a2 p.r.args.length c2] 31:=(Ac.new w _ _).alloc _
 have ar:Ac ((w.alloc (.cells #[.string p.l.name,.slice a1 p.l.args.length c1,.string p.r.name,.slice a2 p.r.args.length c2] 31)).alloc (.cells #[.string ⟨#[]⟩,.slice none 0 0,.string ⟨#[]⟩,.slice none 0 0] 31)) (w.heap.size+1) #[.string ⟨#[]⟩,.slice none 0 0,.string ⟨#[]⟩,.slice none 0 0] 31:=by
  have h:=Ac.new (w.alloc (.cells #[.string p.l.name,.slice a1 p.l.args.length c1,.string p.r.name,.slice a2 p.r.args.length c2] 31)) #[.string ⟨#[]⟩,.slice none 0 0,.string ⟨#[]⟩,.slice none 0 0] 31
  rw[CN]at h
  exact h
 have hz2:((w.alloc (.cells #[.string p.l.name,.slice a1 p.l.args.length c1,.string p.r.name,.slice a2 p.r.args.length c2] 31)).alloc (.cells #[.string ⟨#[]⟩,.slice none 0 0,.string ⟨#[]⟩,.slice none 0 0] 31)).heap.size=w.heap.size+2:=by simp
 generalize (w.alloc (.cells #[.string p.l.name,.slice a1 p.l.args.length c1,.string p.r.name,.slice a2 p.r.args.length c2] 31)).alloc (.cells #[.string ⟨#[]⟩,.slice none 0 0,.string ⟨#[]⟩,.slice none 0 0] 31)=W at *
 obtain⟨R,hR⟩:∃R,R=w.heap.size+1:=⟨_,rfl⟩
 obtain⟨Q,hQ⟩:∃Q,Q=w.heap.size:=⟨_,rfl⟩
 rw[<-hR]at ar ⊢
 rw[<-hQ]at aq ⊢
 have ae:Hid (Below w.heap.size w W.drew):=Bx.trans ((Af _ W).drew)
 have ay:Hid (Ac W.drew Q #[.string p.l.name,.slice a1 p.l.args.length c1,.string p.r.name,.slice a2 p.r.args.length c2] 31):=aq.drewN 1
 have aN:Hid (Ac W.drew R #[.string ⟨#[]⟩,.slice none 0 0,.string ⟨#[]⟩,.slice none 0 0] 31):=ar.drewN 1
 have ai:Hid (W.drew.heap.size=w.heap.size+2):=hz2
 have aa:Hid (R=w.heap.size+1/\Q=w.heap.size):=⟨hR,hQ⟩
 refine CU (S:=λw'=>Ac w' Q #[.string p.l.name,.slice a1 p.l.args.length c1,.string p.r.name,.slice a2 p.r.args.length c2] 31) (by kernel_rfl) ay.out (λhHeld=>?_)
 generalize W.drew=wd at *
 clear Bx aq ar hz2 hR hQ
 have aO:=HN.out.later ae.out
 have az:=HT.out.on (ae.out.mono aL)
 refine tkz 0 ?_
 refine tkz 1 ?_ (hy:=by intro w' hSw;have c0:=hSw.cell 0;have c1:=hSw.cell 1;have c2:=hSw.cell 2;have c3:=hSw.cell 3;go_simp<;>with_reducible rfl)
 refine tkz 2 ?_
 refine tkz 4 ?_
 refine tkz 5 ?_ (hy:=by intro w' hSw;have c0:=hSw.cell 0;have c1:=hSw.cell 1;have c2:=hSw.cell 2;have c3:=hSw.cell 3;go_simp<;>with_reducible rfl)
 refine tkz 6 ?_
 refine rdq 3 rfl λK hK=>?_
 go_simp
 go_at_call 82
 refine(RC BT B r Bn Bi i aw ax ak ao p.l _ ns _ X ⟨a1,c1,rfl,aJ.out.later ae.out⟩ HX.out aO (HO.out.later ae.out) az (by omega) aH).mono ?_
 rintro e w5 ⟨b1,d1,rfl,hs5,a6,aj⟩
 have aP:=Aa hs5
 have aQ:=Aa a6
 have ag:=Aa aj
 have a7:=ay.out.exq aj (by have:=aa.out; omega)
 have aR:=Aa (aN.out.exq aj (by have:=aa.out; omega))
 have a8:=Aa a7
 clear hs5 a6 aj a7
 go_simp
 refine hK.out _ _ (by exact a8.out) (λhHeld=>?_)
 clear hK K
 try simp only[Act.put,sq]
 refine rdq 7 rfl λK hK=>?_
 go_simp
 go_at_call 82
 refine(RC BT B r Bn Bi i aw ax ak ao p.r _ _ _ X ⟨a2,c2,rfl,(aK.out.later ae.out).exq ag.out (λb hb=>HX.out b hb)⟩ HX.out aQ.out ((HO.out.later ae.out).exq ag.out ak ao) (az.on (ag.out.below (by have:=ai.out; omega) (λb hb=>by omega))) (by have h9:=Js (AA i) p.l ns; have:=aM.out; omega) aI).mono ?_
 rintro e w6 ⟨b2,d2,rfl,aA,aB,ah⟩
 have aS:=Aa aB
 have aC:=a8.out.exq ah (by have:=aa.out; omega)
 have af:=Aa (aR.out.exq ah (by have:=aa.out; omega))
 have aD:=Aa aC
 have aT:=ag.out.size
 have aF:Hid (Sl w6 (λb=>w.heap.size+2<=b) b1 (AO (AA i) ns p.l).1.args):=(aP.out.exq ah (λb hb e=>by have:=ai.out; omega)).mono λb hb _=>by have:=ai.out; omega
 have aG:Hid (Sl w6 (λb=>w.heap.size+2<=b) b2 (AO (AA i) (AO (AA i) ns p.l).2 p.r).1.args):=aA.mono λb hb _=>by have:=ai.out; omega
 have aU:Hid (Al (λb=>b=r) w w6):=((Al.ofBelow ae.out).trans ag.out).trans ah
 clear aA aB ah aC aT
 go_simp
 refine hK.out _ _ (by exact aD.out) (λhHeld=>?_)
 clear hK K
 try simp only[Act.put,sq]
 have q0:=af.out.cell 0
 have q1:=af.out.cell 1
 have q2:=af.out.cell 2
 have q3:=af.out.cell 3
 have qf:=af.out.frozen
 have ql:R<w6.heap.size:=af.out.lt
 have HK:=Aa (And.intro aa.out.1 aa.out.2)
 obtain⟨y1,au⟩:∃y1,y1=(AO (AA i) ns p.l).1:=⟨_,rfl⟩
 obtain⟨y2,av⟩:∃y2,y2=(AO (AA i) (AO (AA i) ns p.l).2 p.r).1:=⟨_,rfl⟩
 rw[<-au]at aF ⊢
 rw[<-av]at aG ⊢
 have HY:Hid (Cl (AA i) ns p=(⟨y1,y2⟩,(AO (AA i) (AO (AA i) ns p.l).2 p.r).2)):=by unfold Hid Cl; rw[au,av]
 clear au av
 refine tkz 8 ?_
 refine rdq 9 rfl λK hK=>?_
 go_simp
 refine hK.out _ _ (by exact(((aD.out.setOther _ _ (by have:=aa.out; omega)).setOther _ _ (by have:=aa.out; omega)).setOther _ _ (by have:=aa.out; omega)).setOther _ _ (by have:=aa.out; omega)) (λhHeld=>?_)
 clear hK K
 try simp only[Act.put,sq]
 refine dnq ?_
 go_wp2_with fail
 refine Ap (v:=.agg #[.string y1.name,.slice b1 y1.args.length d1,.string y2.name,.slice b2 y2.args.length d2]) (by simp[results,Tryz.results57,go_sem,AU,AG,q0,q1,q2,q3,ql]) rfl ?_
 have hk:=aa.out
 rw[HY.out]
 refine⟨b1,d1,b2,d2,rfl,(Cy (Cy (Cy (Cy aF.out (by omega)) (by omega)) (by omega)) (by omega)).mono λb hb _=>by omega,(Cy (Cy (Cy (Cy aG.out (by omega)) (by omega)) (by omega)) (by omega)).mono λb hb _=>by omega,Er (Er (Er (Er aS.out (by omega) (by omega)) (by omega) (by omega)) (by omega) (by omega)) (by omega) (by omega),(((aU.out.setNew (by omega) _ _).setNew (by omega) _ _).setNew (by omega) _ _).setNew (by omega) _ _⟩
end Go.Proofs.YtlkeafenklamjaaGreatDoor
