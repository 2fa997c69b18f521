import Derived.Test.YtlkeafenklamjaaGreatDoorOv3
namespace Go.Proofs.YtlkeafenklamjaaGreatDoor
set_option linter.all false
set_option maxRecDepth 20000
set_option maxHeartbeats 8000000
open Go.RowKit
theorem RI (x l:Tm) (a1 a2:Option Addr) (c1 c2:Nat) (w:World):
  Calls Tryz.prog 36 #[.agg #[.string x.name,.slice a1 x.args.length c1],.agg #[.string l.name,.slice a2 l.args.length c2]] w λe w'=>e=.returned (.bool (EK x l))/\Below w.heap.size w w':=by
 have hb:Below w.heap.size w ((w.alloc (.cells #[.string x.name,.slice a1 x.args.length c1] 29)).alloc (.cells #[.string l.name,.slice a2 l.args.length c2] 29)):=((Af _ _).alloc (Aj _) _).alloc (by simp) _
 cases hq:(x.name.toList==l.name.toList) with
 |false=>
  have HL:Hid (false=EK x l):=by unfold Hid EK; rw[hq]; rfl
  go_enter Tryz.func36,Tryz.ntmps36
  go_wp2_with fail
  go_ret
  exact⟨BH HL.out,hb⟩
 |true=>
  by_cases hn:x.args.length=l.args.length
  ·have HL:Hid (true=EK x l):=by unfold Hid EK; rw[hq]; simp[hn]
   have aa:((x.args.length:Int)==(l.args.length:Int))=true:=by simp; omega
   generalize x.args.length=n1 at *
   generalize l.args.length=n2 at *
   clear hn
   go_enter Tryz.func36,Tryz.ntmps36
   go_wp2_with fail
   go_ret
   exact⟨BH HL.out,hb⟩
  ·have HL:Hid (false=EK x l):=by unfold Hid EK; rw[hq]; simp[hn]
   have aa:((x.args.length:Int)==(l.args.length:Int))=false:=by simp; omega
   generalize x.args.length=n1 at *
   generalize l.args.length=n2 at *
   clear hn
   go_enter Tryz.func36,Tryz.ntmps36
   go_wp2_with fail
   go_ret
   exact⟨BH HL.out,hb⟩
def RK (y:Pr) (w:World) (e:Ending) (w':World):Prop:=
 ∃a1 c1 a2 c2,e=.returned (.agg #[.string y.l.name,.slice a1 y.l.args.length c1,.string y.r.name,.slice a2 y.r.args.length c2])/\Sl w' (λb=>w.heap.size<=b) a1 y.l.args/\Sl w' (λb=>w.heap.size<=b) a2 y.r.args/\Below w.heap.size w w'
theorem Zq (BT:Nat) (p:Pr) (a1 a2:Option Addr) (c1 c2:Nat) (w:World) (X:Nat->Prop) (hs1:Sl w X a1 p.l.args) (hs2:Sl w X a2 p.r.args) (hT:Tb BT w) (a7:BT<=w.heap.size) (hsz:Ab [p.l]+Ab [p.r]<=100000):
  Calls Tryz.prog 66 #[.agg #[.string p.l.name,.slice a1 p.l.args.length c1,.string p.r.name,.slice a2 p.r.args.length c2]] w λe w'=>RK (Dz p) w e w':=by
 have a8:=Aa hs1
 have aA:=Aa hs2
 have HT:=Aa hT
 clear hs1 hs2 hT
 go_enter Tryz.func66,Tryz.ntmps66
 go_wp2_with fail
 have Bx:Below w.heap.size w ((w.alloc (.cells #[.string p.l.name,.slice a1 p.l.args.length c1,.string p.r.name,.slice a2 p.r.args.length c2] 31)).alloc (.cells #[.string ⟨#[]⟩,.slice none 0 0,.string ⟨#[]⟩,.slice none 0 0] 31)):=((Af _ _).alloc (Aj _) _).alloc (by simp) _
 have aj:Ac ((w.alloc (.cells #[.string p.l.name,.slice a1 p.l.args.length c1,.string p.r.name,.slice a2 p.r.args.length c2] 31)).alloc (.cells #[.string ⟨#[]⟩,.slice none 0 0,.string ⟨#[]⟩,.slice none 0 0] 31)) w.heap.size #[.string p.l.name,.slice a1 p.l.args.length c1,.string p.r.name,.slice a2 p.r.args.length c2] 31:=(Ac.new w _ _).alloc _
 have ak:Ac ((w.alloc (.cells #[.string p.l.name,.slice a1 p.l.args.length c1,.string p.r.name,.slice a2 p.r.args.length c2] 31)).alloc (.cells #[.string ⟨#[]⟩,.slice none 0 0,.string ⟨#[]⟩,.slice none 0 0] 31)) (w.heap.size+1) #[.string ⟨#[]⟩,.slice none 0 0,.string ⟨#[]⟩,.slice none 0 0] 31:=by
  have h:=Ac.new (w.alloc (.cells #[.string p.l.name,.slice a1 p.l.args.length c1,.string p.r.name,.slice a2 p.r.args.length c2] 31)) #[.string ⟨#[]⟩,.slice none 0 0,.string ⟨#[]⟩,.slice none 0 0] 31
  rw[CN]at h
  exact h
 have hz2:((w.alloc (.cells #[.string p.l.name,.slice a1 p.l.args.length c1,.string p.r.name,.slice a2 p.r.args.length c2] 31)).alloc (.cells #[.string ⟨#[]⟩,.slice none 0 0,.string ⟨#[]⟩,.slice none 0 0] 31)).heap.size=w.heap.size+2:=by simp
 generalize (w.alloc (.cells #[.string p.l.name,.slice a1 p.l.args.length c1,.string p.r.name,.slice a2 p.r.args.length c2] 31)).alloc (.cells #[.string ⟨#[]⟩,.slice none 0 0,.string ⟨#[]⟩,.slice none 0 0] 31)=W at *
 obtain⟨R,hR⟩:∃R,R=w.heap.size+1:=⟨_,rfl⟩
 obtain⟨Q,hQ⟩:∃Q,Q=w.heap.size:=⟨_,rfl⟩
 rw[<-hR]at ak ⊢
 rw[<-hQ]at aj ⊢
 have aq:Hid (Below w.heap.size w W.drew):=Bx.trans ((Af _ W).drew)
 have ao:Hid (Ac W.drew Q #[.string p.l.name,.slice a1 p.l.args.length c1,.string p.r.name,.slice a2 p.r.args.length c2] 31):=aj.drewN 1
 have ar:Hid (Ac W.drew R #[.string ⟨#[]⟩,.slice none 0 0,.string ⟨#[]⟩,.slice none 0 0] 31):=ak.drewN 1
 have aB:Hid (W.drew.heap.size=w.heap.size+2):=hz2
 have aa:Hid (R=w.heap.size+1/\Q=w.heap.size):=⟨hR,hQ⟩
 refine CU (S:=λw'=>Ac w' Q #[.string p.l.name,.slice a1 p.l.args.length c1,.string p.r.name,.slice a2 p.r.args.length c2] 31) (by kernel_rfl) ao.out (λhHeld=>?_)
 generalize W.drew=wd at *
 clear Bx aj ak hz2 hR hQ
 refine tkz 0 ?_ (hy:=by intro w' hSw;have c0:=hSw.cell 0;have c1:=hSw.cell 1;have c2:=hSw.cell 2;have c3:=hSw.cell 3;go_simp<;>with_reducible rfl)
 refine rdq 1 rfl λK hK=>?_
 go_simp
 go_at_call 54
 refine(Ol _).mono ?_
 rintro e w5 ⟨B,r,rfl,au,aC,aD,ag⟩
 have aF:=Aa au
 have ah:=Aa (aq.out.trans (ag.mono aq.out.size))
 have av:=Aa (ao.out.below ag ao.out.lt)
 have aG:=Aa (ar.out.below ag ar.out.lt)
 have aH:=Aa (HT.out.on (ah.out.mono a7))
 have ae:Hid (w.heap.size+2<=r/\w.heap.size+2<=B/\w.heap.size+2<=w5.heap.size):=by have h1:=aB.out; have h2:=ag.size; unfold Hid; omega
 clear au aC aD ag
 go_simp
 refine hK.out _ _ (by exact av.out) (λhHeld=>?_)
 clear hK K
 try simp only[Act.put,sq]
 refine rdq 2 rfl λK hK=>?_
 go_simp
 go_at_call 57
 refine(Zo BT B r (by have:=ae.out; omega) p a1 a2 c1 c2 [] _ (λb=>X b/\b<w.heap.size) ((a8.out.mono λb h1 h2=>⟨h1,h2⟩).later ah.out) ((aA.out.mono λb h1 h2=>⟨h1,h2⟩).later ah.out) (λb hb=>by have:=ae.out; omega) aF.out aH.out (by simp only[EN]; omega)).mono ?_
 rintro e w6 ⟨b1,d1,b2,d2,rfl,aw,ax,aI,ai⟩
 have aK:=Aa ai
 have ay:=Aa (av.out.exq ai (by have:=aa.out; have:=ae.out; omega))
 have af:=Aa (aG.out.exq ai (by have:=aa.out; have:=ae.out; omega))
 have az:Hid (Sl w6 (λb=>w.heap.size+2<=b) b1 (Dz p).l.args):=aw.mono λb hb _=>by have:=ae.out; omega
 have a6:Hid (Sl w6 (λb=>w.heap.size+2<=b) b2 (Dz p).r.args):=ax.mono λb hb _=>by have:=ae.out; omega
 have aJ:Hid (Below w.heap.size w w6):=ah.out.trans (ai.below ah.out.size (λb hb=>by have:=ae.out; omega))
 clear aw ax aI ai
 rw[show(Cl id [] p).1=Dz p from rfl]
 obtain⟨y,hy⟩:∃y,y=Dz p:=⟨_,rfl⟩
 rw[<-hy]at az a6 ⊢
 have HY:=Aa hy
 clear hy
 go_simp
 refine hK.out _ _ (by exact ay.out) (λhHeld=>?_)
 clear hK K
 try simp only[Act.put,sq]
 have q0:=af.out.cell 0
 have q1:=af.out.cell 1
 have q2:=af.out.cell 2
 have q3:=af.out.cell 3
 have qf:=af.out.frozen
 have ql:R<w6.heap.size:=af.out.lt
 refine rdq 3 rfl λK hK=>?_
 go_simp
 refine hK.out _ _ (by exact(((ay.out.setOther _ _ (by have:=aa.out; omega)).setOther _ _ (by have:=aa.out; omega)).setOther _ _ (by have:=aa.out; omega)).setOther _ _ (by have:=aa.out; omega)) (λhHeld=>?_)
 clear hK K
 try simp only[Act.put,sq]
 refine dnq ?_
 go_wp2_with fail
 refine Ap (v:=.agg #[.string y.l.name,.slice b1 y.l.args.length d1,.string y.r.name,.slice b2 y.r.args.length d2]) (by simp[results,Tryz.results66,go_sem,AU,AG,q0,q1,q2,q3,ql]) rfl ?_
 have hk:=aa.out
 show RK (Dz p) _ _ _
 rw[<-HY.out]
 refine⟨b1,d1,b2,d2,rfl,?_,?_,(((aJ.out.setCell (p:=⟨R,0,none⟩) (by simp; omega) _).setCell (p:=⟨R,1,none⟩) (by simp; omega) _).setCell (p:=⟨R,2,none⟩) (by simp; omega) _).setCell (p:=⟨R,3,none⟩) (by simp; omega) _⟩
 ·refine Sl.mono (X:=λb=>w.heap.size+2<=b) ?_ (λb hb _=>by omega)
  exact Cy (Cy (Cy (Cy az.out (by omega)) (by omega)) (by omega)) (by omega)
 ·refine Sl.mono (X:=λb=>w.heap.size+2<=b) ?_ (λb hb _=>by omega)
  exact Cy (Cy (Cy (Cy a6.out (by omega)) (by omega)) (by omega)) (by omega)
end Go.Proofs.YtlkeafenklamjaaGreatDoor
