import Derived.Test.YtlkeafenklamjaaGreatDoorW53
namespace Go.Proofs.YtlkeafenklamjaaGreatDoor
set_option linter.all false
set_option maxRecDepth 20000
set_option maxHeartbeats 8000000
open Go.RowKit
theorem WC (ls:List Bd) (t:Tm) (u v:Value) (w:World) (X:Nat->Prop) (hu:BV w X u ls) (hv:TV w X v t) (hsm:Ab [t]<=1000000):
  Calls Tryz.prog 29 #[u,v] w λe w'=>∃(x:Tm) (a6:Option Addr) (c6:Nat) (ok:Bool),e=.returned (.tuple #[.agg #[.string x.name,.slice a6 x.args.length c6],.bool ok])/\(ok=true->x=Ag ls t)/\(ok=true↔Ab [Ag ls t]<=2000)/\Sl w' (λb=>(X b/\b<w.heap.size)∨w.heap.size<=b) a6 x.args/\Below w.heap.size w w':=by
 refine(PG ls t u v w _ hu hv hsm).mono ?_
 rintro e w' ⟨hb,⟨h1,rfl⟩|⟨h1,a6,c6,rfl,hs⟩⟩
 ·exact⟨⟨⟨#[]⟩,[]⟩,none,0,false,rfl,by simp,by simp; omega,⟨by simp,Ad rfl⟩,hb⟩
 ·exact⟨Ag ls t,a6,c6,true,rfl,λ_=>rfl,by simp; omega,hs,hb⟩
def WD (w:World) (X:Nat->Prop) (p:Pr) (x:Tm) (e:Ending) (w':World):Prop:=
 ∃(y:Tm) (a:Option Addr) (c:Nat) (ok full:Bool),e=.returned (.tuple #[.agg #[.string y.name,.slice a y.args.length c],.bool ok,.bool full])/\Sl w' (λb=>(X b/\b<w.heap.size)∨w.heap.size<=b) a y.args/\Below w.heap.size w w'/\
  ((C8 p x=none/\ok=false/\full=false)∨∃z,C8 p x=some z/\ok=true/\(full=true↔2000<Ab [z])/\(full=false->y=z))
theorem PH (p:Pr) (x:Tm) (a1 a2 a3:Option Addr) (c1 c2 c3:Nat) (w:World) (X:Nat->Prop) (hs1:Sl w X a1 p.l.args) (hs2:Sl w X a2 p.r.args) (hs3:Sl w X a3 x.args) (hz1:Ab [p.l]<=1000000) (hz2:Ab [p.r]<=1000000):
  Calls Tryz.prog 47 #[.agg #[.string p.l.name,.slice a1 p.l.args.length c1,.string p.r.name,.slice a2 p.r.args.length c2],.agg #[.string x.name,.slice a3 x.args.length c3]] w λe w'=>WD w X p x e w':=by
 have S1:=Aa (hs1.mono (Y:=λb=>X b/\b<w.heap.size) λb h1 h2=>⟨h1,h2⟩)
 have S2:=Aa (hs2.mono (Y:=λb=>X b/\b<w.heap.size) λb h1 h2=>⟨h1,h2⟩)
 have S3:=Aa (hs3.mono (Y:=λb=>X b/\b<w.heap.size) λb h1 h2=>⟨h1,h2⟩)
 clear hs1 hs2 hs3
 have K0:=Ac.new w #[.string p.l.name,.slice a1 p.l.args.length c1,.string p.r.name,.slice a2 p.r.args.length c2] 31
 have B0:=(Af w.heap.size w).alloc (Aj _) (.cells #[.string p.l.name,.slice a1 p.l.args.length c1,.string p.r.name,.slice a2 p.r.args.length c2] 31)
 have HW:Hid (∃W,W=((w.alloc (.cells #[.string p.l.name,.slice a1 p.l.args.length c1,.string p.r.name,.slice a2 p.r.args.length c2] 31)).alloc (.cells #[.string x.name,.slice a3 x.args.length c3] 29)).alloc (.cells #[.string ⟨#[]⟩,.slice none 0 0] 29)/\Ac W w.heap.size #[.string p.l.name,.slice a1 p.l.args.length c1,.string p.r.name,.slice a2 p.r.args.length c2] 31/\Ac W (w.heap.size+1) #[.string x.name,.slice a3 x.args.length c3] 29/\Ac W (w.heap.size+2) #[.string ⟨#[]⟩,.slice none 0 0] 29/\Below w.heap.size w W):=by
  have K1:=Ac.new (w.alloc (.cells #[.string p.l.name,.slice a1 p.l.args.length c1,.string p.r.name,.slice a2 p.r.args.length c2] 31)) #[.string x.name,.slice a3 x.args.length c3] 29
  have K2:=Ac.new ((w.alloc (.cells #[.string p.l.name,.slice a1 p.l.args.length c1,.string p.r.name,.slice a2 p.r.args.length c2] 31)).alloc (.cells #[.string x.name,.slice a3 x.args.length c3] 29)) #[.string ⟨#[]⟩,.slice none 0 0] 29
  simp only[CN] at K1 K2
  exact⟨_,rfl,(K0.alloc _).alloc _,K1.alloc _,K2,(B0.alloc (by simp) _).alloc (by simp; omega) _⟩
 clear K0 B0
 go_enter Tryz.func47,Tryz.ntmps47
 go_wp2_with fail
 obtain⟨W,hW,k0,k1,k2,bl⟩:=HW.out
 rw[<-hW]
 clear hW HW
 have K0:=Aa k0
 have K2:=Aa k2
 have BW:=Aa bl
 clear k0 k1 k2 bl
 refine(OY p.l x _ _ W (λb=>X b/\b<w.heap.size) ⟨_,_,rfl,S1.out.later BW.out⟩ ⟨_,_,rfl,S3.out.later BW.out⟩ hz1).mono ?_
 rintro e w3 ⟨hb3,hc⟩
 have B3:=Aa (BW.out.trans (hb3.mono BW.out.size))
 have ah:=Aa (K0.out.below hb3 K0.out.lt)
 have ae:=Aa (K2.out.below hb3 K2.out.lt)
 have ao:Hid (w.heap.size+2<W.heap.size):=K2.out.lt
 clear hb3 K0 K2 BW
 have r0:=ae.out.c0
 have r1:=ae.out.c1
 have rf:=ae.out.frozen
 rcases hc with ⟨h0,rfl⟩|⟨h',v,l',h0,rfl,ai,aa,af⟩
 ·have HN:Hid (C8 p x=none):=by unfold Hid C8; rw[h0]; rfl
  clear h0
  go_wp2_with fail
  refine Ap (v:=.tuple #[.agg #[.string ⟨#[]⟩,.slice none 0 0],.bool false,.bool false]) (by simp[results,Tryz.results47,go_sem,AU,AG,r0,r1]) rfl ?_
  exact⟨⟨⟨#[]⟩,[]⟩,none,0,false,false,rfl,⟨by simp,Ad rfl⟩,(B3.out.setCell (by simp; omega) _).setCell (by simp; omega) _,Ad ⟨HN.out,rfl,rfl⟩⟩
 ·have HF:Hid (C8 p x=some (Ag l' p.r)):=by
   have ha:=(OG h0 List.Pairwise.nil).1
   unfold Hid C8
   rw[h0]
   show some (Ag h' p.r)=_
   rw[Vn (Vo aa ha) p.r]
  have HV:=Aa ai
  clear h0 ai aa af
  have p2:=ah.out.c2
  have p3:=ah.out.c3
  go_wp2_with fail
  refine(WC l' p.r _ _ _ (λb=>(X b/\b<w.heap.size)∨W.heap.size<=b) (by exact HV.out.mono λb h _=>h.imp (λh=>h.1) id) ⟨_,_,rfl,(S2.out.later B3.out).mono λb h _=>Ad h⟩ hz2).mono ?_
  rintro e w4 ⟨y,a6,c6,ok,rfl,hy,aj,ak,hb4⟩
  have aq:Below w4.heap.size w4 (w4.alloc (.cells #[.string y.name,.slice a6 y.args.length c6] 29)):=(Af _ _).alloc (Aj _) _
  have B4:=Aa (B3.out.trans (hb4.mono B3.out.size))
  have ag:=Aa (ae.out.below hb4 ae.out.lt)
  have S6:=Aa (ak.mono (Y:=λb=>(X b/\b<w.heap.size)∨w.heap.size+3<=b) λb h _=>by
   have h3:=ao.out
   have h4:=B3.out.size
   have h5:=ae.out.lt
   rcases h with ⟨h|h,_⟩|h
   ·exact Ad h
   ·exact Ae (by omega)
   ·exact Ae (by omega))
  have HY:=Aa hy
  have ar:=Aa aj
  have hl4:w.heap.size+2<w4.heap.size:=ag.out.lt
  clear ak hb4 hy aj p2 p3 r0 r1 rf aq
  have r0:=ag.out.c0
  have r1:=ag.out.c1
  have rf:=ag.out.frozen
  go_wp2_with fail
  have KF:Ac (((w4.setCell ⟨w.heap.size+1+1,0,none⟩ (.string y.name)).setCell ⟨w.heap.size+1+1,1,none⟩ (.slice a6 y.args.length c6)).alloc (.cells #[.string y.name,.slice a6 y.args.length c6] 29)) (w.heap.size+1+1) #[.string y.name,.slice a6 y.args.length c6] 29:=((ag.out.set 0 (.string y.name)).set 1 (.slice a6 y.args.length c6)).alloc _
  have BF:Hid (Below w.heap.size w (((w4.setCell ⟨w.heap.size+1+1,0,none⟩ (.string y.name)).setCell ⟨w.heap.size+1+1,1,none⟩ (.slice a6 y.args.length c6)).alloc (.cells #[.string y.name,.slice a6 y.args.length c6] 29))):=((B4.out.setCell (by simp; omega) _).setCell (by simp; omega) _).alloc (by simp[World.setCell]; have:=B4.out.size; omega) _
  have SF:Hid (Sl (((w4.setCell ⟨w.heap.size+1+1,0,none⟩ (.string y.name)).setCell ⟨w.heap.size+1+1,1,none⟩ (.slice a6 y.args.length c6)).alloc (.cells #[.string y.name,.slice a6 y.args.length c6] 29)) (λb=>(X b/\b<w.heap.size)∨w.heap.size<=b) a6 y.args):=by
   have h1:Sl ((w4.setCell ⟨w.heap.size+1+1,0,none⟩ (.string y.name)).setCell ⟨w.heap.size+1+1,1,none⟩ (.slice a6 y.args.length c6)) (λb=>(X b/\b<w.heap.size)∨w.heap.size+3<=b) a6 y.args:=S6.out.kept λb hb=>by
    have hne:b≠w.heap.size+1+1:=by rcases hb with h|h<;>omega
    rw[Aq _ _ _ _ (by simpa using hne),Aq _ _ _ _ (by simpa using hne)]
   exact(h1.mono λb hb _=>hb.imp id (λh=>by omega)).later ((Af _ _).alloc (Aj _) _)
  generalize (((w4.setCell ⟨w.heap.size+1+1,0,none⟩ (.string y.name)).setCell ⟨w.heap.size+1+1,1,none⟩ (.slice a6 y.args.length c6)).alloc (.cells #[.string y.name,.slice a6 y.args.length c6] 29))=wf at *
  have f0:=KF.c0
  have f1:=KF.c1
  refine Ap (v:=.tuple #[.agg #[.string y.name,.slice a6 y.args.length c6],.bool true,.bool !ok]) (by simp[results,Tryz.results47,go_sem,f0,f1]) rfl ?_
  refine⟨y,a6,c6,true,!ok,rfl,SF.out,BF.out,Ae ⟨_,HF.out,rfl,?_,?_⟩⟩
  ·have h:=ar.out
   cases ok with
   |true=>simp at h ⊢; omega
   |false=>simp at h ⊢; omega
  ·intro h
   exact HY.out (by cases ok with
    |true=>rfl
    |false=>cases h)
end Go.Proofs.YtlkeafenklamjaaGreatDoor
