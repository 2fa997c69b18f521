import Derived.Test.YtlkeafenklamjaaGreatDoorW52
namespace Go.Proofs.YtlkeafenklamjaaGreatDoor
set_option linter.all false
set_option maxRecDepth 20000
set_option maxHeartbeats 8000000
open Go.RowKit
def WB (w:World) (X:Nat->Prop) (t:Tm) (e:Ending) (w':World):Prop:=
 Below w.heap.size w w'/\((2000<Ab [t]/\e=.returned (.tuple #[.agg #[.string ⟨#[]⟩,.slice none 0 0],.bool false]))∨(Ab [t]<=2000/\∃a c,e=.returned (.tuple #[.agg #[.string t.name,.slice a t.args.length c],.bool true])/\Sl w' (λb=>(X b/\b<w.heap.size)∨w.heap.size<=b) a t.args))
theorem PG (ls:List Bd) (t:Tm) (u v:Value) (w:World) (X:Nat->Prop) (hu:BV w X u ls) (hv:TV w X v t) (hsm:Ab [t]<=1000000):
  Calls Tryz.prog 29 #[u,v] w λe w'=>WB w X (Ag ls t) e w':=by
 obtain⟨a,c,rfl,hs⟩:=hv
 have HU:=Aa (hu.mono (Y:=λb=>X b/\b<w.heap.size) λb h1 h2=>⟨h1,h2⟩)
 have HS:=Aa (hs.mono (Y:=λb=>X b/\b<w.heap.size) λb h1 h2=>⟨h1,h2⟩)
 clear hu hs
 go_enter Tryz.func29,Tryz.ntmps29
 go_wp2_with fail
 refine(VG ls t u _ 2000 _ (λb=>X b/\b<w.heap.size) (by exact(HU.out.alloc _).alloc _) (by exact⟨a,c,rfl,(HS.out.later ((Af _ _).alloc (Aj _) _)).later ((Af _ _).alloc (Aj _) _)⟩) (by decide) (by decide)).mono ?_
 rintro e w1 ⟨rfl,hb1⟩
 have T1:=Aa (((Ac.new w #[.string t.name,.slice a t.args.length c] 29).alloc (.cells #[.string ⟨#[]⟩,.slice none 0 0] 29)).below hb1 (by simp; omega))
 have R1:Hid (Ac w1 (w.heap.size+1) #[.string ⟨#[]⟩,.slice none 0 0] 29):=by
  have h:=(Ac.new (w.alloc (.cells #[.string t.name,.slice a t.args.length c] 29)) #[.string ⟨#[]⟩,.slice none 0 0] 29).below hb1 (by simp)
  unfold Hid
  simpa using h
 have B1:=Aa ((((Af w.heap.size w).alloc (Aj _) (.cells #[.string t.name,.slice a t.args.length c] 29)).alloc (by simp) (.cells #[.string ⟨#[]⟩,.slice none 0 0] 29)).trans (hb1.mono (by simp; omega)))
 clear hb1
 have t0:=T1.out.c0
 have t1:=T1.out.c1
 have r0:=R1.out.c0
 have r1:=R1.out.c1
 have rf:=R1.out.frozen
 by_cases hg:2000<Ab [Ag ls t]
 ·have aa:min (Ab [Ag ls t]:Int) (2000+1)=2001:=by omega
  rw[aa]
  go_wp2_with fail
  refine Ap (v:=.tuple #[.agg #[.string ⟨#[]⟩,.slice none 0 0],.bool false]) (by simp[results,Tryz.results29,go_sem,AU,AG,r0,r1]) rfl ?_
  exact⟨(B1.out.setCell (by simp) _).setCell (by simp) _,Ad ⟨hg,rfl⟩⟩
 ·have aa:min (Ab [Ag ls t]:Int) (2000+1)=Ab [Ag ls t]:=by omega
  rw[aa]
  have hle:¬(2000:Int)<(Ab [Ag ls t]:Int):=by omega
  clear aa
  go_wp2_with fail
  refine(Mq ls t u _ _ (λb=>X b/\b<w.heap.size) (by exact HU.out.later B1.out) (by exact⟨a,c,rfl,HS.out.later B1.out⟩) hsm).mono ?_
  rintro e w2 ⟨a2,c2,rfl,hs2,hb2⟩
  have R2:=Aa (R1.out.below hb2 R1.out.lt)
  have B2:=Aa (B1.out.trans (hb2.mono B1.out.size))
  have S2:=Aa (hs2.mono (Y:=λb=>(X b/\b<w.heap.size)∨w.heap.size+2<=b) λb hb _=>hb.imp (λh=>h.1) (λh=>by have:=R1.out.lt; omega))
  clear hb2 hs2 r0 r1 rf t0 t1
  have r0:=R2.out.c0
  have r1:=R2.out.c1
  have rf:=R2.out.frozen
  go_wp2_with fail
  refine Ap (v:=.tuple #[.agg #[.string (Ag ls t).name,.slice a2 (Ag ls t).args.length c2],.bool true]) (by simp[results,Tryz.results29,go_sem,AU,AG,r0,r1]) rfl ?_
  refine⟨(B2.out.setCell (by simp) _).setCell (by simp) _,Ae ⟨by omega,a2,c2,rfl,(S2.out.kept λb hb=>?_).mono λb hb _=>hb.imp id (λh=>by omega)⟩⟩
  have ae:b≠w.heap.size+1:=by
   rcases hb with h|h
   ·have:=h.2; omega
   ·omega
  rw[Aq _ _ _ _ (by simpa using ae),Aq _ _ _ _ (by simpa using ae)]
end Go.Proofs.YtlkeafenklamjaaGreatDoor
