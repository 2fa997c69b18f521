import Derived.Test.YtlkeafenklamjaaGreatDoorSo8
import Derived.Test.YtlkeafenklamjaaGreatDoorW113
namespace Go.Proofs.YtlkeafenklamjaaGreatDoor
set_option linter.all false
set_option maxRecDepth 20000
set_option maxHeartbeats 8000000
open Go.RowKit
theorem K8 {t:Tm} (h:Ay t=0):Ah [t]=0/\Ab [t]<=2000:=by
 unfold Ay at h
 split at h
 ·cases h
 ·exact⟨h,by omega⟩
theorem RY:∀(l:List Pr),(∀p∈l,Ab [p.l]<=2000/\Ab [p.r]<=2000)->Ab (Aw l)<=4000*l.length
 | [],_=>by simp[Aw,Ab]
 |p::l,h=>by
  have h1:=h p (by simp)
  have h2:=RY l λq hq=>h q (by simp[hq])
  have e1:=EG p.l (p.r::Aw l)
  have e2:=EG p.r (Aw l)
  rw[Aw]
  simp only[Bs]
  omega
theorem RZ:∀(l:List Pr),(∀p∈l,Ah [p.l]=0/\Ah [p.r]=0)->Ah (Aw l)=0
 | [],_=>by simp[Aw,Ah]
 |p::l,h=>by
  rw[Aw]
  exact Cp.2 ⟨(h p (by simp)).1,Cp.2 ⟨(h p (by simp)).2,RZ l λq hq=>h q (by simp[hq])⟩⟩
theorem HH {ls:List Pr} (h:Ck ls=0):Ah (Aw ls)=0/\ls.length<=40/\UI ((Ao (Am [] (Aw ls))).map (·.name)) [] ls/\((Ao (Am [] (Aw ls))).map (·.name)).length<=400000:=by
 have h1:=Uq h
 have h2:=NN h
 have he:Ah (Aw ls)=0:=RZ ls λp hp=>⟨(K8 (h1 p hp).1).1,(K8 (h1 p hp).2).1⟩
 have hs:∀p∈ls,Ab [p.l]<=2000/\Ab [p.r]<=2000:=λp hp=>⟨(K8 (h1 p hp).1).2,(K8 (h1 p hp).2).2⟩
 refine⟨he,h2,UI.start he hs h2,?_⟩
 rw[DZ,Gh,GX _ (by simp)]
 have:=RY ls hs
 omega
theorem ZD {ls:List Pr} (hp:Ck ls=0) (R:Int×List Bd) (g0:Nat) (hrun:AQ false g0 [] ls=some R) (u:Value) (w:World) (X:Nat->Prop) (hu:QV w X u ls):
  Calls Tryz.prog 85 #[u] w λe w'=>KT R w e w':=by
 obtain⟨he,hl,hU,hV⟩:=HH hp
 obtain⟨a,c,rfl,_,hc⟩:=hu.mono (Y:=λb=>b<w.heap.size) λ_ _ h=>h
 rcases hc with rfl|⟨b,o,rfl,hb,hcell⟩
 ·exact DN.1 (Ry (Aa Rs) 6 (by omega) 0 0 a [] c (Ad rfl) (by simp) _ hV hU R g0 hrun w (AE _) (Ad rfl) (λj u h=>by simp[CH] at h) (by simp))
 ·obtain⟨xs,hx1,hx2,hx3⟩:=MU ls b o hcell
  subst hx1
  have hl2:xs.length<=40:=by simpa using hl
  have:=Ry (Aa Rs) 6 (by omega) b o (some ⟨b,o,none⟩) xs c (Ae rfl) hl2 _ hV hU R g0 hrun w (Nat.le_of_lt hb) (Ae hb) hx2 hx3
  rw[DZ]
  exact DN.1 this
def ZE (ls:List Pr) (R:Int×List Bd) (w:World) (e:Ending) (w':World):Prop:=
 (Ck ls≠0/\Below w.heap.size w w'/\e=.returned (.tuple #[.slice none 0 0,.int .i64 (Ck ls)]))∨(Ck ls=0/\KT R w e w')
theorem ZG {ls:List Pr} (hp:Ck ls=0) (R:Int×List Bd) (g0:Nat) (hrun:AQ false g0 [] ls=some R) (u:Value) (w:World) (X:Nat->Prop) (hu:QV w X u ls):
  Calls Tryz.prog 61 #[u] w λe w'=>KT R w e w':=by
 have HU:=Aa hu
 have HR:=Aa hrun
 have HP:=Aa hp
 clear hu hrun hp
 go_enter Tryz.func61,Tryz.ntmps61
 go_wp2_with fail
 refine(YZ ls (HH HP.out).1 u w X HU.out).mono ?_
 rintro e w9 ⟨code,rfl,af,ag⟩
 have aa:=Aa af
 have aj:=Aa ag
 clear af ag
 by_cases hc0:code=0
 ·subst hc0
  go_wp2_with fail
  refine(ZD HP.out R g0 HR.out u w9 X (HU.out.later aa.out)).mono ?_
  rintro e w2 ⟨hb2,hc⟩
  have ae:=Aa (aa.out.trans (hb2.mono aa.out.size))
  have HC:=Aa hc
  clear hb2 hc
  rcases HC.out with ⟨h1,rfl⟩|⟨h1,h2,rfl⟩|⟨h1,h2,v,rfl,h3⟩
  ·go_wp2_with fail
   refine Ap (v:=.tuple #[.slice none 0 0,.int .i64 8]) (by simp[results,Tryz.results61,go_sem]) rfl ?_
   exact⟨ae.out,Ad ⟨h1,rfl⟩⟩
  ·go_wp2_with fail
   refine Ap (v:=.tuple #[.slice none 0 0,.int .i64 R.1]) (by simp[results,Tryz.results61,go_sem]) rfl ?_
   exact⟨ae.out,Ae (Ad ⟨h1,h2,rfl⟩)⟩
  ·have H3:=Aa h3
   clear h3
   go_wp2_with fail
   refine Ap (v:=.tuple #[v,.int .i64 0]) (by simp[results,Tryz.results61,go_sem]) rfl ?_
   exact⟨ae.out,Ae (Ae ⟨h1,h2,v,rfl,H3.out.mono λb hb _=>AX aa.out.size hb⟩)⟩
 ·obtain⟨n9,sf,ah,ai⟩:=aj.out hc0
  have ak:=M0 _ _ _ _ _ _ HR.out ah
  subst ak
  have hcb:(code==0)=false:=DL.2 hc0
  have ar:(code !=0)=true:=by simp[bne,hcb]
  have ao:=Aa ai
  have aq:=Aa hc0
  clear ah ai hc0
  go_wp2_with fail
  refine Ap (v:=.tuple #[.slice none 0 0,.int .i64 code]) (by simp[results,Tryz.results61,go_sem]) rfl ?_
  exact⟨aa.out,Ae (Ad ⟨ao.out,aq.out,rfl⟩)⟩
theorem R8 (ls:List Pr) (R:Int×List Bd) (g0:Nat) (hrun:Ck ls=0->AQ false g0 [] ls=some R) (u:Value) (w:World) (X:Nat->Prop) (hu:QV w X u ls):
  Calls Tryz.prog 37 #[u] w λe w'=>ZE ls R w e w':=by
 have HU:=Aa hu
 have HR:=Aa hrun
 clear hu hrun
 by_cases hp:Ck ls=0
 ·have HP:=Aa hp
  go_enter Tryz.func37,Tryz.ntmps37
  go_wp2_with (go_at_call 60; refine(Pa ls u w X HU.out).mono ?_; rintro e w1 ⟨rfl,hb1⟩; rw[HP.out]; have aa:=Aa hb1; clear hb1)
  refine(ZG HP.out R g0 (HR.out HP.out) u w1 X (HU.out.later aa.out)).mono ?_
  rintro e w2 ⟨hb2,hc⟩
  have ae:=Aa (aa.out.trans (hb2.mono aa.out.size))
  have HC:=Aa hc
  clear hb2 hc
  rcases HC.out with ⟨h1,rfl⟩|⟨h1,h2,rfl⟩|⟨h1,h2,v,rfl,h3⟩
  ·go_wp2_with fail
   refine Ap (v:=.tuple #[.slice none 0 0,.int .i64 8]) (by simp[results,Tryz.results37,go_sem]) rfl ?_
   exact Ae ⟨HP.out,ae.out,Ad ⟨h1,rfl⟩⟩
  ·go_wp2_with fail
   refine Ap (v:=.tuple #[.slice none 0 0,.int .i64 R.1]) (by simp[results,Tryz.results37,go_sem]) rfl ?_
   exact Ae ⟨HP.out,ae.out,Ae (Ad ⟨h1,h2,rfl⟩)⟩
  ·have H3:=Aa h3
   clear h3
   go_wp2_with fail
   refine Ap (v:=.tuple #[v,.int .i64 0]) (by simp[results,Tryz.results37,go_sem]) rfl ?_
   exact Ae ⟨HP.out,ae.out,Ae (Ae ⟨h1,h2,v,rfl,H3.out.mono λb hb _=>AX aa.out.size hb⟩)⟩
 ·have af:(Ck ls==0)=false:=DL.2 hp
  have HP:=Aa hp
  clear hp
  go_enter Tryz.func37,Tryz.ntmps37
  go_wp2_with (go_at_call 60; refine(Pa ls u w X HU.out).mono ?_; rintro e w1 ⟨rfl,hb1⟩; have aa:=Aa hb1; clear hb1)
  refine Ap (v:=.tuple #[.slice none 0 0,.int .i64 (Ck ls)]) (by simp[results,Tryz.results37,go_sem]) rfl ?_
  exact Ad ⟨HP.out,aa.out,rfl⟩
theorem ZH {ls:List Pr} (hp:Ck ls=0):∃(g:Nat) (R R':Int×List Bd),AQ false g [] ls=some R/\AQ true g [] ls=some R'/\(AD R.2=true->R'.1=8)/\(AD R.2=false->R'=R):=by
 obtain⟨n,r,hr⟩:=P5 ls (HH hp).1
 obtain⟨e,sf⟩:=r
 obtain⟨e',aa,h1,h2,h3⟩:=N6 n [] ls e sf hr (by simp[AD])
 refine⟨n,(e,sf),(e',aa),hr,h1,h2,λhg=>?_⟩
 obtain⟨rfl,rfl⟩:=h3 hg
 rfl
end Go.Proofs.YtlkeafenklamjaaGreatDoor
