import Derived.Test.YtacmmcnnhfmepaaGreatDoorSo8
import Derived.Test.YtacmmcnnhfmepaaGreatDoorW113
namespace Go.Proofs.YtacmmcnnhfmepaaGreatDoor
set_option linter.all false
set_option maxRecDepth 9999
set_option maxHeartbeats 0
open Go.RowKit Go.Proofs.Tryz
variable {ls:List Pr} {V:List ByteArray} {N:Nat}
theorem Nk {t:Tm} (h:FL t=0):As [t]=0/\Ah [t]<=2000:=by
 unfold FL at h;split at h
 ·cases h
 ·exact⟨h,by omega⟩
theorem VM:∀(l:List Pr),(∀p∈l,Ah [p.l]<=2000/\Ah [p.r]<=2000)->Ah (AO l)<=4000*l.length
 | [],_=>by simp[AO,Ah]
 |p::l,h=>by
  have h1:=h p (by simp);have h2:=VM l λq hq=>h q (by simp[hq]);have e1:=Fm p.l (p.r::AO l);have e2:=Fm p.r (AO l);rw[AO];simp only[Cl];omega
theorem VN:∀(l:List Pr),(∀p∈l,As [p.l]=0/\As [p.r]=0)->As (AO l)=0
 | [],_=>by simp[AO,As]
 |p::l,h=>by
  rw[AO];exact C9.2 ⟨(h p (by simp)).1,C9.2 ⟨(h p (by simp)).2,VN l λq hq=>h q (by simp[hq])⟩⟩
theorem JZ (h:Gj ls=0):As (AO ls)=0/\ls.length<=40/\UI ((Aw (An [] (AO ls))).map (·.name)) [] ls/\((Aw (An [] (AO ls))).map (·.name)).length<=400000:=by
 have h1:=WV h;have h2:=Qj h;have he:As (AO ls)=0:=VN ls λp hp=>⟨(Nk (h1 p hp).1).1,(Nk (h1 p hp).2).1⟩;have a:∀p∈ls,Ah [p.l]<=2000/\Ah [p.r]<=2000:=λp hp=>⟨(Nk (h1 p hp).1).2,(Nk (h1 p hp).2).2⟩;refine⟨he,h2,UI.start he a h2,?_⟩;rw[GH,Kh,Qb _ (by simp)];have:=VM ls a;omega
theorem pR (hp:Gj ls=0) (R:Int×List Bd) (g0:Nat) (d:A0 false g0 [] ls=some R) (u:Value) (w:World) (X:Nat->Prop) (hu:QV w X u ls):
  Calls prog 106 #[u] w λe w'=>O0 R w e w':=by
 obtain⟨he,i,f,g⟩:=JZ hp;obtain⟨a,c,rfl,_,hc⟩:=hu.mono (Y:=λb=>b<w.heap.size) λ_ _ h=>h;rcases hc with rfl|⟨b,o,rfl,hb,k⟩
 ·exact FJ.1 (Vz (Aa UV) 6 (by omega) 0 0 a [] c (Ad rfl) (by simp) _ g f R g0 d w (Bp _) (Ad rfl) (λj u h=>by simp[Dg] at h) (by simp))
 ·obtain⟨xs,l,m,n⟩:=OJ ls b o k;subst l;have q:xs.length<=40:=by simpa using i
  have:=Vz (Aa UV) 6 (by omega) b o (some (zD b o)) xs c (Ae rfl) q _ g f R g0 d w (Nat.le_of_lt hb) (Ae hb) m n;rw[GH];exact FJ.1 this
theorem pS (hp:Gj ls=0) (R:Int×List Bd) (g0:Nat) (f:A0 false g0 [] ls=some R) (u:Value) (w:World) (X:Nat->Prop) (hu:QV w X u ls):
  Calls prog 86 #[u] w λe w'=>O0 R w e w':=by
 have g:=Aa hu;have h:=Aa f;have i:=Aa hp;clear hu f hp;go_in;go_wp2_with fail;refine(mG ls (JZ i.o).1 u w X g.o).mono ?_;rintro e q ⟨code,rfl,j,k⟩;have a:=Aa j;have r:=Aa k;clear j k;by_cases c:code=0
 ·subst c;go_wp2_with fail;refine(pR i.o R g0 h.o u q X (g.o.later a.o)).mono ?_;rintro e w2 ⟨l,hc⟩;have d:=Aa (a.o.trans (l.mono a.o.size));have s:=Aa hc;clear l hc;rcases s.o with ⟨h1,rfl⟩|⟨h1,h2,rfl⟩|⟨h1,h2,v,rfl,h3⟩
  ·go_wp2_with fail;refine Ao (v:=.tuple #[zB,zA 8]) (by simp[results,results86,go_sem]) rfl ?_;exact⟨d.o,Ad ⟨h1,rfl⟩⟩
  ·go_wp2_with fail;refine Ao (v:=.tuple #[zB,zA R.1]) (by simp[results,results86,go_sem]) rfl ?_;exact⟨d.o,Ae (Ad ⟨h1,h2,rfl⟩)⟩
  ·have t:=Aa h3;clear h3;go_wp2_with fail;refine Ao (v:=.tuple #[v,zA 0]) (by simp[results,results86,go_sem]) rfl ?_;exact⟨d.o,Ae (Ae ⟨h1,h2,v,rfl,t.o.mono λb hb _=>AJ a.o.size hb⟩)⟩
 ·obtain⟨n9,sf,m,n⟩:=r.o c;have x:=OR _ _ _ _ _ _ h.o m;subst x;have y:(code==0)=false:=Dx.2 c;have ar:(code !=0)=true:=by simp[bne,y]
  have z:=Aa n;have A:=Aa c;clear m n c;go_wp2_with fail;refine Ao (v:=.tuple #[zB,zA code]) (by simp[results,results86,go_sem]) rfl ?_;exact⟨a.o,Ae (Ad ⟨z.o,A.o,rfl⟩)⟩
theorem VO (hp:Gj ls=0):∃(g:Nat) (R a:Int×List Bd),A0 false g [] ls=some R/\A0 true g [] ls=some a/\(AV R.2=true->a.1=8)/\(AV R.2=false->a=R):=by
 obtain⟨n,r,b⟩:=Zb ls (JZ hp).1;obtain⟨e,sf⟩:=r;obtain⟨e',c,h1,h2,h3⟩:=Qv n [] ls e sf b (by simp[AV]);refine⟨n,(e,sf),(e',c),b,h1,h2,λd=>?_⟩;obtain⟨rfl,rfl⟩:=h3 d;rfl
theorem pT (a:V.length<=400000) {R:Int×List Bd} (b:UI V [] ls) (c:A0 true N [] ls=some R) (h0:R.1≠0) (v:Value) (w:World) (X:Nat->Prop) (d:QV w X v ls):
  Calls prog 25 #[v] w λe w'=>e=.returned (.tuple #[zB,zA R.1])/\Below w.heap.size w w':=by
 refine(VL V a R N ls v w X d b c).mono ?_;rintro e w' ⟨hb,⟨h,_⟩|⟨_,rfl⟩⟩
 ·exact absurd h h0
 ·exact⟨rfl,hb⟩
theorem pU (b:V.length<=400000) {R:Int×List Bd} (c:UI V [] ls) (d:A0 true N [] ls=some R) (h0:R.1=0) (v:Value) (w:World) (X:Nat->Prop) (f:QV w X v ls):
  Calls prog 25 #[v] w λe w'=>∃a,e=.returned (.tuple #[a,zA 0])/\BV w' (λ_=>True) a R.2/\Below w.heap.size w w':=by
 refine(VL V b R N ls v w X f c d).mono ?_;rintro e w' ⟨hb,⟨_,a,rfl,g⟩|⟨h,_⟩⟩
 ·exact⟨a,rfl,g,hb⟩
 ·exact absurd h0 h
