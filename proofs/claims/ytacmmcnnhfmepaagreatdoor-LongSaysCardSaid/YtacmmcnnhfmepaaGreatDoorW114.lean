import Derived.Test.YtacmmcnnhfmepaaGreatDoorSo8
import Derived.Test.YtacmmcnnhfmepaaGreatDoorW113
namespace Go.Proofs.YtacmmcnnhfmepaaGreatDoor
set_option linter.all false
set_option maxRecDepth 20000
set_option maxHeartbeats 8000000
open Go.RowKit Go.Proofs.Tryz
theorem MD {t:Tm} (h:Fx t=0):As [t]=0/\Ah [t]<=2000:=by
 unfold Fx at h;split at h
 ·cases h
 ·exact⟨h,by omega⟩
theorem Uv:∀(l:List Pr),(∀p∈l,Ah [p.l]<=2000/\Ah [p.r]<=2000)->Ah (AL l)<=4000*l.length
 | [],_=>by simp[AL,Ah]
 |p::l,h=>by
  have h1:=h p (by simp);have h2:=Uv l λq hq=>h q (by simp[hq]);have e1:=Fe p.l (p.r::AL l);have e2:=Fe p.r (AL l);rw[AL];simp only[Cg];omega
theorem Uw:∀(l:List Pr),(∀p∈l,As [p.l]=0/\As [p.r]=0)->As (AL l)=0
 | [],_=>by simp[AL,As]
 |p::l,h=>by
  rw[AL];exact CW.2 ⟨(h p (by simp)).1,CW.2 ⟨(h p (by simp)).2,Uw l λq hq=>h q (by simp[hq])⟩⟩
theorem JG {ls:List Pr} (h:Ga ls=0):As (AL ls)=0/\ls.length<=40/\UI ((Aw (An [] (AL ls))).map (·.name)) [] ls/\((Aw (An [] (AL ls))).map (·.name)).length<=400000:=by
 have h1:=VA h;have h2:=Pi h;have he:As (AL ls)=0:=Uw ls λp hp=>⟨(MD (h1 p hp).1).1,(MD (h1 p hp).2).1⟩;have a:∀p∈ls,Ah [p.l]<=2000/\Ah [p.r]<=2000:=λp hp=>⟨(MD (h1 p hp).1).2,(MD (h1 p hp).2).2⟩;refine⟨he,h2,UI.start he a h2,?_⟩;rw[Gs,JQ,Iw _ (by simp)];have:=Uv ls a;omega
theorem iZ {ls:List Pr} (hp:Ga ls=0) (R:Int×List Bd) (g0:Nat) (d:AZ false g0 [] ls=some R) (u:Value) (w:World) (X:Nat->Prop) (hu:QV w X u ls):
  Calls prog 106 #[u] w λe w'=>Om R w e w':=by
 obtain⟨he,i,f,g⟩:=JG hp;obtain⟨a,c,rfl,_,hc⟩:=hu.mono (Y:=λb=>b<w.heap.size) λ_ _ h=>h;rcases hc with rfl|⟨b,o,rfl,hb,k⟩
 ·exact Fv.1 (Uj (Aa TU) 6 (by omega) 0 0 a [] c (Ad rfl) (by simp) _ g f R g0 d w (Bm _) (Ad rfl) (λj u h=>by simp[Da] at h) (by simp))
 ·obtain⟨xs,l,m,n⟩:=Ob ls b o k;subst l;have q:xs.length<=40:=by simpa using i
  have:=Uj (Aa TU) 6 (by omega) b o (some (zD b o)) xs c (Ae rfl) q _ g f R g0 d w (Nat.le_of_lt hb) (Ae hb) m n;rw[Gs];exact Fv.1 this
theorem jA {ls:List Pr} (hp:Ga ls=0) (R:Int×List Bd) (g0:Nat) (f:AZ false g0 [] ls=some R) (u:Value) (w:World) (X:Nat->Prop) (hu:QV w X u ls):
  Calls prog 86 #[u] w λe w'=>Om R w e w':=by
 have g:=Aa hu;have h:=Aa f;have i:=Aa hp;clear hu f hp;go_enter func86,ntmps86;go_wp2_with fail;refine(ZB ls (JG i.o).1 u w X g.o).mono ?_;rintro e q ⟨code,rfl,j,k⟩;have a:=Aa j;have r:=Aa k;clear j k;by_cases c:code=0
 ·subst c;go_wp2_with fail;refine(iZ i.o R g0 h.o u q X (g.o.later a.o)).mono ?_;rintro e w2 ⟨l,hc⟩;have d:=Aa (a.o.trans (l.mono a.o.size));have s:=Aa hc;clear l hc;rcases s.o with ⟨h1,rfl⟩|⟨h1,h2,rfl⟩|⟨h1,h2,v,rfl,h3⟩
  ·go_wp2_with fail;refine Ao (v:=.tuple #[zB,zA 8]) (by simp[results,results86,go_sem]) rfl ?_;exact⟨d.o,Ad ⟨h1,rfl⟩⟩
  ·go_wp2_with fail;refine Ao (v:=.tuple #[zB,zA R.1]) (by simp[results,results86,go_sem]) rfl ?_;exact⟨d.o,Ae (Ad ⟨h1,h2,rfl⟩)⟩
  ·have t:=Aa h3;clear h3;go_wp2_with fail;refine Ao (v:=.tuple #[v,zA 0]) (by simp[results,results86,go_sem]) rfl ?_;exact⟨d.o,Ae (Ae ⟨h1,h2,v,rfl,t.o.mono λb hb _=>AN a.o.size hb⟩)⟩
 ·obtain⟨n9,sf,m,n⟩:=r.o c;have x:=Oh _ _ _ _ _ _ h.o m;subst x;have y:(code==0)=false:=Dr.2 c;have ar:(code !=0)=true:=by simp[bne,y]
  have z:=Aa n;have A:=Aa c;clear m n c;go_wp2_with fail;refine Ao (v:=.tuple #[zB,zA code]) (by simp[results,results86,go_sem]) rfl ?_;exact⟨a.o,Ae (Ad ⟨z.o,A.o,rfl⟩)⟩
theorem Ux {ls:List Pr} (hp:Ga ls=0):∃(g:Nat) (R a:Int×List Bd),AZ false g [] ls=some R/\AZ true g [] ls=some a/\(AU R.2=true->a.1=8)/\(AU R.2=false->a=R):=by
 obtain⟨n,r,b⟩:=Yb ls (JG hp).1;obtain⟨e,sf⟩:=r;obtain⟨e',c,h1,h2,h3⟩:=Pv n [] ls e sf b (by simp[AU]);refine⟨n,(e,sf),(e',c),b,h1,h2,λd=>?_⟩;obtain⟨rfl,rfl⟩:=h3 d;rfl
theorem jB {V:List ByteArray} (a:V.length<=400000) {R:Int×List Bd} {N:Nat} {ls:List Pr} (b:UI V [] ls) (c:AZ true N [] ls=some R) (h0:R.1≠0) (v:Value) (w:World) (X:Nat->Prop) (d:QV w X v ls):
  Calls prog 25 #[v] w λe w'=>e=.returned (.tuple #[zB,zA R.1])/\Below w.heap.size w w':=by
 refine(Uu V a R N ls v w X d b c).mono ?_;rintro e w' ⟨hb,⟨h,_⟩|⟨_,rfl⟩⟩
 ·exact absurd h h0
 ·exact⟨rfl,hb⟩
theorem jC {V:List ByteArray} (b:V.length<=400000) {R:Int×List Bd} {N:Nat} {ls:List Pr} (c:UI V [] ls) (d:AZ true N [] ls=some R) (h0:R.1=0) (v:Value) (w:World) (X:Nat->Prop) (f:QV w X v ls):
  Calls prog 25 #[v] w λe w'=>∃a,e=.returned (.tuple #[a,zA 0])/\BV w' (λ_=>True) a R.2/\Below w.heap.size w w':=by
 refine(Uu V b R N ls v w X f c d).mono ?_;rintro e w' ⟨hb,⟨_,a,rfl,g⟩|⟨h,_⟩⟩
 ·exact⟨a,rfl,g,hb⟩
 ·exact absurd h0 h
