import Derived.Test.YtacmmcnnhfmepaaGreatDoorL10
import Derived.Stop.RegionWithIn
namespace Go.Proofs.YtacmmcnnhfmepaaGreatDoor
open Go.Proofs.Tryz
set_option linter.all false
set_option maxRecDepth 20000
set_option maxHeartbeats 8000000
open Go.RowKit Go.Shelf
attribute [local go_sem] Oper.semAt_some
def Ek (u:Int) (t:Lm):Prop:=0<=u/\u+Ai [t]<=45000/\(∃M:Int,Au u M [t]=0/\M<=40)/\Ai [t]<=2000
def jJ (w:World) (t:Lm) (S:Lm->Bool->World->Prop) (e:Ending) (w':World):Prop:=
 (Ct t=false/\e=.returned (.bool true)/\Below w.heap.size w w')∨(Ct t=true/\e=.returned (.bool false)/\∃x ok,(ok=true->x=GY t.subs)/\(ok=false->2000<Ai [GY t.subs])/\S x ok w')
theorem jK {t z:Lm} {u:Int} (ht:Ek (u+1) t) (hz:Ek u z) (v x:Value) (w:World) (X:Nat->Prop) (g:MV w X v t) (hx:MV w X x z):
  Calls prog 111 #[v,x,zA 2000] w λe w'=>∃q ok a c,e=.returned (.tuple #[.agg (zE q a c),.bool ok])/\Ap w' (λb=>w.heap.size<=b) a q.subs/\Below w.heap.size w w'/\(ok=true->q=AX z 0 t)/\(ok=false->2000<Ai [AX z 0 t]):=by
 obtain⟨h1,h2,⟨M1,h3,ab⟩,h4⟩:=ht;obtain⟨h,k2,⟨M2,d,ad⟩,k4⟩:=hz;refine(jI t z v x w X g hx (by omega) (Jf _ _ _ h1 (by omega) (by omega) h3) (Mh _ _ _ h3) (by omega) (Jf _ _ _ h (by omega) (by omega) d) (Mh _ _ _ d)).mono ?_;rintro e w' ⟨hb,⟨f,a,c,rfl,i⟩|⟨f,rfl⟩⟩
 ·exact⟨_,true,a,c,rfl,i,hb,λ_=>rfl,by simp⟩
 ·exact⟨⟨0,0,[]⟩,false,none,0,rfl,⟨by simp,Ad rfl⟩,hb,by simp,λ_=>f⟩
theorem Ek.subs {u k x:Int} {l:List Lm} (h:Ek u ⟨k,x,l⟩) {y:Lm} (hy:y∈l):Ek (AO u k) y:=by
 obtain⟨h1,h2,⟨M,h3,a⟩,b⟩:=h;rw[Kj]at h2 b;obtain⟨i,hi,rfl⟩:=List.mem_iff_getElem.1 hy;have:=Mf l i hi;have hd:u<=AO u k/\AO u k<=u+1:=by unfold AO; split<;>omega
 exact⟨by omega,by omega,⟨M,Me.1 (DV.1 h3).2 _ hy,a⟩,by omega⟩
theorem Uz {w:World} {X:Nat->Prop} {a:Option Addr} {f z:Lm} (h:Ap w X a [f,z]):∃B o b c1 a2 c2,a=some (zD B o)/\X B/\w.cell? (zD B o)=some (zA f.kind)/\w.cell? ⟨B,o+1,none⟩=some (zA f.idx)/\w.cell? ⟨B,o+2,none⟩=some (.slice b f.subs.length c1)/\w.cell? ⟨B,o+3,none⟩=some (zA z.kind)/\w.cell? ⟨B,o+4,none⟩=some (zA z.idx)/\w.cell? ⟨B,o+5,none⟩=some (.slice a2 z.subs.length c2)/\Ap w X b f.subs/\Ap w X a2 z.subs:=by
 obtain⟨_,h|⟨B,o,rfl,h⟩⟩:=h
 ·cases h
 ·have h0:=EZ _ _ _ h 0 (by simp);have h1:=EZ _ _ _ h 1 (by simp);simp only[Q6,Fg,Nat.zero_mul,Nat.one_mul,Hs] at h0 h1;obtain⟨hx,c,d,b,c1,e,g⟩:=h0;obtain⟨_,i,j,a2,c2,k,l⟩:=h1;exact⟨B,o,b,c1,a2,c2,rfl,hx,c,d,e,i,j,k,g,l⟩
theorem UA {w:World} {X:Nat->Prop} {a:Option Addr} {f:Lm} (h:Ap w X a [f]):∃B o b c1,a=some (zD B o)/\X B/\w.cell? (zD B o)=some (zA f.kind)/\w.cell? ⟨B,o+1,none⟩=some (zA f.idx)/\w.cell? ⟨B,o+2,none⟩=some (.slice b f.subs.length c1)/\Ap w X b f.subs:=by
 obtain⟨_,h|⟨B,o,rfl,h⟩⟩:=h
 ·cases h
 ·have h0:=EZ _ _ _ h 0 (by simp);simp only[Q6,Nat.zero_mul,Hs] at h0;obtain⟨hx,c,d,b,c1,e,g⟩:=h0;exact⟨B,o,b,c1,rfl,hx,c,d,e,g⟩
theorem jL {y:Value} {P:Nat->Prop} {hi:Nat} {J:World->Prop} {S:Lm->Bool->World->Prop} (hP:∀b,hi<=b->P b) (hT:G1 y P J S) (hJ:G7 J) (t:Lm) (u:Int) (x:Ek u t) (v:Value) (w:World) (X:Nat->Prop) (hv:MV w X v t) (D:∀b,X b->b<w.heap.size/\P b) (aD:hi<=w.heap.size) (M:J w):
  Calls prog 96 #[v,y] w λe w'=>jJ w t S e w':=by
 obtain⟨k,g,l⟩:=t;obtain⟨a,c,rfl,i⟩:=hv;dsimp only at i ⊢;by_cases h3:k=3;case neg=>
  have E:Hid (Ct ⟨k,g,l⟩=false):=Aa (by unfold Ct;simp[h3]);have e3:(k==3)=false:=Dr.2 h3;have e4:(k !=3)=true:=by simp[bne,e3]
  clear i;go_enter func96,ntmps96;go_wp2_with fail;go_ret;exact Ad ⟨E.o,rfl,(Ac _ _).alloc (Ag _) _⟩
 subst h3;have N:l.length=2:=by
  have:=(Et.1 (DV.1 x.2.2.1.choose_spec.1).1).2.1;rw[this]; rfl
 obtain⟨f,z,rfl⟩:∃f z,l=[f,z]:=by
  match l,N with
  | [f,z],_=>exact⟨f,z,rfl⟩
 obtain⟨B,o,a1,c1,a2,c2,rfl,aA,d0,d1,d2,d3,d4,d5,O,R⟩:=Uz i;have aE:B<w.heap.size:=(D B aA).1;by_cases h2:f.kind=2;case neg=>
  have E:Hid (Ct ⟨3,g,[f,z]⟩=false):=Aa (by unfold Ct;simp[h2]);have e3:(f.kind==2)=false:=Dr.2 h2;have e4:(f.kind !=2)=true:=by simp[bne,e3]
  clear i;go_enter func96,ntmps96;go_wp2_with fail;go_ret;exact Ad ⟨E.o,rfl,(Ac _ _).alloc (Ag _) _⟩
 have U:Hid (Ct ⟨3,g,[f,z]⟩=true):=Aa (by unfold Ct;simp[h2]);obtain⟨kf,A,j⟩:=f;simp only at h2;subst h2;have F:Ek u ⟨2,A,j⟩:=by have:=x.subs (y:=⟨2,A,j⟩) (by simp); simpa [AO] using this
 have V:Ek u z:=by have:=x.subs (y:=z) (by simp); simpa [AO] using this
 have W:j.length=1:=(by have:=(Et.1 (DV.1 F.2.2.1.choose_spec.1).1).2.1;rw[this]; rfl);obtain⟨b,rfl⟩:∃b,j=[b]:=by
  match j,W with
  | [b],_=>exact⟨b,rfl⟩
 have ar:Ek (u+1) b:=by have:=F.subs (y:=b) (by simp); simpa [AO] using this
 obtain⟨Z,o1,a3,c3,rfl,ag,g0,g1,g2,au⟩:=UA O;have aB:Z<w.heap.size:=(D Z ag).1;have av:Below w.heap.size w (w.alloc (.cells #[zA 3,zA g,.slice (some (zD B o)) 2 c] 24)):=(Ac _ _).alloc (Ag _) _;have aw:Below w.heap.size w ((w.alloc (.cells #[zA 3,zA g,.slice (some (zD B o)) 2 c] 24))).drew:=av.drew;have ax:Hid (∀w',Below w.heap.size w w'->Calls prog 111 #[.agg (zE b a3 c3),.agg (zE z a2 c2),zA 2000] w' λe C=>∃q ok a5 c5,e=.returned (.tuple #[.agg (zE q a5 c5),.bool ok])/\Ap C (λb=>w.heap.size<=b/\b<C.heap.size) a5 q.subs/\Below w.heap.size w C/\(ok=true->q=GY [⟨2,A,[b]⟩,z])/\(ok=false->2000<Ai [GY [⟨2,A,[b]⟩,z]])):=λw' hb=>by
  refine(jK ar V _ _ w' X ⟨a3,c3,rfl,au.later hb⟩ ⟨a2,c2,rfl,R.later hb⟩).mono ?_;rintro e C ⟨q,ok,a5,c5,rfl,h5,h6,h7,h8⟩;exact⟨q,ok,a5,c5,rfl,h5.mono λb h1 h2=>⟨AN hb.size h1,h2⟩,hb.trans (h6.mono hb.size),h7,h8⟩
 have HD:=Aa aw;have ay:Hid (∀d,Below w.heap.size w d->J d):=λd hb=>hJ _ _ M hb;have az:Hid (∀d,Below w.heap.size w d->∀b,(w.heap.size<=b/\b<d.heap.size)->b<d.heap.size/\P b):=λd hb b h=>⟨h.2,hP b (by omega)⟩;have aF:Fence.wide.fn 111:=trivial;have aG:Fence.wide.fn 112:=trivial;clear i O R au x F V ar D av aw W N M;rcases hT with ⟨T,I,Y,rfl,hT⟩|⟨lp,rfl,hT⟩
 ·have G:=Aa hT;clear hT;go_enter func96,ntmps96;refine(wpIn_wide (n:=1)).1 ?_;gi_wp2
  gi_region_with (first
    | (gi_at_call 111; refine(Fv.2 (ax.o _ (by first|exact Ac _ _|exact HD.o))).mono ?_; rintro e d ⟨q,ok,a5,c5,rfl,H,m,h1,h2⟩; have a6:=G.o d _ q ok _ (by exact ay.o d m) ⟨a5,c5,rfl,H⟩ (by exact az.o d m))
    | (gi_at_call 112; refine(Fv.2 a6).mono ?_; rintro e w6 ⟨rfl,r⟩))
  all_goals
   have L:=Aa r;have s:=Aa (And.intro h1 h2);clear r;clear a6
  all_goals gi_wp2
  all_goals go_ret
  all_goals exact Ae ⟨U.o,rfl,q,ok,s.o.1,s.o.2,L.o⟩
 ·have G:=Aa hT;clear hT;go_enter func96,ntmps96;refine(wpIn_wide (n:=1)).1 ?_;gi_wp2
  gi_region_with (first
    | (gi_at_call 111; refine(Fv.2 (ax.o _ (by first|exact Ac _ _|exact HD.o))).mono ?_; rintro e d ⟨q,ok,a5,c5,rfl,H,m,h1,h2⟩; obtain⟨aH,a7,aC,a8,aI,hR⟩:=G.o d _ q ok _ (by exact ay.o d m) ⟨a5,c5,rfl,H⟩ (by exact az.o d m) 0)
    | (refine hR.mono ?_; rintro e w6 ⟨rfl,r⟩))
  all_goals
   have L:=Aa r;have s:=Aa (And.intro h1 h2);clear r;skip
  all_goals gi_wp2
  all_goals go_ret
  all_goals exact Ae ⟨U.o,rfl,q,ok,s.o.1,s.o.2,L.o⟩
