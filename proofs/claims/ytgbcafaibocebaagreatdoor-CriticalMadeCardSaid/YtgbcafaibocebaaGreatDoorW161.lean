import Derived.Test.YtgbcafaibocebaaGreatDoorW53
namespace Go.Proofs.YtgbcafaibocebaaGreatDoor
set_option linter.all false
set_option maxRecDepth 20000
set_option maxHeartbeats 8000000
open Go.RowKit Go.Proofs.Tryz
theorem Xd (ls:List Bd) (t:Tm) (u v:Value) (w:World) (X:Nat->Prop) (hu:BV w X u ls) (hv:TV w X v t) (aa:Ab [t]<=1000000):
  Calls prog 40 #[u,v] w λe w'=>∃(x:Tm) (a:Option Addr) (c:Nat) (ok:Bool),e=.returned (.tuple #[.agg (zF x a c),.bool ok])/\(ok=true->x=Ag ls t)/\(ok=true↔Ab [Ag ls t]<=2000)/\Sl w' (λb=>(X b/\b<w.heap.size)∨w.heap.size<=b) a x.args/\Below w.heap.size w w':=by
 refine(Ql ls t u v w _ hu hv aa).mono ?_;rintro e w' ⟨hb,⟨h1,rfl⟩|⟨h1,a,c,rfl,hs⟩⟩
 ·exact⟨⟨⟨#[]⟩,[]⟩,none,0,false,rfl,by simp,by simp; omega,⟨by simp,Ad rfl⟩,hb⟩
 ·exact⟨Ag ls t,a,c,true,rfl,λ_=>rfl,by simp; omega,hs,hb⟩
def Xe (w:World) (X:Nat->Prop) (p:Pr) (x:Tm) (e:Ending) (w':World):Prop:=
 ∃(y:Tm) (a:Option Addr) (c:Nat) (ok full:Bool),e=.returned (.tuple #[.agg (zF y a c),.bool ok,.bool full])/\Sl w' (λb=>(X b/\b<w.heap.size)∨w.heap.size<=b) a y.args/\Below w.heap.size w w'/\
  ((Dh p x=none/\ok=false/\full=false)∨∃z,Dh p x=some z/\ok=true/\(full=true↔2000<Ab [z])/\(full=false->y=z))
theorem Qm (p:Pr) (x:Tm) (a1 a2 a3:Option Addr) (c1 c2 c3:Nat) (w:World) (X:Nat->Prop) (s:Sl w X a1 p.l.args) (t:Sl w X a2 p.r.args) (u:Sl w X a3 x.args) (O:Ab [p.l]<=1000000) (P:Ab [p.r]<=1000000):
  Calls prog 57 #[.agg #[.string p.l.name,.slice a1 p.l.args.length c1,.string p.r.name,.slice a2 p.r.args.length c2],.agg (zF x a3 c3)] w λe w'=>Xe w X p x e w':=by
 have R:=Aa (s.mono (Y:=λb=>X b/\b<w.heap.size) λb h1 h2=>⟨h1,h2⟩);have T:=Aa (t.mono (Y:=λb=>X b/\b<w.heap.size) λb h1 h2=>⟨h1,h2⟩);have U:=Aa (u.mono (Y:=λb=>X b/\b<w.heap.size) λb h1 h2=>⟨h1,h2⟩);clear s t u;have g:=Ac.new w #[.string p.l.name,.slice a1 p.l.args.length c1,.string p.r.name,.slice a2 p.r.args.length c2] 38;have z:=(Af w.heap.size w).alloc (Ai _) (.cells #[.string p.l.name,.slice a1 p.l.args.length c1,.string p.r.name,.slice a2 p.r.args.length c2] 38);have A:Hid (∃W,W=((w.alloc (.cells #[.string p.l.name,.slice a1 p.l.args.length c1,.string p.r.name,.slice a2 p.r.args.length c2] 38)).alloc (.cells (zF x a3 c3) 33)).alloc (.cells #[.string ⟨#[]⟩,zB] 33)/\Ac W w.heap.size #[.string p.l.name,.slice a1 p.l.args.length c1,.string p.r.name,.slice a2 p.r.args.length c2] 38/\Ac W (w.heap.size+1) (zF x a3 c3) 33/\Ac W (w.heap.size+2) #[.string ⟨#[]⟩,zB] 33/\Below w.heap.size w W):=(by have B:=Ac.new (w.alloc (.cells #[.string p.l.name,.slice a1 p.l.args.length c1,.string p.r.name,.slice a2 p.r.args.length c2] 38)) (zF x a3 c3) 33;have f:=Ac.new ((w.alloc (.cells #[.string p.l.name,.slice a1 p.l.args.length c1,.string p.r.name,.slice a2 p.r.args.length c2] 38)).alloc (.cells (zF x a3 c3) 33)) #[.string ⟨#[]⟩,zB] 33;simp only[CW] at B f;exact⟨_,rfl,(g.alloc _).alloc _,B.alloc _,f,(z.alloc (by simp) _).alloc (by simp; omega) _⟩);clear g z;go_enter func57,ntmps57;go_wp2_with fail;obtain⟨W,C,D,k1,E,bl⟩:=A.o;rw[<-C];clear C A;have g:=Aa D;have f:=Aa E;have i:=Aa bl;clear D k1 E bl;refine(PM p.l x _ _ W (λb=>X b/\b<w.heap.size) ⟨_,_,rfl,R.o.later i.o⟩ ⟨_,_,rfl,U.o.later i.o⟩ O).mono ?_;rintro e w3 ⟨k,hc⟩;have B3:=Aa (i.o.trans (k.mono i.o.size));have F:=Aa (g.o.below k g.o.lt);have ab:=Aa (f.o.below k f.o.lt);have V:Hid (w.heap.size+2<W.heap.size):=f.o.lt;clear k g f i;have m:=ab.o.c0;have n:=ab.o.c1;have G:=ab.o.frozen;rcases hc with ⟨h0,rfl⟩|⟨h',v,l',h0,rfl,H,aa,Z⟩
 ·have HN:Hid (Dh p x=none):=Aa (by unfold Dh;rw[h0];rfl);clear h0;go_wp2_with fail;refine An (v:=.tuple #[.agg #[.string ⟨#[]⟩,zB],.bool false,.bool false]) (by simp[results,results57,go_sem,Ay,Aw,m,n]) rfl ?_;exact⟨⟨⟨#[]⟩,[]⟩,none,0,false,false,rfl,⟨by simp,Ad rfl⟩,(B3.o.setCell (by simp; omega) _).setCell (by simp; omega) _,Ad ⟨HN.o,rfl,rfl⟩⟩
 ·have HF:Hid (Dh p x=some (Ag l' p.r)):=Aa (by have ha:=(Ps h0 List.Pairwise.nil).1;unfold Dh;rw[h0];show some (Ag h' p.r)=_;rw[Wr (Ws aa ha) p.r]);have HV:=Aa H;clear h0 H aa Z;have p2:=F.o.c2;have p3:=F.o.c3;go_wp2_with fail;refine(Xd l' p.r _ _ _ (λb=>(X b/\b<w.heap.size)∨W.heap.size<=b) (by exact HV.o.mono λb h _=>h.imp (λh=>h.1) id) ⟨_,_,rfl,(T.o.later B3.o).mono λb h _=>Ad h⟩ P).mono ?_;rintro e d ⟨y,a,c,ok,rfl,hy,I,J,q⟩;have av:Below d.heap.size d (d.alloc (.cells (zF y a c) 33)):=(Af _ _).alloc (Ai _) _;have L:=Aa (B3.o.trans (q.mono B3.o.size));have j:=Aa (ab.o.below q ab.o.lt);have S6:=Aa (J.mono (Y:=λb=>(X b/\b<w.heap.size)∨w.heap.size+3<=b) λb h _=>by
   have h3:=V.o;have h4:=B3.o.size;have h5:=ab.o.lt;rcases h with ⟨h|h,_⟩|h
   ·exact Ad h
   ·exact Ae (by omega)
   ·exact Ae (by omega))
  have HY:=Aa hy;have aw:=Aa I;have ax:w.heap.size+2<d.heap.size:=j.o.lt;clear J q hy I p2 p3 m n G av;have m:=j.o.c0;have n:=j.o.c1;have G:=j.o.frozen;go_wp2_with fail;have M:Ac (((d.setCell (zD (w.heap.size+1+1) 0) (.string y.name)).setCell (zD (w.heap.size+1+1) 1) (.slice a y.args.length c)).alloc (.cells (zF y a c) 33)) (w.heap.size+1+1) (zF y a c) 33:=((j.o.set 0 (.string y.name)).set 1 (.slice a y.args.length c)).alloc _;have BF:Hid (Below w.heap.size w (((d.setCell (zD (w.heap.size+1+1) 0) (.string y.name)).setCell (zD (w.heap.size+1+1) 1) (.slice a y.args.length c)).alloc (.cells (zF y a c) 33))):=((L.o.setCell (by simp; omega) _).setCell (by simp; omega) _).alloc (by simp[World.setCell]; have:=L.o.size; omega) _;have SF:Hid (Sl (((d.setCell (zD (w.heap.size+1+1) 0) (.string y.name)).setCell (zD (w.heap.size+1+1) 1) (.slice a y.args.length c)).alloc (.cells (zF y a c) 33)) (λb=>(X b/\b<w.heap.size)∨w.heap.size<=b) a y.args):=by
   have h1:Sl ((d.setCell (zD (w.heap.size+1+1) 0) (.string y.name)).setCell (zD (w.heap.size+1+1) 1) (.slice a y.args.length c)) (λb=>(X b/\b<w.heap.size)∨w.heap.size+3<=b) a y.args:=S6.o.kept λb hb=>by
    have N:b≠w.heap.size+1+1:=(by rcases hb with h|h<;>omega);rw[Aq _ _ _ _ (by simpa using N),Aq _ _ _ _ (by simpa using N)]
   exact(h1.mono λb hb _=>hb.imp id (λh=>by omega)).later ((Af _ _).alloc (Ai _) _)
  generalize (((d.setCell (zD (w.heap.size+1+1) 0) (.string y.name)).setCell (zD (w.heap.size+1+1) 1) (.slice a y.args.length c)).alloc (.cells (zF y a c) 33))=wf at *;have f0:=M.c0;have f1:=M.c1;refine An (v:=.tuple #[.agg (zF y a c),.bool true,.bool !ok]) (by simp[results,results57,go_sem,f0,f1]) rfl ?_;refine⟨y,a,c,true,!ok,rfl,SF.o,BF.o,Ae ⟨_,HF.o,rfl,?_,?_⟩⟩
  ·have h:=aw.o;cases ok with
   |true=>simp at h ⊢; omega
   |false=>simp at h ⊢; omega
  ·intro h;exact HY.o (by cases ok with
    |true=>rfl
    |false=>cases h)
