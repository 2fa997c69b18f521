import Derived.Test.YtgbcafaibocebaaGreatDoorW52
namespace Go.Proofs.YtgbcafaibocebaaGreatDoor
set_option linter.all false
set_option maxRecDepth 20000
set_option maxHeartbeats 8000000
open Go.RowKit Go.Proofs.Tryz
def Xc (w:World) (X:Nat->Prop) (t:Tm) (e:Ending) (w':World):Prop:=
 Below w.heap.size w w'/\((2000<Ab [t]/\e=.returned (.tuple #[.agg #[.string ⟨#[]⟩,zB],.bool false]))∨(Ab [t]<=2000/\∃a c,e=.returned (.tuple #[.agg (zF t a c),.bool true])/\Sl w' (λb=>(X b/\b<w.heap.size)∨w.heap.size<=b) a t.args))
theorem Ql (ls:List Bd) (t:Tm) (u v:Value) (w:World) (X:Nat->Prop) (hu:BV w X u ls) (hv:TV w X v t) (s:Ab [t]<=1000000):
  Calls prog 40 #[u,v] w λe w'=>Xc w X (Ag ls t) e w':=by
 obtain⟨a,c,rfl,hs⟩:=hv;have l:=Aa (hu.mono (Y:=λb=>X b/\b<w.heap.size) λb h1 h2=>⟨h1,h2⟩);have m:=Aa (hs.mono (Y:=λb=>X b/\b<w.heap.size) λb h1 h2=>⟨h1,h2⟩);clear hu hs;go_enter func40,ntmps40;go_wp2_with fail;refine(WI ls t u _ 2000 _ (λb=>X b/\b<w.heap.size) (by exact(l.o.alloc _).alloc _) (by exact⟨a,c,rfl,(m.o.later ((Af _ _).alloc (Ai _) _)).later ((Af _ _).alloc (Ai _) _)⟩) (by decide) (by decide)).mono ?_;rintro e w1 ⟨rfl,g⟩;have n:=Aa (((Ac.new w (zF t a c) 33).alloc (.cells #[.string ⟨#[]⟩,zB] 33)).below g (by simp; omega));have d:Hid (Ac w1 (w.heap.size+1) #[.string ⟨#[]⟩,zB] 33):=by
  have h:=(Ac.new (w.alloc (.cells (zF t a c) 33)) #[.string ⟨#[]⟩,zB] 33).below g (by simp);unfold Hid;simpa using h
 have f:=Aa ((((Af w.heap.size w).alloc (Ai _) (.cells (zF t a c) 33)).alloc (by simp) (.cells #[.string ⟨#[]⟩,zB] 33)).trans (g.mono (by simp; omega)));clear g;have t0:=n.o.c0;have t1:=n.o.c1;have i:=d.o.c0;have j:=d.o.c1;have q:=d.o.frozen;by_cases x:2000<Ab [Ag ls t]
 ·have aa:min (Ab [Ag ls t]:Int) (2000+1)=2001:=by omega
  rw[aa];go_wp2_with fail;refine An (v:=.tuple #[.agg #[.string ⟨#[]⟩,zB],.bool false]) (by simp[results,results40,go_sem,Ay,Aw,i,j]) rfl ?_;exact⟨(f.o.setCell (by simp) _).setCell (by simp) _,Ad ⟨x,rfl⟩⟩
 ·have aa:min (Ab [Ag ls t]:Int) (2000+1)=Ab [Ag ls t]:=by omega
  rw[aa];have hle:¬(2000:Int)<(Ab [Ag ls t]:Int):=by omega
  clear aa;go_wp2_with fail;refine(MW ls t u _ _ (λb=>X b/\b<w.heap.size) (by exact l.o.later f.o) (by exact⟨a,c,rfl,m.o.later f.o⟩) s).mono ?_;rintro e w2 ⟨a2,c2,rfl,r,hb2⟩;have k:=Aa (d.o.below hb2 d.o.lt);have y:=Aa (f.o.trans (hb2.mono f.o.size));have z:=Aa (r.mono (Y:=λb=>(X b/\b<w.heap.size)∨w.heap.size+2<=b) λb hb _=>hb.imp (λh=>h.1) (λh=>by have:=d.o.lt; omega));clear hb2 r i j q t0 t1;have i:=k.o.c0;have j:=k.o.c1;have q:=k.o.frozen;go_wp2_with fail;refine An (v:=.tuple #[.agg #[.string (Ag ls t).name,.slice a2 (Ag ls t).args.length c2],.bool true]) (by simp[results,results40,go_sem,Ay,Aw,i,j]) rfl ?_;refine⟨(y.o.setCell (by simp) _).setCell (by simp) _,Ae ⟨by omega,a2,c2,rfl,(z.o.kept λb hb=>?_).mono λb hb _=>hb.imp id (λh=>by omega)⟩⟩;have ab:b≠w.heap.size+1:=by
   rcases hb with h|h
   ·have:=h.2; omega
   ·omega
  rw[Aq _ _ _ _ (by simpa using ab),Aq _ _ _ _ (by simpa using ab)]
