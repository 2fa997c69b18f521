import Derived.Test.YtacmmcnnhfmepaaGreatDoorW52
namespace Go.Proofs.YtacmmcnnhfmepaaGreatDoor
set_option linter.all false
set_option maxRecDepth 20000
set_option maxHeartbeats 8000000
open Go.RowKit Go.Proofs.Tryz
def Z1 (w:World) (X:Nat->Prop) (t:Tm) (e:Ending) (w':World):Prop:=
 Below w.heap.size w w'/\((2000<Ah [t]/\e=.returned (.tuple #[.agg #[.string ⟨#[]⟩,zB],.bool false]))∨(Ah [t]<=2000/\∃a c,e=.returned (.tuple #[.agg (zG t a c),.bool true])/\Sl w' (λb=>(X b/\b<w.heap.size)∨w.heap.size<=b) a t.args))
theorem Uo (ls:List Bd) (t:Tm) (u v:Value) (w:World) (X:Nat->Prop) (hu:BV w X u ls) (A:TV w X v t) (B:Ah [t]<=1000000):
  Calls prog 26 #[u,v] w λe w'=>Z1 w X (Af ls t) e w':=by
 obtain⟨a,c,rfl,n⟩:=A;have q:=Aa (hu.mono (Y:=λb=>X b/\b<w.heap.size) λb h1 h2=>⟨h1,h2⟩);have r:=Aa (n.mono (Y:=λb=>X b/\b<w.heap.size) λb h1 h2=>⟨h1,h2⟩);clear hu n;go_enter func26,ntmps26;go_wp2_with fail;refine(ZI ls t u _ 2000 _ (λb=>X b/\b<w.heap.size) (by exact(q.o.alloc _).alloc _) (by exact⟨a,c,rfl,(r.o.later ((Ac _ _).alloc (Ag _) _)).later ((Ac _ _).alloc (Ag _) _)⟩) (by decide) (by decide)).mono ?_;rintro e w1 ⟨rfl,g⟩;have s:=Aa (((Ab.new w (zG t a c) 61).alloc (.cells #[.string ⟨#[]⟩,zB] 61)).below g (by simp; omega));have d:Hid (Ab w1 (w.heap.size+1) #[.string ⟨#[]⟩,zB] 61):=by
  have h:=(Ab.new (w.alloc (.cells (zG t a c) 61)) #[.string ⟨#[]⟩,zB] 61).below g (by simp);unfold Hid;simpa using h
 have f:=Aa ((((Ac w.heap.size w).alloc (Ag _) (.cells (zG t a c) 61)).alloc (by simp) (.cells #[.string ⟨#[]⟩,zB] 61)).trans (g.mono (by simp; omega)));clear g;have t0:=s.o.c0;have t1:=s.o.c1;have i:=d.o.c0;have j:=d.o.c1;have x:=d.o.frozen;by_cases C:2000<Ah [Af ls t]
 ·have k:min (Ah [Af ls t]:Int) (2000+1)=2001:=by omega
  rw[k];go_wp2_with fail;refine Ao (v:=.tuple #[.agg #[.string ⟨#[]⟩,zB],.bool false]) (by simp[results,results26,go_sem,AK,AB,i,j]) rfl ?_;exact⟨(f.o.setCell (by simp) _).setCell (by simp) _,Ad ⟨C,rfl⟩⟩
 ·have k:min (Ah [Af ls t]:Int) (2000+1)=Ah [Af ls t]:=by omega
  rw[k];have hle:¬(2000:Int)<(Ah [Af ls t]:Int):=by omega
  clear k;go_wp2_with fail;refine(Z0 ls t u _ _ (λb=>X b/\b<w.heap.size) (by exact q.o.later f.o) (by exact⟨a,c,rfl,r.o.later f.o⟩) B).mono ?_;rintro e w2 ⟨a2,c2,rfl,y,l⟩;have m:=Aa (d.o.below l d.o.lt);have D:=Aa (f.o.trans (l.mono f.o.size));have E:=Aa (y.mono (Y:=λb=>(X b/\b<w.heap.size)∨w.heap.size+2<=b) λb hb _=>hb.imp (λh=>h.1) (λh=>by have:=d.o.lt; omega));clear l y i j x t0 t1;have i:=m.o.c0;have j:=m.o.c1;have x:=m.o.frozen;go_wp2_with fail;refine Ao (v:=.tuple #[.agg #[.string (Af ls t).name,.slice a2 (Af ls t).args.length c2],.bool true]) (by simp[results,results26,go_sem,AK,AB,i,j]) rfl ?_;refine⟨(D.o.setCell (by simp) _).setCell (by simp) _,Ae ⟨by omega,a2,c2,rfl,(E.o.kept λb hb=>?_).mono λb hb _=>hb.imp id (λh=>by omega)⟩⟩;have z:b≠w.heap.size+1:=by
   rcases hb with h|h
   ·have:=h.2; omega
   ·omega
  rw[Al _ _ _ _ (by simpa using z),Al _ _ _ _ (by simpa using z)]
