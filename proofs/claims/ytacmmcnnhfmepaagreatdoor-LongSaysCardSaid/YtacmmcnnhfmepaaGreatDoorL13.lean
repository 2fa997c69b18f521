import Derived.Test.YtacmmcnnhfmepaaGreatDoorL12
namespace Go.Proofs.YtacmmcnnhfmepaaGreatDoor
set_option linter.all false
set_option maxRecDepth 20000
set_option maxHeartbeats 8000000
open Go.RowKit
theorem kE (t z:Lm) (v x:Value) (w:World) (X:Nat->Prop) (E:MV w X v t) (hx:MV w X x z) (ao:Ai [t]<=100000) (F:Cs [t]) (G:Ai [z]<=100000) (H:Cs [z]):
  Calls Tryz.prog 53 #[v,x] w λe w'=>LZ w X (AX z 0 t) e w':=by
 obtain⟨a,c,rfl,q⟩:=E;obtain⟨d,f,rfl,r⟩:=hx;have I:=Aa q;have J:=Aa r;clear q r;have j:Hid (Below w.heap.size w ((((w.alloc (.cells (zE t a c) 24)).alloc (.cells (zE z d f) 24)).alloc (.cells zJ 24)).alloc (.cells (zE z d f) 24))):=((((Ac w.heap.size w).alloc (Ag _) (.cells (zE t a c) 24)).alloc (by simp) (.cells (zE z d f) 24)).alloc (by simp; omega) (.cells zJ 24)).alloc (by simp; omega) (.cells (zE z d f) 24);have s:Hid (Ab ((((w.alloc (.cells (zE t a c) 24)).alloc (.cells (zE z d f) 24)).alloc (.cells zJ 24)).alloc (.cells (zE z d f) 24)) (w.heap.size+1+1) zJ 24):=by
  have h:=(Ab.new ((w.alloc (.cells (zE t a c) 24)).alloc (.cells (zE z d f) 24)) zJ 24).alloc (.cells (zE z d f) 24);simp only[BK] at h;exact h
 have k:Hid (Ab ((((w.alloc (.cells (zE t a c) 24)).alloc (.cells (zE z d f) 24)).alloc (.cells zJ 24)).alloc (.cells (zE z d f) 24)) (w.heap.size+1+1+1) (zE z d f) 24):=(by have h:=Ab.new (((w.alloc (.cells (zE t a c) 24)).alloc (.cells (zE z d f) 24)).alloc (.cells zJ 24)) (zE z d f) 24;simp only[BK] at h;exact h);go_enter Tryz.func53,Tryz.ntmps53;go_wp2_with fail;generalize u:((((w.alloc (.cells (zE t a c) 24)).alloc (.cells (zE z d f) 24)).alloc (.cells zJ 24)).alloc (.cells (zE z d f) 24))=W at *;have l:W.heap.size=w.heap.size+4:=by rw[<-u]; simp
 clear u;have y:Ap W (λb=>(X b/\b<w.heap.size)∨b=w.heap.size+1+1+1) a t.subs:=((I.o.mono (Y:=λb=>X b/\b<w.heap.size) λb h1 h2=>⟨h1,h2⟩).below j.o (λb h _=>h.2)).mono λb h _=>Ad h;have A:Ap W (λb=>(X b/\b<w.heap.size)∨b=w.heap.size+1+1+1) d z.subs:=((J.o.mono (Y:=λb=>X b/\b<w.heap.size) λb h1 h2=>⟨h1,h2⟩).below j.o (λb h _=>h.2)).mono λb h _=>Ad h;have B:Ap W (λb=>(X b/\b<w.heap.size)∨b=w.heap.size+1+1+1) (some (zD (w.heap.size+1+1+1) 0)) [z]:=by
  refine⟨by simp,Ae ⟨_,0,rfl,RT _ _ _ λi hi=>?_⟩⟩;have L:i=0:=by simpa using hi
  subst L;exact⟨Ae rfl,k.o.cell 0,k.o.cell 1,d,f,k.o.cell 2,A⟩
 refine(W9 z _ 1 G H t _ 0 W (λb=>(X b/\b<w.heap.size)∨b=w.heap.size+1+1+1) ⟨a,c,rfl,y⟩ B (Int.le_refl 0) (by omega) F).mono ?_;rintro e w1 ⟨C,c1,rfl,D,m⟩;have g:=Aa (s.o.below m (by omega));have M:=Aa (j.o.trans (m.mono (by omega)));have N:=Aa D;clear y A B k s j m D;have O:=g.o.c0;have P:=g.o.c1;have R:=g.o.c2;have rf:=g.o.frozen;have T:=g.o.lt;have U:=Aa l;clear l;go_wp2_with fail;refine Ao (v:=.agg #[zA (AX z 0 t).kind,zA (AX z 0 t).idx,.slice C (AX z 0 t).subs.length c1]) (by simp[results,Tryz.results53,go_sem,AK,AB,O,P,R,T]) rfl ?_;have l:=U.o;refine⟨C,c1,rfl,(N.o.kept λb hb=>?_).mono λb hb _=>?_,((M.o.setCell (by simp; omega) _).setCell (by simp; omega) _).setCell (by simp; omega) _⟩
 ·have n:b≠w.heap.size+1+1:=by
   rcases hb with ⟨h|h,_⟩|h
   ·have:=h.2; omega
   ·omega
   ·omega
  rw[Al _ _ _ _ (by simpa using n),Al _ _ _ _ (by simpa using n),Al _ _ _ _ (by simpa using n)]
 ·rcases hb with ⟨h|h,_⟩|h
  ·exact Ad h
  ·right; omega
  ·right; omega
def Ih (w:World) (t z:Lm) (a az:Option Addr) (c cz:Nat) (wr:World):Prop:=
 Below w.heap.size w wr/\Ab wr w.heap.size (zE t a c) 24/\Ab wr (w.heap.size+1) (zE z az cz) 24
theorem Ih.start (w:World) (t z:Lm) (a b:Option Addr) (c d:Nat):Ih w t z a b c d ((w.alloc (.cells (zE t a c) 24)).alloc (.cells (zE z b d) 24)):=by
 refine⟨((Ac _ _).alloc (Ag _) _).alloc (by simp) _,(Ab.new w _ _).alloc _,?_⟩;have h:=Ab.new (w.alloc (.cells (zE t a c) 24)) (zE z b d) 24;simp only[BK] at h;exact h
theorem Ih.later {w wr w':World} {t z:Lm} {a b:Option Addr} {c d:Nat} (h:Ih w t z a b c d wr) (hb:Below wr.heap.size wr w'):Ih w t z a b c d w':=
 ⟨h.1.trans (hb.mono h.1.size),h.2.1.below hb h.2.1.lt,h.2.2.below hb h.2.2.lt⟩
theorem Ih.alloc {w wr:World} {t z:Lm} {a b:Option Addr} {c d:Nat} (h:Ih w t z a b c d wr) (o:Obj):Ih w t z a b c d (wr.alloc o):=h.later ((Ac _ _).alloc (Ag _) o)
