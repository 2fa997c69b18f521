import Derived.Test.YtacmmcnnhfmepaaGreatDoorLg5
namespace Go.Proofs.YtacmmcnnhfmepaaGreatDoor
set_option linter.all false
set_option maxRecDepth 20000
set_option maxHeartbeats 8000000
open Go.RowKit Go.Proofs.Tryz
theorem lG (left:Int) (z:0<=left) (B:left<=3000) (C:∀n,n<left->IG n):∀(p:PX) (u:List Ty) (A:ST) (v:Value) (d:Option Addr) (g:Nat) (w:World) (X Y:Nat->Prop),p.st=false->p.isl=false->p.ok u.length->p.sz+2*(left+2).toNat<=20000->u.length+(left+2).toNat<=20000->Bk u->HT (DB u) p A->
  MV w X v p.m->(∀b,Y b->b<w.heap.size)->AM w Y d u->Calls prog 36 #[v,.slice d u.length g,zA left] w λe w'=>II X Y u p A left w e w':=by
 intro p;induction p with
 |v i=>
  intro u A v d g w X Y j r o s hlen q ht t y hu;cases ht with
  |v h=>exact XK left z B i u A v d g w o (by omega) q h X t Y y hu
 |c k=>intro u A v d g w X Y j r o s hlen q ht; cases ht
 |l b=>intro u A v d g w X Y j r; cases r
 |a f x D _=>
  intro u A v d g w X Y j r o s hlen q ht t y hu;cases ht with
  |a h k=>simp only[PX.st,MP] at j;simp only[PX.sz] at s;exact lE left z B C f x u _ _ v d g w j.2 o.2 (by simp only[PX.sz]; omega) hlen q k X t Y y hu _ rfl λE w' F G H=>D u _ E d g w' _ Y j.1.2 j.1.1 o.1 (by omega) hlen q h F G H
theorem UN (left:Int) (l:left<0):IG left:=by
 intro X p u T v y ua uc w af ag ah hlen ai hT ht n hy hu;obtain⟨a,c,rfl,g⟩:=n;obtain⟨q,c',rfl,r⟩:=hy;have s:=Aa g;obtain⟨i,j,t,k⟩:=Fq w (zE p.m a c) (zH T q c') zJ 24 27 24;have x:=Aa i;have e:=Aa j;have d:=Aa k;clear g r i j t k hu;go_enter func14,ntmps14;go_upto_region 1 with fail;generalize (((w.alloc _).alloc _).alloc _)=w2 at *;have x0:=e.o.c0;have x1:=e.o.c1;have x2:=e.o.c2;have r0:=d.o.c0;have r1:=d.o.c1;have r2:=d.o.c2;have rf:=d.o.frozen;go_wp2_with fail;have f:=CV d.o (zA p.m.kind) (zA p.m.idx) (.slice a p.m.subs.length c);have G:=Df (A:=w.heap.size+1+1) x.o (by omega) (zA p.m.kind) (zA p.m.idx) (.slice a p.m.subs.length c);generalize (((w2.setCell _ _).setCell _ _).setCell _ _)=w5 at *;have c0:=f.c0;have c1:=f.c1;have c2:=f.c2;refine Ao (v:=.tuple #[.agg (zE p.m a c),zA left]) (by simp[results,results14,go_sem,c0,c1,c2]) rfl ?_;exact⟨p.m,a,c,left,rfl,(s.o.later G).mono λb h _=>Ad h,Cl.neg l,G,λ_=>rfl⟩
theorem lH (left:Int) (Y:0<=left) (Z:left<=3000) (IH:∀n,n<left->IG n) (X:Nat->Prop) (p:PX) (u:List Ty) (z:Int) (v y:Value) (r:Option Addr) (x:Nat) (w:World) (ak:p.st=false) (al:p.ok u.length) (an:p.sz+2*(left+2).toNat<=20000) (hlen:u.length+(left+2).toNat<=20000) (aq:Bk u)
  (ht:HT (DB u) p .o) (hv:MV w X v p.m) (hy:YV w EI y ⟨z,[]⟩) (hu:AM w EI r u):
  Calls prog 14 #[v,y,.slice r u.length x,zA left] w λe w'=>∃(o:Lm) (a:Option Addr) (c:Nat) (m:Int),e=.returned (.tuple #[.agg (zE o a c),zA m])/\Ap w' (λb=>X b∨w.heap.size<=b) a o.subs/\Cl true u p ⟨z,[]⟩ left m o/\Below w.heap.size w w'/\(left<0->m=left):=by
 obtain⟨a,c,rfl,B⟩:=hv;obtain⟨C,c',hy,ar⟩:=hy;have hy:y=.agg #[zA z,.slice C 0 c']:=hy;subst hy;have HS:=Aa B;have HU:=Aa hu;obtain⟨D,E,H,I⟩:=Fq w (zE p.m a c) #[zA z,.slice C 0 c'] zJ 24 27 24;have g:=Aa D;have j:=Aa E;have J:=Aa H;have k:=Aa I;clear B ar D E H I hu;go_enter func14,ntmps14;go_upto_region 1 with fail;generalize (((w.alloc _).alloc _).alloc _)=w2 at *;have x0:=j.o.c0;have x1:=j.o.c1;have x2:=j.o.c2;have y1:=J.o.c1;go_wp2_with fail;go_at_call 36;refine(lG left Y Z IH p u .o _ r x w2 (λb=>X b/\b<w.heap.size) (λb=>b<w.heap.size) ak ht.flat al an hlen aq ht ⟨a,c,rfl,(HS.o.mono λb h1 h2=>⟨h1,h2⟩).later g.o⟩ (λb h=>BO h g.o.size) ((HU.o.mono λb _ h=>h).later g.o)).mono ?_;rintro e w3 ⟨o,d,co,F,fa,fc,m,rfl,ho,-,-,-,L,l⟩;have L3:=Aa L;have M:=Aa (g.o.trans (l.mono g.o.size));have N:Hid (Ap w3 (λb=>((X b/\b<w.heap.size)∨w2.heap.size<=b)/\b<w3.heap.size) d o.subs):=ho.mono λb h1 h2=>⟨h1,h2⟩;have f:=Aa (k.o.below l k.o.lt);have O:Hid (w.heap.size+3<=w2.heap.size/\w2.heap.size<=w3.heap.size):=Aa (by have h:=k.o.lt;have h2:=l.size;omega);clear L l ho x0 x1 x2 y1 j J k g;have P:=f.o.c0;have R:=f.o.c1;have T:=f.o.c2;have U:=f.o.frozen;go_upto_region 11 with fail;obtain⟨q,V,-⟩:=Ii w3 (zE o d co) (zH F fa fc) 24 27;have B4:=Aa (M.o.trans (q.mono M.o.size));have i:=Aa (f.o.below q f.o.lt);have S4:=Aa (N.o.later q);have s:=Aa V;clear q V P R T U f N;generalize ((w3.alloc _).alloc _)=W at *;have P:=i.o.c0;have R:=i.o.c1;have T:=i.o.c2;have U:=i.o.frozen;have q0:=s.o.c0;have q1:=s.o.c1;have q2:=s.o.c2;go_wp2_with fail;have t:=CV i.o (zA o.kind) (zA o.idx) (.slice d o.subs.length co);have G:=Df (A:=w.heap.size+1+1) B4.o (by omega) (zA o.kind) (zA o.idx) (.slice d o.subs.length co);have SX:Ap (((W.setCell (zD (w.heap.size+1+1) 0) (zA o.kind)).setCell (zD (w.heap.size+1+1) 1) (zA o.idx)).setCell (zD (w.heap.size+1+1) 2) (.slice d o.subs.length co)) (λb=>X b∨w.heap.size<=b) d o.subs:=by
  refine(S4.o.kept λb h=>?_).mono λb h _=>h.1.imp (λh=>h.1) λh=>by have:=O.o; omega
  have h5:b≠w.heap.size+1+1:=(by have:=O.o; rcases h.1 with h|h<;>omega);rw[Al _ _ _ _ h5,Al _ _ _ _ h5,Al _ _ _ _ h5]
 generalize (((W.setCell _ _).setCell _ _).setCell _ _)=w5 at *;have c0:=t.c0;have c1:=t.c1;have c2:=t.c2;refine Ao (v:=.tuple #[.agg (zE o d co),zA m]) (by simp[results,results14,go_sem,c0,c1,c2]) rfl ?_;exact⟨o,d,co,m,rfl,SX,L3.o.ba,G,λh=>by omega⟩
