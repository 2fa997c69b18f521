import Derived.Test.YtacmmcnnhfmepaaGreatDoorIf14
import Derived.Laws.EntriesVeiled
namespace Go.Proofs.YtacmmcnnhfmepaaGreatDoor
set_option linter.all false
set_option maxRecDepth 9999
set_option maxHeartbeats 0
open Go.RowKit Go.Proofs.Tryz
variable {x:Tm} {t:Lm} {y:Ty}
theorem qD:(prog.info? 27).map (λi=>(i.zero,i.size,i.bytes))=some (some (.agg #[zA 0,zB]),2,32):=by kernel_rfl
theorem qE:(prog.info? 4).map (λi=>(i.zero,i.size,i.bytes))=some (some (.bool false),1,1):=by kernel_rfl
theorem qF:∃cs:Array Value,cs.size=4002/\∀w,(Instr.makeSlice 25 (zA 2001) (zA 2001)).run prog w=.ok (.slice (some (zD w.heap.size 0)) 2001 2001) (w.alloc (zp cs 27)):=by
 obtain⟨i0,hi,a,b,c⟩:=Dw qD;refine⟨madeCells (Value.agg #[zA 0,zB]).cells (2001*i0.size),by rw[size_madeCells,b],λw=>?_⟩;have d:=run_make (P:=prog) w 25 27 i0 _ underlying25 hi a .i64 .i64 2001 2001 (by omega) (by omega) (by rw[c]; omega) (by omega);simpa using d
theorem qG:∃cs:Array Value,(cs.size=2001/\∀n:Nat,n<2001->cs[n]? = some (.bool false))/\∀w,(Instr.makeSlice 72 (zA 2001) (zA 2001)).run prog w=.ok (.slice (some (zD w.heap.size 0)) 2001 2001) (w.alloc (zp cs 4)):=by
 obtain⟨i0,hi,b,a,c⟩:=Dw qE;refine⟨madeCells (Value.bool false).cells (2001*i0.size),⟨by rw[size_madeCells,a,Nat.mul_one],λn d=>?_⟩,λw=>?_⟩
 ·rw[a,Nat.mul_one];simp[madeCells,Value.cells,d,Nat.mod_one]
 have e:=run_make (P:=prog) w 72 4 i0 _ underlying72 hi b .i64 .i64 2001 2001 (by omega) (by omega) (by rw[c]; omega) (by omega);simpa using e
theorem qH (p t:Ty) (v u:Value) (w:World) (Z X:Nat->Prop) (y:Bl [p]) (k:YV w Z v p) (hu:YV w X u t):
  Calls prog 56 #[v,u] w λe w'=>e=.returned (.bool (FM p t))/\Below w.heap.size w w':=by
 have z:=Aa (k.mono (Y:=λb=>b<w.heap.size) λb h1 h2=>h2);have A:=Aa (hu.mono (Y:=λb=>b<w.heap.size) λb h1 h2=>h2);obtain⟨a,c,rfl,-⟩:=k;obtain⟨d,c',rfl,-⟩:=hu;have i:Hid (Below w.heap.size w ((w.alloc (zn p a c)).alloc (zn t d c'))):=((Ac _ _).alloc (Af _) _).alloc (by simp) _;have l:Hid (Ab ((w.alloc (zn p a c)).alloc (zn t d c')) w.heap.size (zH p a c) 27):=(Ab.new _ _ _).alloc _;have m:Hid (Ab ((w.alloc (zn p a c)).alloc (zn t d c')) (w.heap.size+1) (zH t d c') 27):=by have h:=Ab.new (w.alloc (zn p a c)) (zH t d c') 27; rw[Ca] at h; exact h
 have B:(((w.alloc (zn p a c)).alloc (zn t d c'))).heap.size=w.heap.size+2:=by simp
 go_in;go_upto_region 1 with fail;generalize ((w.alloc (zn p a c)).alloc (zn t d c'))=w2 at *;have C:=@run_makeMap prog;go_upto_region 4 with fail;have j:w2.heap.size=w.heap.size+2:=B;have g:Hid (Below w2.heap.size w2 (((w2.alloc (.map #[] 0)).alloc (zp #[.map (some (w.heap.size+2))] 113)).alloc (zp #[(.func (.func 74) #[] #[.pointer (some (zD (w.heap.size+2+1) 0)),.pointer (some (zD (w.heap.size+2+1+1) 0))])] 36))):=(((Ac _ _).alloc (Af _) _).alloc (by simp) _).alloc (by simp; omega) _;have D:Hid (FT (((w2.alloc (.map #[] 0)).alloc (zp #[.map (some (w.heap.size+2))] 113)).alloc (zp #[(.func (.func 74) #[] #[.pointer (some (zD (w.heap.size+2+1) 0)),.pointer (some (zD (w.heap.size+2+1+1) 0))])] 36)) (w.heap.size+2) (λb=>b<w.heap.size) []):=by
  refine⟨[],?_,trivial⟩;have h:=Et.new w2;rw[j]at h;have h3:Et ((w2.alloc (.map #[] 0)).alloc (zp #[.map (some (w.heap.size+2))] 113)) (w.heap.size+2) []:=h.below ((Ac _ _).alloc (Af _) _) h.lt;exact h3.below ((Ac _ _).alloc (Af _) _) h3.lt
 have n:Hid (Fit (((w2.alloc (.map #[] 0)).alloc (zp #[.map (some (w.heap.size+2))] 113)).alloc (zp #[(.func (.func 74) #[] #[.pointer (some (zD (w.heap.size+2+1) 0)),.pointer (some (zD (w.heap.size+2+1+1) 0))])] 36)) (w.heap.size+2+1) (w.heap.size+2+1+1) (w.heap.size+2)):=by
  refine⟨?_,?_,by omega,by omega⟩
  ·have h:=Ab.new (w2.alloc (.map #[] 0)) #[.map (some (w.heap.size+2))] 113;rw[Ca,j]at h;exact h.alloc _
  ·have h:=Ab.new ((w2.alloc (.map #[] 0)).alloc (zp #[.map (some (w.heap.size+2))] 113)) #[(.func (.func 74) #[] #[.pointer (some (zD (w.heap.size+2+1) 0)),.pointer (some (zD (w.heap.size+2+1+1) 0))])] 36;rw[Ca,Ca,j]at h;exact h
 have q:=Aa (l.o.below g.o l.o.lt);have r:=Aa (m.o.below g.o m.o.lt);clear j C;generalize (((w2.alloc (.map #[] 0)).alloc (zp #[.map (some (w.heap.size+2))] 113)).alloc (zp #[(.func (.func 74) #[] #[.pointer (some (zD (w.heap.size+2+1) 0)),.pointer (some (zD (w.heap.size+2+1+1) 0))])] 36))=s at *;have f0:s.cell? (zD (w.heap.size+2+1+1) 0)=some (.func (.func 74) #[] #[.pointer (some (zD (w.heap.size+2+1) 0)),.pointer (some (zD (w.heap.size+2+1+1) 0))]):=n.o.f.cell 0;have E:=q.o.c0;have F:=q.o.c1;have G:=r.o.c0;have s1:=r.o.c1;go_wp2_with fail;refine(Yi _ _ _ p t [] _ _ s (λb=>b<w.heap.size) (λb=>b<w.heap.size) y ((z.o.later i.o).later g.o) ((A.o.later i.o).later g.o) (λb hb=>by omega) (λb hb=>by omega) D.o n.o).mono ?_;rintro e H ⟨rfl,-,x⟩;have I:Hid (Below w.heap.size w H):=(i.o.trans (g.o.mono i.o.size)).trans (x.below (AJ i.o.size g.o.size) (λb hb=>by omega));clear x f0 E F G s1;go_wp2_with fail;go_ret;exact⟨rfl,I.o⟩
theorem qI (p t:Ty) (v u:Value) (w:World) (Z X:Nat->Prop) (H:Bl [p]) (I:D4 [p]) (J:YV w Z v p) (hu:YV w X u t):
  Calls prog 12 #[v,u] w λe w'=>e=.returned (.bool (FM p t))/\Below w.heap.size w w':=by
 have L:=Aa (J.mono (Y:=λb=>b<w.heap.size) λb h1 h2=>h2);have M:=Aa (hu.mono (Y:=λb=>b<w.heap.size) λb h1 h2=>h2);obtain⟨a,c,rfl,-⟩:=J;obtain⟨f,c',rfl,-⟩:=hu;have k:Hid (Below w.heap.size w ((w.alloc (zn p a c)).alloc (zn t f c'))):=((Ac _ _).alloc (Af _) _).alloc (by simp) _;have U:Hid (Ab ((w.alloc (zn p a c)).alloc (zn t f c')) w.heap.size (zH p a c) 27):=(Ab.new _ _ _).alloc _;have V:Hid (Ab ((w.alloc (zn p a c)).alloc (zn t f c')) (w.heap.size+1) (zH t f c') 27):=by have h:=Ab.new (w.alloc (zn p a c)) (zH t f c') 27; rw[Ca] at h; exact h
 have r:Hid ((((w.alloc (zn p a c)).alloc (zn t f c'))).heap.size=w.heap.size+2):=Aa (by simp);obtain⟨g,N,O⟩:=qF;obtain⟨i,P,R⟩:=qG;have T:=Aa N;have B:=Aa P;clear N P;go_in;go_upto_region 1 with fail;generalize ((w.alloc (zn p a c)).alloc (zn t f c'))=w2 at *;have j:Ab w2.drew w.heap.size (zH p a c) 27/\Ab w2.drew (w.heap.size+1) (zH t f c') 27:=⟨U.o,V.o⟩;refine Co (S:=λw'=>Ab w' w.heap.size (zH p a c) 27/\Ab w' (w.heap.size+1) (zH t f c') 27) (by kernel_rfl) j λhH=>?_;refine tkz 0 ?_ (hy:=by intro w' l;have W:w'.cell? (zD w.heap.size 0)=some (zA p.base):=l.1.cell 0;have y1:w'.cell? (zD w.heap.size 1)=some (.slice a p.subs.length c):=l.1.cell 1;have y2:w'.cell? (zD (w.heap.size+1) 0)=some (zA t.base):=l.2.cell 0;have y3:w'.cell? (zD (w.heap.size+1) 1)=some (.slice f t.subs.length c'):=l.2.cell 1;go_simp<;>with_reducible rfl);refine tkz 1 ?_ (hy:=by intro w' l;have W:w'.cell? (zD w.heap.size 0)=some (zA p.base):=l.1.cell 0;have y1:w'.cell? (zD w.heap.size 1)=some (.slice a p.subs.length c):=l.1.cell 1;have y2:w'.cell? (zD (w.heap.size+1) 0)=some (zA t.base):=l.2.cell 0;have y3:w'.cell? (zD (w.heap.size+1) 1)=some (.slice f t.subs.length c'):=l.2.cell 1;go_simp<;>with_reducible rfl);refine Bw (rs:=[2,3]) (by kernel_rfl) (by simp) ?_;refine Ax rfl (λK d=>?_) (Ax rfl (λK d=>?_) Bx)
 ·go_simp;rw[r.o];refine zo d (by exact⟨j.1.alloc _,j.2.alloc _⟩) λhH=>?_;clear d K;refine rdq 3 rfl λK d=>?_;go_simp;try rw[r.o]
  refine zo d (by exact⟨(j.1.alloc _).alloc _,(j.2.alloc _).alloc _⟩) λhH=>?_;clear d K;have m:Hid (Below w2.heap.size w2 ((w2.alloc (zp g 27)).alloc (zp i 4)).drew):=(((Ac _ _).alloc (Af _) _).alloc (by simp) _).drew;have s:=Ab.new w2 g 27;have x:=Ab.new (w2.alloc (zp g 27))  i 4;rw[show w2.heap.size=w.heap.size+2 from r.o]at s;rw[Ca,show w2.heap.size=w.heap.size+2 from r.o]at x;have C:Hid (Fl ((w2.alloc (zp g 27)).alloc (zp i 4)).drew (w.heap.size+2) (w.heap.size+2+1) (λb=>b<w.heap.size) []):=⟨g,i,s.alloc _,x,T.o,B.o.1,λn D=>B.o.2 n D,λn y _ hy=>by simp[DD] at hy⟩;have A:Ab ((w2.alloc (zp g 27)).alloc (zp i 4)).drew w.heap.size (zH p a c) 27/\Ab ((w2.alloc (zp g 27)).alloc (zp i 4)).drew (w.heap.size+1) (zH t f c') 27:=⟨(j.1.alloc _).alloc _,(j.2.alloc _).alloc _⟩;clear s x O R;generalize ((w2.alloc (zp g 27)).alloc (zp i 4)).drew=E at *;refine rdq 4 rfl λK d=>?_;go_simp;go_at_call 29;refine(Tp ((w.heap.size+2)) ((w.heap.size+2+1)) (by omega) p t [] _ _ E (λb=>b<w.heap.size) (λb=>b<w.heap.size) H I ((L.o.later k.o).later m.o) ((M.o.later k.o).later m.o) (λb hb=>by omega) (λb hb=>by omega) C.o).mono ?_;rintro e z ⟨rfl,-,q⟩;have F:Hid (Below w.heap.size w z):=(k.o.trans (m.o.mono k.o.size)).trans (q.below (AJ k.o.size m.o.size) (λb hb=>by omega));have G:Ab z w.heap.size (zH p a c) 27/\Ab z (w.heap.size+1) (zH t f c') 27:=⟨A.1.exq q (by omega),A.2.exq q (by omega)⟩;clear q;go_simp;refine zo d (by exact G) λhH=>?_;clear d K;refine tkz 5 ?_;refine dnq ?_;go_wp2_with fail;go_ret;exact⟨rfl,F.o⟩
 ·go_simp;rw[r.o];refine zo d (by exact⟨j.1.alloc _,j.2.alloc _⟩) λhH=>?_;clear d K;refine rdq 2 rfl λK d=>?_;go_simp;try rw[r.o]
  refine zo d (by exact⟨(j.1.alloc _).alloc _,(j.2.alloc _).alloc _⟩) λhH=>?_;clear d K;have m:Hid (Below w2.heap.size w2 ((w2.alloc (zp i 4)).alloc (zp g 27)).drew):=(((Ac _ _).alloc (Af _) _).alloc (by simp) _).drew;have s:=Ab.new w2 i 4;have x:=Ab.new (w2.alloc (zp i 4))  g 27;rw[show w2.heap.size=w.heap.size+2 from r.o]at s;rw[Ca,show w2.heap.size=w.heap.size+2 from r.o]at x;have C:Hid (Fl ((w2.alloc (zp i 4)).alloc (zp g 27)).drew (w.heap.size+2+1) (w.heap.size+2) (λb=>b<w.heap.size) []):=⟨g,i,x,s.alloc _,T.o,B.o.1,λn D=>B.o.2 n D,λn y _ hy=>by simp[DD] at hy⟩;have A:Ab ((w2.alloc (zp i 4)).alloc (zp g 27)).drew w.heap.size (zH p a c) 27/\Ab ((w2.alloc (zp i 4)).alloc (zp g 27)).drew (w.heap.size+1) (zH t f c') 27:=⟨(j.1.alloc _).alloc _,(j.2.alloc _).alloc _⟩;clear s x O R;generalize ((w2.alloc (zp i 4)).alloc (zp g 27)).drew=E at *;refine rdq 4 rfl λK d=>?_;go_simp;go_at_call 29;refine(Tp ((w.heap.size+2+1)) ((w.heap.size+2)) (by omega) p t [] _ _ E (λb=>b<w.heap.size) (λb=>b<w.heap.size) H I ((L.o.later k.o).later m.o) ((M.o.later k.o).later m.o) (λb hb=>by omega) (λb hb=>by omega) C.o).mono ?_;rintro e z ⟨rfl,-,q⟩;have F:Hid (Below w.heap.size w z):=(k.o.trans (m.o.mono k.o.size)).trans (q.below (AJ k.o.size m.o.size) (λb hb=>by omega));have G:Ab z w.heap.size (zH p a c) 27/\Ab z (w.heap.size+1) (zH t f c') 27:=⟨A.1.exq q (by omega),A.2.exq q (by omega)⟩;clear q;go_simp;refine zo d (by exact G) λhH=>?_;clear d K;refine tkz 5 ?_;refine dnq ?_;go_wp2_with fail;go_ret;exact⟨rfl,F.o⟩
theorem VS (s:ByteArray):∀l:List ByteArray,BH s l<=l.length
 | []=>by simp[BH]
 |a::r=>by
  have:=VS s r;simp only[BH,Cl];split<;>omega
theorem qJ (c:List ByteArray) (hn:c.length<=2000) (l:List Tm):AX l->Bl (DZ c l)/\D4 (DZ c l):=by
 induction l using Tm.indL with
 |h0=>intro _; rw[Il]; exact⟨by simp[Bl],by simp[D4]⟩
 |h s l r g i=>
  intro h;obtain⟨h1,h2,h3⟩:=AX.cons.1 h;have f:=g h2;have i2:=i h3;rw[GQ,Q6,KH];rcases h1 with ⟨_,h1⟩|⟨_,h1⟩
  ·have d:l=[]:=h1;subst d;have e:Cq c ⟨s,[]⟩=⟨((BH s c:Nat):Int),[]⟩:=(by simp[Cq,Hg]);rw[e];exact⟨⟨Ad rfl,by simp[Bl],i2.1⟩,⟨_,rfl,by have:=VS s c; omega⟩,by simp[D4],i2.2⟩
  ·have d:l.length=2:=h1;have e:Cq c ⟨s,l⟩=⟨0,DZ c l⟩:=(by simp[Cq,Hg,d]);have j:(DZ c l).length=2:=by
    match l,d with
    | [a,b],_=>rw[GQ,GQ,Il]; rfl
   rw[e];exact⟨⟨Ae j,f.1,i2.1⟩,⟨0,rfl,by omega⟩,f.2,i2.2⟩
theorem qK {R a:Int×List Bd} (hx:AW DX [x]) (hd:DV DX R.2) (h1:AV R.2=true->a.1=8) (h2:AV R.2=false->a=R):EH (R.1,R.2.map (CW CU)) (Cd CU x)=CG a x:=by
 unfold EH;rw[show(R.1,R.2.map (CW CU)).2=R.2.map (CW CU) from rfl,QK];cases b:AV R.2 with
 |true=>rw[Aq rfl];unfold CG;rw[h1 b,Am (by decide),Aq (by decide)]
 |false=>rw[Am (by decide),h2 b];obtain⟨e1,e2⟩:=Kr NV hd hx;unfold CG;rw[show(R.1,R.2.map (CW CU)).2=R.2.map (CW CU) from rfl,show(R.1,R.2.map (CW CU)).1=R.1 from rfl,e1,LP,XM NV e2]
theorem VT {R:Int×List Bd} (hb:Gq R.2) (hx:AX [x]) (h0:(CG R x).1=0):Bl [(CG R x).2]/\D4 [(CG R x).2]:=by
 unfold CG at h0 ⊢;by_cases e1:R.1=6
 ·rw[Aq e1]at h0; cases h0
 rw[Am e1]at h0 ⊢;by_cases e2:R.1≠0
 ·rw[Aq e2]at h0; exact absurd h0 e2
 rw[Am e2]at h0 ⊢;by_cases e3:2000<Ah [Ag R.2 x]
 ·rw[Aq e3]at h0; cases h0
 rw[Am e3]at h0 ⊢;have a:(AU [] (Aw [Ag R.2 x])).length<=2000:=by
  have h:=LI (Aw [Ag R.2 x]) [];rw[Kh]at h;simp at h;omega
 have k:=qJ _ a [Ag R.2 x] (Js hb hx);rw[GQ,Il]at k;exact k
theorem qL (he:Au 0 0 [t]=0) (hc:Bj [t]=false) (hz:Ai [t]<=60):∃(g:Nat) (R a:Int×List Bd),A0 true g [] (Az 84 t [] 0).2.1=some a/\A0 false g [] (Az 86 t [] 0).2.1=some R/\EH R (Az 86 t [] 0).1=CG a (Az 84 t [] 0).1/\
  ((CG a (Az 84 t [] 0).1).1=0->Bl [(CG a (Az 84 t [] 0).1).2]/\D4 [(CG a (Az 84 t [] 0).1).2]):=by
 obtain⟨g,R,a,h1,h2,h3,b⟩:=VO (Mf (p:=84) (Ad rfl) he hc hz);obtain⟨d1,d2⟩:=Xs t 0;obtain⟨m1,m2⟩:=QR NV false g (s:=[]) (λd hd=>by cases hd) d2 h1;obtain⟨c,e⟩:=Mq (p:=84) (Ad rfl) t [] 0 he hc AX.nil;refine⟨g,(R.1,R.2.map (CW CU)),a,h2,?_,?_,λh0=>VT (Ky true g (s:=[]) (λd hd=>by cases hd) e h2) c h0⟩
 ·rw[QW];exact m1
 ·rw[QW];exact qK d1 m2 h3 b
def Li (x:ST):List ST->ST
 | [a,b]=>.ar a b
 |_=>x
def Hx (θ:Int->ST):List Ty->List ST
 | []=>[]
 | ⟨x,l⟩::r=>Li (θ x) (Hx θ l)::Hx θ r
def Hy (θ:Int->ST) (t:Ty):ST:=Li (θ t.base) (Hx θ t.subs)
theorem VU (θ:Int->ST) (t:Ty) (r:List Ty):Hx θ (t::r)=Hy θ t::Hx θ r:=by
 obtain⟨x,l⟩:=t;simp only[Hx,Hy]
theorem VV (θ:Int->ST) (x:Int):Hy θ ⟨x,[]⟩=θ x:=by simp[Hy,Hx,Li]
theorem VW (θ:Int->ST) (x:Int) (a b:Ty):Hy θ ⟨x,[a,b]⟩=.ar (Hy θ a) (Hy θ b):=by
 show Li _ (Hx θ [a,b])=_;rw[VU,VU,Hx,Li]
def Nl (σ:List (Int×Ty)) (x:Int):ST:=match DD σ x with|some y=>Dm y|none=>.o
def VX (σ τ:List (Int×Ty)):Prop:=∀n y,DD σ n=some y->DD τ n=some y
theorem qM (p:Ty):∀(t:Ty) (σ τ:List (Int×Ty)),Bl [p]->CV p t σ=(true,τ)->VX σ τ/\∀ρ,VX τ ρ->Hy (Nl ρ) p=Dm t:=by
 induction p using Ty.ind with
 |h x l d=>
  intro t σ τ f h;rcases Mx f with rfl|⟨p,q,rfl,h1,h2⟩
  ·cases ho:DD σ x with
   |some y=>rw[NE ho]at h;simp only[Fq] at h;obtain⟨e1,rfl⟩:=h;refine⟨λ_ _ h=>h,λρ c=>?_⟩;rw[VV,Nl,c _ _ ho,WK.1 e1]
   |none=>
    rw[NG ho]at h;simp only[Fq,true_and] at h;subst h;refine⟨λn y a=>?_,λρ c=>?_⟩
    ·rw[Kl _ _ _ _ ho];by_cases e:x=n
     ·subst e; rw[ho] at a; cases a
     ·rw[Am e]; exact a
    ·rw[VV,Nl,c x t (by rw[Kl _ _ _ _ ho,Aq rfl])]
  ·obtain⟨y,k⟩:=t;by_cases hk:k.length=2
   ·match k,hk with
    | [u,v],_=>
     rw[NI]at h;obtain⟨b1,σ1⟩:Bool×List (Int×Ty):=CV p u σ;cases e1:CV p u σ with
     |mk b σ1=>
      rw[e1]at h;cases b with
      |false=>simp at h
      |true=>simp only[if_true] at h;obtain⟨g,i2⟩:=d p (by simp) u σ σ1 h1 e1;obtain⟨i3,i4⟩:=d q (by simp) v σ1 τ h2 h;refine⟨λn y a=>i3 _ _ (g _ _ a),λρ c=>?_⟩;rw[VW,On,i2 ρ (λn y a=>c _ _ (i3 _ _ a)),i4 ρ c]
   ·rw[NH (show(⟨y,k⟩:Ty).subs.length≠2 from hk)]at h;simp at h
theorem Nm (h:Tm->ST) (d:∀a b,h (Bu a b)=.ar (h a) (h b)):∀(p:PX) (ar:List Tm) (n:Nat),p.ok ar.length->Bj [p.m]=false->(∀q∈(Az 84 p.m ar n).2.1,h q.l=h q.r)->
  HT (λi=>if i<ar.length then h (ar.getD (ar.length-1-i) D9) else .o) p (h (Az 84 p.m ar n).1)
 | .v i,ar,n,ho,hc,hq=>by
  have ho:i<ar.length:=ho;show HT _ (.v i) (h (Az 84 ⟨1,(i:Int),[]⟩ ar n).1);rw[Jo];exact .v (by simp only[Aq ho]; simp)
 | .c k,ar,n,ho,hc,hq=>by simp[PX.m,Bj] at hc
 | .l b,ar,n,ho,hc,hq=>by
  have hc:Bj [b.m]=false:=by simpa [PX.m,Ea] using hc
  have hq:∀q∈(Az 84 b.m (ar++[AK 84 (n+1)]) (n+1)).2.1,h q.l=h q.r:=λq hm=>hq q (by
   show q∈(Az 84 ⟨2,0,[b.m]⟩ ar n).2.1;rw[IL]; exact hm)
  have ho:b.ok (ar++[AK 84 (n+1)]).length:=by rw[Ej]; exact ho
  show HT _ (.l b) (h (Az 84 ⟨2,0,[b.m]⟩ ar n).1);rw[IL];show HT _ (.l b) (h (Bu _ _));rw[d];refine .l ?_;have g:=Nm h d b _ _ ho hc hq;have e:(λi=>if i<(ar++[AK 84 (n+1)]).length then h ((ar++[AK 84 (n+1)]).getD ((ar++[AK 84 (n+1)]).length-1-i) D9) else ST.o)=Iq (h (AK 84 (n+1))) (λi=>if i<ar.length then h (ar.getD (ar.length-1-i) D9) else .o):=by
   funext i
   cases i with
   |zero=>simp[Iq]
   |succ i=>
    simp only[Iq,Ej,Cl,Ek];by_cases hi:i<ar.length
    ·rw[Aq (by omega),Aq hi];congr 1
     rw[GD,GD,Nq (by omega)];congr 2
     omega
    ·rw[Am (by omega),Am hi]
  rw[e]at g;exact g
 | .a f x,ar,n,ho,hc,hq=>by
  obtain⟨s,t⟩:Bj [f.m]=false/\Bj [x.m]=false:=by
   have:Bj [f.m,x.m]=false:=(by simpa [PX.m,Ea] using hc);rw[IM]at this;simpa using this
  have hq:∀q∈(Az 84 ⟨3,0,[f.m,x.m]⟩ ar n).2.1,h q.l=h q.r:=hq;show HT _ (.a f x) (h (Az 84 ⟨3,0,[f.m,x.m]⟩ ar n).1);rw[Jp]at hq ⊢;have j:=Nm h d f ar n ho.1 s λq hm=>hq q (BN.2 (Ad (BN.2 (Ad hm))));have i2:=Nm h d x ar (Az 84 f.m ar n).2.2 ho.2 t λq hm=>hq q (BN.2 (Ad (BN.2 (Ae hm))));have e:=hq _ (BN.2 (Ae (GC.2 rfl)));simp only[d] at e;rw[e]at j;exact .a j i2
theorem qN {p:PX} (he:Au 0 0 [p.m]=0) (hc:Bj [p.m]=false) (hz:Ai [p.m]<=60) {g:Nat} {c:Int×List Bd} (l:A0 true g [] (Az 84 p.m [] 0).2.1=some c) (h0:(CG c (Az 84 p.m [] 0).1).1=0)
 (hy:FM (CG c (Az 84 p.m [] 0).1).2 y=true):HT (DF []) p (Dm y):=by
 have hp:=Mf (p:=84) (Ad rfl) he hc hz;obtain⟨g2,R,R2,h1,h2,h3,u⟩:=VO hp;obtain rfl:=OR _ _ _ _ _ _ l h2;obtain⟨v,x⟩:=Mq (p:=84) (Ad rfl) p.m [] 0 he hc AX.nil;have z:=Ky true g (s:=[]) (λd hd=>by cases hd) x l;have i:=(VT z v h0).1;have A:c.1=0:=by
  unfold CG at h0;by_cases h6:c.1=6
  ·rw[Aq h6]at h0; cases h0
  ·rw[Am h6]at h0;by_cases n:c.1≠0
   ·rw[Aq n]at h0; exact h0
   ·exact Classical.not_not.1 n
 have j:AV R.2=false:=by
  cases j:AV R.2 with
  |false=>rfl
  |true=>have:=h3 j; omega
 obtain rfl:=u j;obtain⟨e1,e2,e3⟩:=JZ hp;obtain⟨h',e,gd,hn,k,_⟩:=Uv g2 [] _ _ e3.1 h1;have ok:Ci c.2:=by rw[e]; exact gd.all
 have B:Ef c.2 c.2:=λd hd=>by rw[IJ (Kv ok.1 hd),JQ (λe he=>ok.2.2 d hd e he)]
 have hu:Eg c.2 (Az 84 p.m [] 0).2.1:=((k A c.2 ok.vars).1 B).2;have ho:CG c (Az 84 p.m [] 0).1=(0,Cq (AU [] (Aw [Ag c.2 (Az 84 p.m [] 0).1])) (Ag c.2 (Az 84 p.m [] 0).1)):=by
  unfold CG at h0 ⊢;rw[Am (show ¬c.1=6 by omega),Am (show ¬c.1≠0 by omega)]at h0 ⊢;by_cases o:2000<Ah [Ag c.2 (Az 84 p.m [] 0).1]
  ·rw[Aq o]at h0; cases h0
  ·rw[Am o]
 rw[ho]at hy i;generalize ah:AU [] (Aw [Ag c.2 (Az 84 p.m [] 0).1])=f at hy i;unfold FM at hy;cases r:CV (Cq f (Ag c.2 (Az 84 p.m [] 0).1)) y [] with
 |mk b τ=>
  rw[r]at hy;have hy:b=true:=hy;subst hy;obtain⟨-,i2⟩:=qM _ _ _ _ i r;have e:=i2 τ λ_ _ h=>h;rw[<-e];have:=Nm (λt=>Hy (Nl τ) (Cq f (Ag c.2 t))) (λa b=>by
   have:Ag c.2 (Bu a b)=Bu (Ag c.2 a) (Ag c.2 b):=by
    unfold Bu;rw[Hc (Ad (by simp)),Bs,Bs];simp[An]
   rw[this];have:Cq f (Bu (Ag c.2 a) (Ag c.2 b))=⟨0,[Cq f (Ag c.2 a),Cq f (Ag c.2 b)]⟩:=by
    simp only[Bu,Cq,Hg,GQ,Il];simp[Cq]
   rw[this,VW]) p [] 0 ((JI p 0).1 he) hc (λq hm=>by rw[hu q hm])
  simpa [YR] using this
def Ds (O:Int×Ty) (y:Ty):Bool×Int:=if CR y=0 then (if O.1=0 then (FM O.2 y,0) else (false,if O.1=11 then 0 else O.1)) else (false,CR y)
theorem Lj {O:Int×Ty} (h:CR y≠0):Ds O y=(false,CR y):=by simp[Ds,h]
theorem Pk {O:Int×Ty} (h:CR y=0) (h2:O.1=11):Ds O y=(false,0):=by simp[Ds,h,h2]
theorem Lk {O:Int×Ty} (h:CR y=0) (h2:O.1≠11) (h3:O.1≠0):Ds O y=(false,O.1):=by simp[Ds,h,h2,h3]
theorem Nn {O:Int×Ty} (h:CR y=0) (h3:O.1=0):Ds O y=(FM O.2 y,0):=by simp[Ds,h,h3]
theorem qO {B:Nat} (hz:CH t=0->Ai [t]<=60) (R:Int×List Bd) (g:Nat) (U:CH t=0->A0 false g [] (Az 86 t [] 0).2.1=some R) (O:Int×Ty) (E:DL t R=O) (V:O.1=0->Bl [O.2]) (v u:Value) (w:World) (X Y:Nat->Prop) (F:MV w X v t) (hu:YV w Y u y) (G:B<=w.heap.size) (hT:Tb B w):
  Calls Tryz.prog 37 #[v,u] w λe w'=>e=.returned (.tuple #[.bool (Ds O y).1,zA (Ds O y).2])/\Below w.heap.size w w':=by
 have W:=Aa F;have H:=Aa hu;have HT:=Aa hT;have Z:=Aa E;clear E;obtain⟨a,c,rfl,-⟩:=F;obtain⟨j,c',rfl,-⟩:=hu;have r:Hid (Below w.heap.size w ((w.alloc (zm t a c)).alloc (zn y j c'))):=((Ac _ _).alloc (Af _) _).alloc (by simp) _;have I:Hid (Ab ((w.alloc (zm t a c)).alloc (zn y j c')) w.heap.size (zE t a c) 24):=(Ab.new _ _ _).alloc _;have n:Hid (Ab ((w.alloc (zm t a c)).alloc (zn y j c')) (w.heap.size+1) (zH y j c') 27):=by have h:=Ab.new (w.alloc (zm t a c)) (zH y j c') 27; rw[Ca] at h; exact h
 go_in;go_upto_region 1 with fail;generalize ((w.alloc (zm t a c)).alloc (zn y j c'))=w2 at *;have s:=n.o.c0;have s1:=n.o.c1;go_wp2_with fail;refine(PC y _ w2 Y (H.o.later r.o)).mono ?_;rintro e w3 ⟨rfl,q⟩;have k:=Aa (r.o.trans (q.mono r.o.size));have x:=Aa (I.o.below q I.o.lt);have J:=Aa (n.o.below q n.o.lt);clear q s s1;by_cases hy:CR y=0
 ·have z:=Aa hy;rw[hy];clear hy;have A:=x.o.c0;have C:=x.o.c1;have r2:=x.o.c2;go_wp2_with fail;refine(qB hz R g U _ w3 X (W.o.later k.o) (AJ G k.o.size) (HT.o.on (k.o.mono G))).mono ?_;rw[Z.o];rintro e l ⟨a4,m,rfl,L,D⟩;have b:=Aa (k.o.trans (D.mono k.o.size));have M:=Aa (J.o.below D J.o.lt);have S4:=Aa L;clear D L A C r2;go_upto_region 5 with fail;have d:Hid (Below l.heap.size l (l.alloc (zn O.2 a4 m))):=(Ac _ _).alloc (Af _) _;have N:Hid (Ab (l.alloc (zn O.2 a4 m)) l.heap.size (zH O.2 a4 m) 27):=Ab.new _ _ _;generalize l.alloc (zn O.2 a4 m)=w5 at *;by_cases f:O.1=11
  ·have i:=Aa (Pk z.o f);rw[f];clear f;go_wp2_with fail;go_ret2
   exact⟨by rw[i.o]; rfl,b.o.trans (d.o.mono b.o.size)⟩
  ·by_cases h0:O.1=0
   ·have i:=Aa (Nn z.o h0);have ah:=Aa (V h0);rw[h0];clear h0 f;have P:=Aa (M.o.below d.o M.o.lt);have A:=N.o.c0;have C:=N.o.c1;have s:=P.o.c0;have s1:=P.o.c1;go_wp2_with fail;refine(qH O.2 y _ _ w5 _ Y ah.o ⟨a4,m,rfl,S4.o.later d.o⟩ (H.o.later (b.o.trans (d.o.mono b.o.size)))).mono ?_;rintro e w6 ⟨rfl,T⟩;have B6:=Aa ((b.o.trans (d.o.mono b.o.size)).trans (T.mono (b.o.trans (d.o.mono b.o.size)).size));clear T A C s s1;go_wp2_with fail;go_ret2
    exact⟨by rw[i.o]; rfl,B6.o⟩
   ·have i:=Aa (Lk z.o f h0);have ai:(O.1==11)=false:=Dx.2 f;have aj:(O.1==0)=false:=Dx.2 h0;clear h0 f;go_wp2_with fail;go_ret2
    exact⟨by rw[i.o]; rfl,b.o.trans (d.o.mono b.o.size)⟩
 ·have i:=Aa (Lj (O:=O) hy);have hb:(CR y==0)=false:=Dx.2 hy;clear hy;go_wp2_with fail;go_ret2
  exact⟨by rw[i.o]; rfl,k.o⟩
