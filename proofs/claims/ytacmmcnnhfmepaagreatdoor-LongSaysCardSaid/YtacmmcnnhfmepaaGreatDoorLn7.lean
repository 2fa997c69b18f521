import Derived.Test.YtacmmcnnhfmepaaGreatDoorLn5
namespace Go.Proofs.YtacmmcnnhfmepaaGreatDoor
set_option linter.all false
set_option maxRecDepth 20000
set_option maxHeartbeats 8000000
open Go.RowKit Go.Proofs.Tryz
structure EJ (inn:Bool) (u:Int) (m:Nat) (t0:Lm) (d:Nat) (t:Lm):Prop where
 le:d<=m
 e1:(Bl inn m t0).1=(Bl inn (m-d) t).1
 e2:(Bl inn m t0).2.1=(Bl inn (m-d) t).2.1
 e3:(Bl inn m t0).2.2=(Bl inn (m-d) t).2.2+d
 hu:0<=u/\u<=40
 er:∃M:Int,Au u M [t]=0/\M<=40
 sz:Ai [t]<=2000
theorem EJ.start {inn:Bool} {u M:Int} {m:Nat} {t:Lm} (hu:0<=u/\u<=40) (he:Au u M [t]=0) (a:Ai [t]<=2000) (b:M<=40):EJ inn u m t 0 t:=⟨Bm _,by simp,by simp,by simp,hu,⟨M,he,b⟩,a⟩
theorem jV {inn:Bool} {k:Nat} {t:Lm} (h:AG [t]=false):Bl inn k t=(0,t,0):=by cases k<;>simp[Bl,h]
theorem EJ.fin {inn:Bool} {u:Int} {m d:Nat} {t0 t:Lm} (h:EJ inn u m t0 d t) (a:AG [t]=false):(Bl inn m t0).1=0/\(Bl inn m t0).2.1=t/\(Bl inn m t0).2.2=d:=by
 obtain⟨_,h1,h2,h3,_⟩:=h;rw[jV a]at h1 h2 h3;exact⟨h1,h2,by simpa using h3⟩
theorem EJ.fuel {inn:Bool} {u:Int} {m:Nat} {t0 t:Lm} (h:EJ inn u m t0 m t) (a:AG [t]=true):(Bl inn m t0).1=9:=by
 rw[h.e1,Nat.sub_self]; simp[Bl,a]
theorem EJ.full {inn:Bool} {u:Int} {m d:Nat} {t0 t:Lm} (h:EJ inn u m t0 d t) (hd:d≠m) (a:AG [t]=true) (b:2000<Ai [Bx inn 2001 t]):(Bl inn m t0).1=8:=by
 have:=h.le;rw[h.e1,show m-d=(m-d-1)+1 by omega]; simp[Bl,a,b]
theorem EJ.on {inn:Bool} {u:Int} {m d:Nat} {t0 t:Lm} (h:EJ inn u m t0 d t) (hd:d≠m) (b:AG [t]=true) (c:¬2000<Ai [Bx inn 2001 t]):EJ inn u m t0 (d+1) (Bx inn 2001 t):=by
 obtain⟨h0,h1,h2,h3,a,h5,h6⟩:=h;rw[show m-d=(m-(d+1))+1 by omega]at h1 h2 h3;have e:Bl inn (m-(d+1)+1) t=((Bl inn (m-(d+1)) (Bx inn 2001 t)).1,(Bl inn (m-(d+1)) (Bx inn 2001 t)).2.1,(Bl inn (m-(d+1)) (Bx inn 2001 t)).2.2+1):=by
  rw[Bl,Aq b,Am c]
 rw[e]at h1 h2 h3;exact⟨by omega,h1,h2,by rw[h3]; simp only; omega,a,h5.imp λM h=>⟨Xg inn M 2001 t u a.1 h.1,h.2⟩,by omega⟩
theorem EJ.gd {inn:Bool} {u:Int} {m d:Nat} {t0 t:Lm} (h:EJ inn u m t0 d t):Ek u t:=⟨h.hu.1,by have:=h.hu.2; have:=h.sz; omega,h.er,h.sz⟩
theorem jW (l:List Lm):∀d,CZ l->CE 0 d l=l:=by
 induction l using Lm.indL with
 |h0=>intro d _; simp[CE]
 |h k x l r a b=>
  intro d h;obtain⟨h1,h2,h3⟩:=(ID k x l r).1 h;rw[CE,b d h3];by_cases hk:k=1
  ·rw[Aq hk];split
   ·rfl
   ·rw[h1 hk,hk]; simp
  ·rw[Am hk,a _ h2]
theorem jX {t:Lm} (h:CZ [t]):AY 0 0 t=t:=by
 have:=jW [t] 0 h;rw[Ei]at this;simpa using this
theorem jY (v:Value) (t:Lm) (w:World) (X:Nat->Prop) (f:MV w X v t):
  Calls prog 58 #[v] w λe w'=>∃T a c,e=.returned (.func (.func 77) #[] #[zC T])/\Ab w' T (zE t a c) 24/\Ap w' X a t.subs/\Below w.heap.size w w':=by
 have aa:=@hmq prog;obtain⟨a,c,rfl,b⟩:=f;have d:Hid (Below w.heap.size w (w.alloc (.cells (zE t a c) 24))):=(Ac _ _).alloc (Ag _) _;have g:=Aa (b.later d.o);have h:Hid (Ab (w.alloc (.cells (zE t a c) 24)) w.heap.size (zE t a c) 24):=Ab.new _ _ _;clear b;go_enter func58,ntmps58;go_wp2_with fail;go_ret;exact⟨_,a,c,rfl,h.o,g.o,d.o⟩
theorem Oq {w w1:World} {x:Lm} {a:Option Addr} {c:Nat} (f:Ap w1 (λb=>w.heap.size+2<=b) a x.subs) (h0:Below w.heap.size w w1) (u u' e:Value):
  MV (((w1.setCell (zD (w.heap.size+1) 0) u).setCell (zD (w.heap.size+1) 1) u').setCell (zD (w.heap.size+1) 2) e) (λb=>w.heap.size+2<=b) (.agg (zE x a c)) x/\Below w.heap.size w (((w1.setCell (zD (w.heap.size+1) 0) u).setCell (zD (w.heap.size+1) 1) u').setCell (zD (w.heap.size+1) 2) e):=by
 refine⟨⟨a,c,rfl,f.kept λb hb=>?_⟩,((h0.setCell (p:=(zD (w.heap.size+1) 0)) (by simp) _).setCell (p:=(zD (w.heap.size+1) 1)) (by simp) _).setCell (p:=(zD (w.heap.size+1) 2)) (by simp) _⟩;have d:b≠w.heap.size+1:=by omega
 rw[Al _ _ _ _ (by simpa using d),Al _ _ _ _ (by simpa using d),Al _ _ _ _ (by simpa using d)]
theorem jZ (t:Lm) (u:Int) (A:Ek u t) (v:Value) (w:World) (X:Nat->Prop) (B:MV w X v t):
  Calls prog 100 #[v,zA 0] w λe w'=>∃n,e=.returned n/\MV w' (λb=>w.heap.size<=b) n t/\Below w.heap.size w w':=by
 obtain⟨a,c,rfl,q⟩:=B;obtain⟨g1,g2,⟨M,g3,hM⟩,g4⟩:=A;have g:=Mh _ _ _ g3;have i:Below w.heap.size w (((w.alloc (.cells (zE t a c) 24)).alloc (.cells zJ 24)).alloc (.cells #[zA 9223372036854775807] 152)):=(Dn _ _).alloc (by simp; omega) _;have r:(((w.alloc (.cells (zE t a c) 24)).alloc (.cells zJ 24)).alloc (.cells #[zA 9223372036854775807] 152)).heap.size=w.heap.size+3:=by simp
 have s:Ab (((w.alloc (.cells (zE t a c) 24)).alloc (.cells zJ 24)).alloc (.cells #[zA 9223372036854775807] 152)) (w.heap.size+1+1) #[zA 9223372036854775807] 152:=(by have h:=Ab.new ((w.alloc (.cells (zE t a c) 24)).alloc (.cells zJ 24)) #[zA 9223372036854775807] 152;simpa using h);have x:Ab (((w.alloc (.cells (zE t a c) 24)).alloc (.cells zJ 24)).alloc (.cells #[zA 9223372036854775807] 152)) (w.heap.size+1) zJ 24:=(by have h:=(Ab.new (w.alloc (.cells (zE t a c) 24)) zJ 24).alloc (.cells #[zA 9223372036854775807] 152);simpa using h);have j:=Aa (NT (w.heap.size+1+1) 0 (by omega) (by omega) t 9223372036854775807 (.agg (zE t a c)) (((w.alloc (.cells (zE t a c) 24)).alloc (.cells zJ 24)).alloc (.cells #[zA 9223372036854775807] 152)) (λb=>X b/\b<w.heap.size) ⟨a,c,rfl,(q.mono (Y:=λb=>X b/\b<w.heap.size) λb h1 h2=>⟨h1,h2⟩).later i⟩ (λb hb=>by omega) (by omega) (by omega) (Jf _ _ _ g1 (by omega) (by omega) g3) g s);rw[jX g]at j;have d:=Aa i;have k:=Aa r;have C:=Aa x;have D:Ai [t]<=9223372036854775807:=by omega
 clear q i r s x g3 g;go_enter func100,ntmps100;go_wp2_with fail;refine j.o.mono ?_;rintro e w1 ⟨k',x',l,l',c',m,rfl,hF,hx,hy,_⟩;obtain⟨_,rfl,rfl,rfl,y⟩:=hy D;have h1:w.heap.size+3<=w1.heap.size:=by have:=hx.size; have:=k.o; omega
 have E:Hid (Below w.heap.size w w1):=⟨hx.os.trans d.o.os,hx.tape.trans d.o.tape,hx.output.trans d.o.output,by omega,λb hb=>(hx.block b (by have:=k.o; omega) (by omega)).trans (d.o.block b hb)⟩;have f:=Aa (C.o.ex hx (by omega));have F:Hid (Ap w1 (λb=>w.heap.size+2<=b) l t.subs):=y.mono λb h _=>by have h':(((w.alloc (.cells (zE t a c) 24)).alloc (.cells zJ 24)).alloc (.cells #[zA 9223372036854775807] 152)).heap.size<=b:=h; have:=k.o; omega
 have G:=f.o.c0;have H:=f.o.c1;have I:=f.o.c2;have rf:=f.o.frozen;clear hF hx hy y j;go_wp2_with fail;refine Ao (v:=.agg (zE t l c')) (by simp[results,results100,go_sem,AK,AB,G,H,I]) rfl ?_;have z:=Oq (c:=c') F.o E.o (zA t.kind) (zA t.idx) (.slice l t.subs.length c');exact⟨_,rfl,z.1.mono λb hb _=>by omega,z.2⟩
theorem kD (t:Lm) (u:Int) (n:Ek u t) (v:Value) (w:World) (X:Nat->Prop) (q:MV w X v t):
  Calls prog 94 #[v] w λe w'=>∃i,e=.returned i/\MV w' (λb=>w.heap.size+2<=b) i t/\Below w.heap.size w w':=by
 obtain⟨a,c,rfl,j⟩:=q;have r:Hid (MV ((w.alloc (.cells (zE t a c) 24)).alloc (.cells zJ 24)) X (.agg (zE t a c)) t):=⟨a,c,rfl,j.later (Dn _ _)⟩;have s:Hid (Below w.heap.size w ((w.alloc (.cells (zE t a c) 24)).alloc (.cells zJ 24))):=Dn _ _;have k:Hid (Ab ((w.alloc (.cells (zE t a c) 24)).alloc (.cells zJ 24)) (w.heap.size+1) zJ 24):=by
  have h:=Ab.new (w.alloc (.cells (zE t a c) 24)) zJ 24;unfold Hid;simpa using h
 clear j;go_enter func94,ntmps94;go_wp2_with fail;refine(jZ t u n _ _ X r.o).mono ?_;rintro e w1 ⟨v1,rfl,⟨f,c1,rfl,l⟩,g⟩;have x:=Aa (s.o.trans (g.mono (by simp; omega)));have d:=Aa (k.o.below g k.o.lt);have y:Hid (Ap w1 (λb=>w.heap.size+2<=b) f t.subs):=l.mono λb h _=>by simp at h; omega
 have z:=d.o.c0;have A:=d.o.c1;have B:=d.o.c2;have rf:=d.o.frozen;clear l g;go_wp2_with fail;refine Ao (v:=.agg (zE t f c1)) (by simp[results,results94,go_sem,AK,AB,z,A,B]) rfl ?_;have m:=Oq (c:=c1) y.o x.o (zA t.kind) (zA t.idx) (.slice f t.subs.length c1);exact⟨_,rfl,m.1,m.2⟩
