import Derived.Test.YtlkeafenklamjaaGreatDoorZFCriticalSaysOwn
import Derived.Deep.RegionHeld3
namespace Go.Proofs.YtlkeafenklamjaaGreatDoor
set_option linter.all false
set_option maxRecDepth 20000
set_option maxHeartbeats 8000000
open Go.RowKit Go.Shelf
def Nm (w:World) (X:Nat->Prop) (b:Nat):Prop:=(X b/\b<w.heap.size)∨w.heap.size<=b
def FJ (w:World) (X:Nat->Prop) (b:Nat):Prop:=(X b/\b<w.heap.size)∨w.heap.size+2<=b
def Nn (rs:List Pr) (C:Tm->Tm) (m d k:Nat) (t0:Tm) (X:Nat->Prop) (I:Nat) (ua:Option Addr) (uc:Nat) (w:World) (e:Ending) (w':World):Prop:=
 Al (λb=>b=I) w w'/\∃(x:Tm) (a:Option Addr) (c:Nat) (er:Int),e=.returned (.tuple #[.agg #[.string x.name,.slice a x.args.length c],.int .i64 er])/\Sl w' (Nm w X) a x.args/\
  ((er=0/\∃d',FC rs C m d t0 x d'/\Ac w' I #[.slice ua rs.length uc,.int .i64 (m:Int),.int .i64 (d':Int),.int .i64 ((Ab [x]+k:Nat):Int)] 101)∨((er=8∨er=9)/\x=⟨⟨#[]⟩,[]⟩/\BL rs true (m-d) (C t0)=(er,⟨⟨#[]⟩,[]⟩,0)))
def Fa (w:World) (X:Nat->Prop) (mv:Option Nat) (ls:List Bd):Prop:=(mv=none/\ls=[])∨∃q L,mv=some q/\Fg w q X ls L
def Np (rs:List Pr) (ua:Option Addr) (uc I m f:Nat):Prop:=
 ∀(C:Tm->Tm) (k d:Nat) (t:Tm) (ls:List Bd) (mv:Option Nat) (a:Option Addr) (c:Nat) (w:World) (X:Nat->Prop),Fj rs C k->m-d<=f->d<=m->QV w X (.slice ua rs.length uc) rs->Sl w X a t.args->Fa w X mv ls->Gw ls (Gx rs)->(∀b,X b->b≠I)->Ab [gT ls t]+k<=2000->Ab [t]<=2000->Ac w I #[.slice ua rs.length uc,.int .i64 (m:Int),.int .i64 (d:Int),.int .i64 ((Ab [gT ls t]+k:Nat):Int)] 101->
  Calls Tryz.prog 68 #[.pointer (some ⟨I,0,none⟩),.agg #[.string t.name,.slice a t.args.length c],.map mv] w λe w'=>Nn rs C m d k (gT ls t) X I ua uc w e w'
def Tw (rs:List Pr) (ua:Option Addr) (uc I m f:Nat):Prop:=
 ∀(C:Tm->Tm) (k d:Nat) (t:Tm) (a:Option Addr) (c:Nat) (w:World) (X:Nat->Prop),Fj rs C k->m-d<=f->d<=m->QV w X (.slice ua rs.length uc) rs->Sl w X a t.args->(∀y∈t.args,Gx rs y)->(∀b,X b->b≠I)->Ab [t]+k<=2000->Ac w I #[.slice ua rs.length uc,.int .i64 (m:Int),.int .i64 (d:Int),.int .i64 ((Ab [t]+k:Nat):Int)] 101->
  Calls Tryz.prog 91 #[.pointer (some ⟨I,0,none⟩),.agg #[.string t.name,.slice a t.args.length c]] w λe w'=>Nn rs C m d k t X I ua uc w e w'
def F6 (rs:List Pr) (t:Tm) (Y:Nat->Prop) (fs:ByteArray) (fa:Option Addr) (fn fc:Nat) (fm:Option Nat) (ok:Bool) (w:World):Prop:=
 (Cm rs t=[]/\ok=false)∨∃(y:Ft) (q:Nat) (L:List (ByteArray×Value)),[y] <+: Cm rs t/\ok=true/\fs=y.1.r.name/\fn=y.1.r.args.length/\fm=some q/\Y q/\q<w.heap.size/\Sl w Y fa y.1.r.args/\Fg w q Y y.2 L
theorem F6.kept {rs:List Pr} {t:Tm} {Y:Nat->Prop} {fs:ByteArray} {fa:Option Addr} {fn fc:Nat} {fm:Option Nat} {ok:Bool} {w w':World} (h:F6 rs t Y fs fa fn fc fm ok w) (hz:w.heap.size<=w'.heap.size) (hk:∀b,Y b->b<w.heap.size->w'.heap[b]? = w.heap[b]?):F6 rs t Y fs fa fn fc fm ok w':=by
 rcases h with h|⟨y,q,L,h1,h2,h3,h4,h5,hY,hq,h6,h7⟩
 ·exact Ad h
 ·have ks:∀a l,Sl w Y a l->Sl w' Y a l:=λa l hs=>((hs.mono (Y:=λb=>Y b/\b<w.heap.size) λb h1 h2=>⟨h1,h2⟩).kept λb hb=>hk b hb.1 hb.2).mono λb hb _=>hb.1
  exact Ae ⟨y,q,L,h1,h2,h3,h4,h5,hY,by omega,ks _ _ h6,h7.1.kept (hk q hY hq),h7.2.imp ks⟩
theorem F6.mono {rs:List Pr} {t:Tm} {Y Y':Nat->Prop} {fs:ByteArray} {fa:Option Addr} {fn fc:Nat} {fm:Option Nat} {ok:Bool} {w:World} (h:F6 rs t Y fs fa fn fc fm ok w) (hk:∀b,Y b->b<w.heap.size->Y' b):F6 rs t Y' fs fa fn fc fm ok w:=by
 rcases h with h|⟨y,q,L,h1,h2,h3,h4,h5,hY,hq,h6,h7⟩
 ·exact Ad h
 ·exact Ae ⟨y,q,L,h1,h2,h3,h4,h5,hk q hY hq,hq,h6.mono hk,h7.1,h7.2.imp λa l hs=>hs.mono hk⟩
theorem Nq (rs:List Pr) (t:Tm) (R T N0 NB:Nat) (uv:Value) (aa:Option Addr) (ca:Nat) (w:World) (X:Nat->Prop) (hR:Ac w R #[uv] 22) (hu:QV w X uv rs) (hT:Ac w T #[.string t.name,.slice aa t.args.length ca] 29) (hs:Sl w X aa t.args) (hX:∀b,X b->b<N0) (hN:N0<=R/\N0<=T/\NB≠R/\NB≠T/\N0<=NB):
  Calls Tryz.prog 105 #[.func (.func 124) #[] #[.pointer (some ⟨R,0,none⟩),.pointer (some ⟨T,0,none⟩)]] w λe w'=>∃fs fa fn fc fm ok,e=.returned (.tuple #[.agg #[.string fs,.slice fa fn fc,.map fm],.bool ok])/\Below w.heap.size w w'/\F6 rs t (λb=>(X b∨N0<=b)/\(b≠NB∨w.heap.size<=b)) fs fa fn fc fm ok w':=by
 have ai:=hR.lt
 have aj:=hT.lt
 refine(gY rs t R T uv aa ca w X (λb=>b<w.heap.size/\¬X b/\(b<N0∨b=NB)) hR hu hT hs (λb hb=>⟨by have:=hX b hb; omega,λh=>h.2.1 hb⟩) (λb hb=>⟨hb.1,λe=>by rcases hb.2.2 with h|h<;>omega,λe=>by rcases hb.2.2 with h|h<;>omega⟩)).mono ?_
 rintro e w' ⟨hb,⟨h1,rfl⟩|⟨y,cs,Z,h1,rfl,hl,hZ⟩⟩
 ·exact⟨_,_,_,_,_,false,rfl,hb,Ad ⟨h1,rfl⟩⟩
 ·obtain⟨ra,rc,q,L,e1,ag,hq,af⟩:=hl
  simp at e1
  subst e1
  have ae:∀b,Z b->b<w'.heap.size->((X b∨N0<=b)/\(b≠NB∨w.heap.size<=b)):=λb hb _=>by
   have h:=(hZ b hb).2
   by_cases hx:X b
   ·exact⟨Ad hx,by have:=hX b hx; left; omega⟩
   ·by_cases ah:b<w.heap.size
    ·have h2:¬(b<N0∨b=NB):=λh3=>h ⟨ah,hx,h3⟩
     exact⟨Ae (by omega),Ad (by omega)⟩
    ·exact⟨Ae (by omega),Ae (by omega)⟩
  exact⟨_,_,_,_,_,true,rfl,hb,Ae ⟨y,q,L,h1,rfl,rfl,rfl,rfl,ae q hq (hZ q hq).1,(hZ q hq).1,ag.mono ae,af.1,af.2.imp λa l hs=>hs.mono ae⟩⟩
def Nr (rs:List Pr) (t:Tm) (X:Nat->Prop) (w w1:World) (o v:Value) (wc:World):Prop:=
 ∃(B:Nat) (fs:ByteArray) (fa:Option Addr) (fn fc:Nat) (fm:Option Nat) (ok:Bool),o=.pointer (some ⟨B,0,none⟩)/\v=.bool ok/\w1.heap.size<=B/\Below w1.heap.size w1 wc/\Ac wc B #[.string fs,.slice fa fn fc,.map fm] 148/\F6 rs t (λb=>FJ w X b/\b≠B) fs fa fn fc fm ok wc
theorem iB {rs:List Pr} {t:Tm} {X:Nat->Prop} {w w1 w5 w6:World} {fs:ByteArray} {fa:Option Addr} {fn fc:Nat} {fm:Option Nat} {ok:Bool} (ae:w.heap.size+2<=w1.heap.size) (aa:∀b,X b->b<w.heap.size) (h5:Below w1.heap.size w1 w5) (hb:Below w5.heap.size w5 w6) {NB:Nat} (hr:F6 rs t (λb=>(X b∨w.heap.size+2<=b)/\(b≠NB∨w5.heap.size<=b)) fs fa fn fc fm ok w6):
  Nr rs t X w w1 (.pointer (some ⟨w6.heap.size,0,none⟩)) (.bool ok) (w6.alloc (.cells #[.string fs,.slice fa fn fc,.map fm] 148)):=by
 have h1:=h5.size
 have h2:=hb.size
 refine⟨w6.heap.size,fs,fa,fn,fc,fm,ok,rfl,rfl,by omega,(h5.trans (hb.mono h5.size)).alloc (by omega) _,Ac.new w6 _ _,?_⟩
 refine(hr.mono (Y':=λb=>FJ w X b/\b≠w6.heap.size) λb hb hl=>⟨?_,by omega⟩).kept (by simp) λb _ hl=>AP _ _ _ hl
 rcases hb.1 with h|h
 ·exact Ad ⟨h,aa b h⟩
 ·exact Ae h
theorem Tx {rs:List Pr} {t:Tm} {X:Nat->Prop} {w w1 w5 w6:World} {B:Nat} {fs:ByteArray} {fa:Option Addr} {fn fc:Nat} {fm:Option Nat} {ok:Bool} (ae:w.heap.size+2<=w1.heap.size) (aa:∀b,X b->b<w.heap.size) (h5:Below w1.heap.size w1 w5) (hb:Below w5.heap.size w5 w6) (hB:w1.heap.size<=B) (hBl:B<w5.heap.size) (hz:Ac w6 B #[.string ⟨#[]⟩,.slice none 0 0,.map none] 148) (hr:F6 rs t (λb=>(X b∨w.heap.size+2<=b)/\(b≠B∨w5.heap.size<=b)) fs fa fn fc fm ok w6):
  Below w1.heap.size w1 (((w6.setCell ⟨B,0,none⟩ (.string fs)).setCell ⟨B,1,none⟩ (.slice fa fn fc)).setCell ⟨B,2,none⟩ (.map fm))/\Nr rs t X w w1 (.pointer (some ⟨B,0,none⟩)) (.bool ok) (((w6.setCell ⟨B,0,none⟩ (.string fs)).setCell ⟨B,1,none⟩ (.slice fa fn fc)).setCell ⟨B,2,none⟩ (.map fm)):=by
 have h1:=h5.size
 have h2:=hb.size
 have hb2:Below w1.heap.size w1 (((w6.setCell ⟨B,0,none⟩ (.string fs)).setCell ⟨B,1,none⟩ (.slice fa fn fc)).setCell ⟨B,2,none⟩ (.map fm)):=(((h5.trans (hb.mono h5.size)).setCell (by simpa using hB) _).setCell (by simpa using hB) _).setCell (by simpa using hB) _
 refine⟨hb2,B,fs,fa,fn,fc,fm,ok,rfl,rfl,hB,hb2,((hz.set 0 _).set 1 _).set 2 _,?_⟩
 refine(hr.mono (Y':=λb=>FJ w X b/\b≠B) λb hb hl=>⟨?_,by omega⟩).kept (by simp[World.setCell]) λb hb _=>?_
 ·rcases hb.1 with h|h
  ·exact Ad ⟨h,aa b h⟩
  ·exact Ae h
 ·have hne:=hb.2
  rw[Aq _ _ _ _ (by simpa using hne),Aq _ _ _ _ (by simpa using hne),Aq _ _ _ _ (by simpa using hne)]
structure H9 (rs:List Pr) (t:Tm) (X:Nat->Prop) (I:Nat) (ua:Option Addr) (uc m d z:Nat) (a:Option Addr) (c:Nat) (w w':World):Prop where
 inn:Ac w' I #[.slice ua rs.length uc,.int .i64 (m:Int),.int .i64 (d:Int),.int .i64 (z:Int)] 101
 box:Ac w' w.heap.size #[.string t.name,.slice a t.args.length c] 29
 res:Ac w' (w.heap.size+1) #[.string ⟨#[]⟩,.slice none 0 0] 29
 qv:QV w' X (.slice ua rs.length uc) rs
 sl:Sl w' X a t.args
 lt:w.heap.size+2<=w'.heap.size
theorem H9.below {rs:List Pr} {t:Tm} {X:Nat->Prop} {I:Nat} {ua:Option Addr} {uc m d z:Nat} {a:Option Addr} {c:Nat} {w w1 w2:World} (h:H9 rs t X I ua uc m d z a c w w1) (hb:Below w1.heap.size w1 w2):H9 rs t X I ua uc m d z a c w w2:=
 ⟨h.inn.below hb h.inn.lt,h.box.below hb h.box.lt,h.res.below hb h.res.lt,h.qv.later hb,h.sl.later hb,by have:=hb.size; have:=h.lt; omega⟩
structure K7 (rs:List Pr) (t:Tm) (X:Nat->Prop) (I:Nat) (ua:Option Addr) (uc m d z:Nat) (a:Option Addr) (c:Nat) (w:World) (B:Nat) (y:Ft) (fa:Option Addr) (fc q:Nat) (L:List (ByteArray×Value)) (w':World):Prop where
 kn:H9 rs t X I ua uc m d z a c w w'
 bx:Ac w' B #[.string y.1.r.name,.slice fa y.1.r.args.length fc,.map (some q)] 148
 ra:Sl w' (λb=>FJ w X b/\b≠B) fa y.1.r.args
 en:Fg w' q (λb=>FJ w X b/\b≠B) y.2 L
theorem K7.below {rs:List Pr} {t:Tm} {X:Nat->Prop} {I:Nat} {ua:Option Addr} {uc m d z:Nat} {a:Option Addr} {c:Nat} {w:World} {B:Nat} {y:Ft} {fa:Option Addr} {fc q:Nat} {L:List (ByteArray×Value)} {w1 w2:World} (h:K7 rs t X I ua uc m d z a c w B y fa fc q L w1) (hb:Below w1.heap.size w1 w2):K7 rs t X I ua uc m d z a c w B y fa fc q L w2:=
 ⟨h.kn.below hb,h.bx.below hb h.bx.lt,h.ra.later hb,h.en.later hb⟩
theorem K7.set {rs:List Pr} {t:Tm} {X:Nat->Prop} {I:Nat} {ua:Option Addr} {uc m d z d1 z1:Nat} {a:Option Addr} {c:Nat} {w:World} {B:Nat} {y:Ft} {fa:Option Addr} {fc q:Nat} {L:List (ByteArray×Value)} {w1:World} (h:K7 rs t X I ua uc m d z a c w B y fa fc q L w1) (hI:I<w.heap.size) (hB:w.heap.size<=B) (hX:∀b,X b->b≠I) (hq:FJ w X q/\q≠B) (i:Nat) (v:Value) (hc:(#[.slice ua rs.length uc,.int .i64 (m:Int),.int .i64 (d:Int),.int .i64 (z:Int)]:Array Value).setIfInBounds i v=#[.slice ua rs.length uc,.int .i64 (m:Int),.int .i64 (d1:Int),.int .i64 (z1:Int)]):K7 rs t X I ua uc m d1 z1 a c w B y fa fc q L (w1.setCell ⟨I,i,none⟩ v):=by
 have hY:∀b,FJ w X b/\b≠B->b≠I:=λb hb=>by
  rcases hb.1 with h|h
  ·exact hX b h.1
  ·omega
 have k:∀b,b≠I->(w1.setCell ⟨I,i,none⟩ v).heap[b]? = w1.heap[b]? := λb hb=>Aq _ _ _ _ (by simpa using hb)
 refine⟨⟨?_,h.kn.box.setOther _ _ (by omega),h.kn.res.setOther _ _ (by omega),h.kn.qv.kept λb hb=>k b (hX b hb),h.kn.sl.kept λb hb=>k b (hX b hb),by have:=h.kn.lt; simp[World.setCell]; omega⟩,h.bx.setOther _ _ (by omega),h.ra.kept λb hb=>k b (hY b hb),h.en.1.kept (k q (hY q hq)),h.en.2.imp λa l hs=>hs.kept λb hb=>k b (hY b hb)⟩
 have h1:=h.kn.inn.set i v
 rw[hc]at h1
 exact h1
def S7 (t:Tm) (a:Option Addr) (c:Nat) (w:World) (B:Nat) (y:Ft) (fa:Option Addr) (fc q:Nat) (w':World):Prop:=Ac w' w.heap.size #[.string t.name,.slice a t.args.length c] 29/\Ac w' B #[.string y.1.r.name,.slice fa y.1.r.args.length fc,.map (some q)] 148
def C7 (rs:List Pr) (t:Tm) (X:Nat->Prop) (I:Nat) (ua:Option Addr) (uc m d z:Nat) (a:Option Addr) (c:Nat) (w:World) (B:Nat) (y:Ft) (fa:Option Addr) (fc q:Nat) (L:List (ByteArray×Value)) (w':World):Prop:=
 ∃kc z2:Nat,Ln kc (0+Ab [gT y.2 y.1.r])/\z2+Ab [t]=z+kc/\K7 rs t X I ua uc m (d+1) z2 a c w B y fa fc q L w'/\Al (λb=>b=I) w w'
theorem iC (rs:List Pr) (hr:∀p∈rs,Bt p=0) (ua:Option Addr) (uc I m f:Nat) (hm:m<=400) (hE:∀f',f'<f->Np rs ua uc I m f'):Tw rs ua uc I m f:=by
 intro C k d t a c w X0 hC hf hd aX hs0 hno aY hz hI
 obtain⟨X,aZ,hX,ba,hu,hs⟩:∃X:Nat->Prop,(∀b,X b->X0 b)/\(∀b,X b->b≠I)/\(∀b,X b->b<w.heap.size)/\QV w X (.slice ua rs.length uc) rs/\Sl w X a t.args:=⟨λb=>X0 b/\b<w.heap.size,λ_ h=>h.1,λb h=>aY b h.1,λ_ h=>h.2,aX.mono λb h1 h2=>⟨h1,h2⟩,hs0.mono λb h1 h2=>⟨h1,h2⟩⟩
 have bb:=Aa aZ
 have HX:=Aa hX
 have af:=Aa ba
 have HC:=Aa hC
 have HE:=Aa hE
 have aJ:=Aa hno
 have HR:=Aa hr
 have az:=hI.lt
 have HI:=Aa hI
 have bZ:Ab [t]<=2000:=by omega
 obtain⟨z,aK⟩:∃z,z=Ab [t]+k:=⟨_,rfl⟩
 have HZ:=Aa aK
 have hz2:z<=2000:=by omega
 have HU:=Aa hu
 have HS:=Aa hs
 clear aZ hX ba hC hE hno hr hI hu hs aY aX hs0 hz
 rw[<-aK]at HI
 clear aK
 have HW:Hid (∃W,W=(w.alloc (.cells #[.string t.name,.slice a t.args.length c] 29)).alloc (.cells #[.string ⟨#[]⟩,.slice none 0 0] 29)/\H9 rs t X I ua uc m d z a c w W/\Below w.heap.size w W):=by
  have hb:=CO (w:=w) (.cells #[.string t.name,.slice a t.args.length c] 29) (.cells #[.string ⟨#[]⟩,.slice none 0 0] 29)
  refine⟨_,rfl,⟨HI.out.below hb az,(Ac.new w _ _).alloc _,?_,HU.out.later hb,HS.out.later hb,by simp⟩,hb⟩
  have h:=Ac.new (w.alloc (.cells #[.string t.name,.slice a t.args.length c] 29)) #[.string ⟨#[]⟩,.slice none 0 0] 29
  rw[CN]at h
  exact h
 go_enter Tryz.func91,Tryz.ntmps91
 go_upto_region 1 with fail
 obtain⟨w1,a6,aL,bc⟩:=HW.out
 rw[<-a6]
 clear HW a6
 have K1:=Aa aL
 have B1:=Aa bc
 have aM:w.heap.size+2<=w1.heap.size:=aL.lt
 clear aL bc HI HU HS
 go_cut [6,7] (λo v wc=>Nr rs t X w w1 o v wc)
 case first=>
  have BD:Hid (Below w1.heap.size w1 w1.drew):=below_drewN (Af _ _) 1
  have KD:=Aa (K1.out.below BD.out)
  refine CU (S:=H9 rs t X I ua uc m d z a c w) (by kernel_rfl) KD.out (λhHeld=>?_)
  refine tkz 0 ?_
  refine tkz 1 ?_ (hy:=by intro w' hSw;have il:I<w'.heap.size:=hSw.inn.lt;go_simp<;>with_reducible rfl)
  refine tkz 2 ?_ (hy:=by intro w' hSw;have il:I<w'.heap.size:=hSw.inn.lt;go_simp<;>with_reducible rfl)
  refine tkz 3 ?_ (hy:=by intro w' hSw;have i0:w'.cell? ⟨I,0,none⟩=some (.slice ua rs.length uc):=hSw.inn.cell 0;go_simp<;>with_reducible rfl)
  refine tkz 4 ?_ (hy:=by intro w' hSw;have c0:w'.cell? ⟨w.heap.size,0,none⟩=some (.string t.name):=hSw.box.cell 0;have c1:w'.cell? ⟨w.heap.size,1,none⟩=some (.slice a t.args.length c):=hSw.box.cell 1;go_simp<;>with_reducible rfl)
  generalize w1.drew=wd at *
  have cc:w1.heap.size<=wd.heap.size:=BD.out.size
  refine DV (rs:=[5,10]) (by kernel_rfl) (by simp) ?_
  refine Cb rfl (λK hK=>?_) (Cb rfl (λK hK=>?_) DW)
  ·go_simp
   go_at_call 106
   refine(Pt _ ⟨_,_,_,rfl⟩ _ _ _ _ _).mono ?_
   rintro e w5 ⟨rfl,rfl⟩
   have b5:Below wd.heap.size wd ((wd.alloc (.cells #[.slice ua rs.length uc] 22)).alloc (.cells #[.string t.name,.slice a t.args.length c] 29)):=CO _ _
   have k5:=KD.out.below b5
   have R5:Ac ((wd.alloc (.cells #[.slice ua rs.length uc] 22)).alloc (.cells #[.string t.name,.slice a t.args.length c] 29)) wd.heap.size #[.slice ua rs.length uc] 22:=(Ac.new wd _ _).alloc _
   have T5:Ac ((wd.alloc (.cells #[.slice ua rs.length uc] 22)).alloc (.cells #[.string t.name,.slice a t.args.length c] 29)) (wd.heap.size+1) #[.string t.name,.slice a t.args.length c] 29:=by
    have h:=Ac.new (wd.alloc (.cells #[.slice ua rs.length uc] 22)) #[.string t.name,.slice a t.args.length c] 29
    rw[CN]at h
    exact h
   have z5:Hid (((wd.alloc (.cells #[.slice ua rs.length uc] 22)).alloc (.cells #[.string t.name,.slice a t.args.length c] 29)).heap.size=wd.heap.size+2):=by simp[Hid]
   have a7:=Aa R5
   have a8:=Aa T5
   have K5:=Aa k5
   have B5:=Aa (BD.out.trans (b5.mono BD.out.size))
   clear R5 T5 k5 b5
   generalize ((wd.alloc (.cells #[.slice ua rs.length uc] 22)).alloc (.cells #[.string t.name,.slice a t.args.length c] 29))=w5 at *
   go_simp
   refine hK.out _ _ (by exact K5.out) (λhHeld=>?_)
   clear hK K
   try simp only[Act.put,sq]
   refine DV (rs:=[6,10]) (by kernel_rfl) (by simp) ?_
   refine Cb rfl (λK hK=>?_) (Cb rfl (λK hK=>?_) DW)
   ·go_simp
    go_at_call 105
    refine(Nq rs t wd.heap.size (wd.heap.size+1) (w.heap.size+2) (wd.heap.size+2) _ a c w5 X a7.out K5.out.qv a8.out K5.out.sl (λb hb=>by have:=af.out b hb; omega) (by have e0:=z5.out; omega)).mono ?_
    rintro e w6 ⟨fs,fa,fn,fc,fm,ok,rfl,ao,aq⟩
    have aA:=Aa aq
    have ae:=Aa ao
    clear aq ao
    go_simp
    refine hK.out _ _ (by exact K5.out.below ae.out) (λhHeld=>?_)
    clear hK K
    try simp only[Act.put,sq]
    refine tkz 7 ?_
    refine tkz 8 ?_
    refine tkz 9 ?_
    refine rdq 10 rfl λK hK=>?_
    go_simp
    refine hK.out _ _ (by exact(K5.out.below ae.out).below ((Af _ _).alloc (Aj _) _)) (λhHeld=>?_)
    clear hK K
    try simp only[Act.put,sq]
    refine rdq 11 rfl λK hK=>?_
    go_simp
    refine hK.out _ _ (by exact(K5.out.below ae.out).below ((Af _ _).alloc (Aj _) _)) (λhHeld=>?_)
    clear hK K
    try simp only[Act.put,sq]
    refine tkz 12 ?_
    refine dnq ?_
    go_wp2_with fail
    go_meet
    exact iB aM af.out B5.out ae.out aA.out
   ·go_simp
    refine hK.out _ _ (by exact K5.out.below ((Af _ _).alloc (Aj _) _)) (λhHeld=>?_)
    clear hK K
    try simp only[Act.put,sq]
    have ah:Below w5.heap.size w5 (w5.alloc (.cells #[.string ⟨#[]⟩,.slice none 0 0,.map none] 148)):=(Af _ _).alloc (Aj _) _
    have aN:=Aa (K5.out.below ah)
    have b7:=Aa (B5.out.trans (ah.mono B5.out.size))
    have U5:=Aa (Ac.new w5 #[.string ⟨#[]⟩,.slice none 0 0,.map none] 148)
    have aO:=Aa (a7.out.below ah a7.out.lt)
    have aP:=Aa (a8.out.below ah a8.out.lt)
    have bf:Hid ((w5.alloc (.cells #[.string ⟨#[]⟩,.slice none 0 0,.map none] 148)).heap.size=wd.heap.size+3):=by have:=z5.out; simp[Hid]; omega
    clear ah
    generalize (w5.alloc (.cells #[.string ⟨#[]⟩,.slice none 0 0,.map none] 148))=b8 at *
    refine rdq 6 rfl λK hK=>?_
    go_simp
    go_at_call 105
    refine(Nq rs t wd.heap.size (wd.heap.size+1) (w.heap.size+2) w5.heap.size _ a c b8 X aO.out aN.out.qv aP.out aN.out.sl (λb hb=>by have:=af.out b hb; omega) (by have e0:=z5.out; have e1:=bf.out; omega)).mono ?_
    rintro e w6 ⟨fs,fa,fn,fc,fm,ok,rfl,ao,aq⟩
    have aA:=Aa aq
    have ae:=Aa ao
    clear aq ao
    go_simp
    refine hK.out _ _ (by exact aN.out.below ae.out) (λhHeld=>?_)
    clear hK K
    try simp only[Act.put,sq]
    refine tkz 7 ?_
    refine tkz 8 ?_
    refine tkz 9 ?_
    have U6:=U5.out.below ae.out U5.out.lt
    have u0:=U6.c0
    have u1:=U6.c1
    have u2:=U6.c2
    have uf:=U6.frozen
    have ul:w5.heap.size<w6.heap.size:=U6.lt
    have UP:=Aa (Tx (rs:=rs) (t:=t) (fc:=fc) aM af.out b7.out ae.out (B:=w5.heap.size) (by have:=B5.out.size; omega) (by have:=z5.out; have:=bf.out; omega) U6 aA.out)
    refine rdq 11 rfl λK hK=>?_
    go_simp
    refine hK.out _ _ (by exact K1.out.below UP.out.1) (λhHeld=>?_)
    clear hK K
    try simp only[Act.put,sq]
    refine tkz 12 ?_
    refine dnq ?_
    go_wp2_with fail
    go_meet
    exact UP.out.2
  ·go_simp
   refine hK.out _ _ (by exact KD.out.below ((Af _ _).alloc (Aj _) _)) (λhHeld=>?_)
   clear hK K
   try simp only[Act.put,sq]
   have ah:Below wd.heap.size wd (wd.alloc (.cells #[.string ⟨#[]⟩,.slice none 0 0,.map none] 148)):=(Af _ _).alloc (Aj _) _
   have KA:=Aa (KD.out.below ah)
   have BA:=Aa (BD.out.trans (ah.mono BD.out.size))
   have U5:=Aa (Ac.new wd #[.string ⟨#[]⟩,.slice none 0 0,.map none] 148)
   have za:Hid ((wd.alloc (.cells #[.string ⟨#[]⟩,.slice none 0 0,.map none] 148)).heap.size=wd.heap.size+1):=by simp[Hid]
   clear ah
   generalize (wd.alloc (.cells #[.string ⟨#[]⟩,.slice none 0 0,.map none] 148))=wa at *
   refine rdq 5 rfl λK hK=>?_
   go_simp
   go_at_call 106
   refine(Pt _ ⟨_,_,_,rfl⟩ _ _ _ _ _).mono ?_
   rintro e w5 ⟨rfl,rfl⟩
   have b5:Below wa.heap.size wa ((wa.alloc (.cells #[.slice ua rs.length uc] 22)).alloc (.cells #[.string t.name,.slice a t.args.length c] 29)):=CO _ _
   have k5:=KA.out.below b5
   have R5:Ac ((wa.alloc (.cells #[.slice ua rs.length uc] 22)).alloc (.cells #[.string t.name,.slice a t.args.length c] 29)) wa.heap.size #[.slice ua rs.length uc] 22:=(Ac.new wa _ _).alloc _
   have T5:Ac ((wa.alloc (.cells #[.slice ua rs.length uc] 22)).alloc (.cells #[.string t.name,.slice a t.args.length c] 29)) (wa.heap.size+1) #[.string t.name,.slice a t.args.length c] 29:=by
    have h:=Ac.new (wa.alloc (.cells #[.slice ua rs.length uc] 22)) #[.string t.name,.slice a t.args.length c] 29
    rw[CN]at h
    exact h
   have z5:Hid (((wa.alloc (.cells #[.slice ua rs.length uc] 22)).alloc (.cells #[.string t.name,.slice a t.args.length c] 29)).heap.size=wa.heap.size+2):=by simp[Hid]
   have a7:=Aa R5
   have a8:=Aa T5
   have K5:=Aa k5
   have B5:=Aa (BA.out.trans (b5.mono BA.out.size))
   have bg:=Aa (U5.out.below b5 U5.out.lt)
   clear R5 T5 k5 b5
   generalize ((wa.alloc (.cells #[.slice ua rs.length uc] 22)).alloc (.cells #[.string t.name,.slice a t.args.length c] 29))=w5 at *
   go_simp
   refine hK.out _ _ (by exact K5.out) (λhHeld=>?_)
   clear hK K
   try simp only[Act.put,sq]
   refine rdq 6 rfl λK hK=>?_
   go_simp
   go_at_call 105
   refine(Nq rs t wa.heap.size (wa.heap.size+1) (w.heap.size+2) wd.heap.size _ a c w5 X a7.out K5.out.qv a8.out K5.out.sl (λb hb=>by have:=af.out b hb; omega) (by have e0:=z5.out; have e1:=za.out; omega)).mono ?_
   rintro e w6 ⟨fs,fa,fn,fc,fm,ok,rfl,ao,aq⟩
   have aA:=Aa aq
   have ae:=Aa ao
   clear aq ao
   go_simp
   refine hK.out _ _ (by exact K5.out.below ae.out) (λhHeld=>?_)
   clear hK K
   try simp only[Act.put,sq]
   refine tkz 7 ?_
   refine tkz 8 ?_
   refine tkz 9 ?_
   have U6:=bg.out.below ae.out bg.out.lt
   have u0:=U6.c0
   have u1:=U6.c1
   have u2:=U6.c2
   have uf:=U6.frozen
   have ul:wd.heap.size<w6.heap.size:=U6.lt
   have UP:=Aa (Tx (rs:=rs) (t:=t) (fc:=fc) aM af.out B5.out ae.out (B:=wd.heap.size) (by omega) (by have:=z5.out; have:=za.out; omega) U6 aA.out)
   refine rdq 11 rfl λK hK=>?_
   go_simp
   refine hK.out _ _ (by exact K1.out.below UP.out.1) (λhHeld=>?_)
   clear hK K
   try simp only[Act.put,sq]
   refine tkz 12 ?_
   refine dnq ?_
   go_wp2_with fail
   go_meet
   exact UP.out.2
 obtain⟨B,fs,fa,fn,fc,fm,ok,rfl,rfl,hB,aQ,hbx,b9⟩:=hcut
 have KC:=Aa (K1.out.below aQ)
 have BC:=Aa (B1.out.trans (aQ.mono B1.out.size))
 have bh:=Aa hbx
 have hBl:=hbx.lt
 have bA:w.heap.size+2<=wc.heap.size:=KC.out.lt
 have aB:Hid (I≠w.heap.size+1):=by unfold Hid; omega
 clear aQ hbx K1 B1
 rcases b9 with ⟨h1,rfl⟩|⟨y,q,L,h1,rfl,rfl,rfl,rfl,aR,bB,bj,bk⟩
 ·have HN:=Aa h1
  clear h1
  have c0:=KC.out.box.c0
  have c1:=KC.out.box.c1
  have r0:=KC.out.res.c0
  have r1:=KC.out.res.c1
  have rf:=KC.out.res.frozen
  go_wp2_with fail
  refine Ap (v:=.tuple #[.agg #[.string t.name,.slice a t.args.length c],.int .i64 0]) (by simp[results,Tryz.results91,go_sem,AU,AG,r0,r1]) rfl ?_
  refine⟨((Al.ofBelow BC.out).setNew (by simp) 0 _).setNew (by simp) 1 _,t,a,c,0,rfl,?_,Ad ⟨rfl,d,FC.here hd ?_ ?_,?_⟩⟩
  ·refine(KC.out.sl.kept λb hb=>?_).mono λb hb _=>Ad ⟨bb.out b hb,af.out b hb⟩
   have:=af.out b hb
   rw[Aq _ _ _ _ (by simp; omega),Aq _ _ _ _ (by simp; omega)]
  ·exact IA.2 ⟨Kl.1 (Xs HN.out),Hs.2 aJ.out⟩
  ·rw[HC.out.2]; have:=HZ.out; omega
  ·rw[<-HZ.out]
   exact(KC.out.inn.setOther _ _ aB.out).setOther _ _ aB.out
 ·obtain⟨bl,bm,bn,bC⟩:=Xr HR.out h1
  obtain⟨bD,aH,bo,bE⟩:=Ep (HR.out y.1 bl)
  have aS:Hid (Dg rs true t=some (gT y.2 y.1.r)):=(Xw (Hs.2 aJ.out)).trans bn
  have bF:Hid (Gw y.2 (Gx rs)):=Xp (Xq rs) bo bm aJ.out
  have bG:Ab [y.1.r]<=2000:=by
   unfold Ay at aH
   split at aH
   ·cases aH
   ·omega
  have bp:=Aa bj
  have bq:=Aa bk
  have HY:Hid (∀b,FJ w X b/\b≠B->b≠I):=λb hb=>by
   rcases hb.1 with h|h
   ·exact HX.out b h.1
   ·omega
  clear bj bk bl bm bn bC bD aH bo bE h1
  have i1:=KC.out.inn.c1
  have i2:=KC.out.inn.c2
  have av:=KC.out.inn.frozen
  have bH:I<wc.heap.size:=KC.out.inn.lt
  have bI:=Aa (And.intro i2 i1)
  go_wp2_with fail
  go_region_held3 (λw'=>w'.cell? ⟨I,2,none⟩=some (.int .i64 (d:Int))/\w'.cell? ⟨I,1,none⟩=some (.int .i64 (m:Int))) (go_keep) (fail)
  have aT:Hid (Below w.heap.size w wc.drew):=below_drewN BC.out 1
  have ar:Hid (H9 rs t X I ua uc m d z a c w wc.drew):=KC.out.below (below_drewN (Af _ _) 1)
  have aC:Hid (Ac wc.drew B #[.string y.1.r.name,.slice fa y.1.r.args.length fc,.map (some q)] 148):=bh.out
  have aD:Hid (Sl wc.drew (λb=>FJ w X b/\b≠B) fa y.1.r.args):=bp.out.later (below_drewN (Af _ _) 1)
  have aF:Hid (Fg wc.drew q (λb=>FJ w X b/\b≠B) y.2 L):=bq.out.later (below_drewN (Af _ _) 1)
  have hzd:wc.drew.heap.size=wc.heap.size:=rfl
  clear KC BC bh bp bq bI i1 i2 av
  rw[<-hzd]at bH hBl bA bB
  clear hzd
  generalize wc.drew=wd at *
  have i1:=ar.out.inn.c1
  have i2:=ar.out.inn.c2
  have av:=ar.out.inn.frozen
  by_cases aU:d=m
  ·have bJ:(d:Int)=(m:Int):=by omega
   have bK:=Aa aU
   clear aU
   have r0:=ar.out.res.c0
   have r1:=ar.out.res.c1
   have rf:=ar.out.res.frozen
   go_wp2_with fail
   refine Ap (v:=.tuple #[.agg #[.string ⟨#[]⟩,.slice none 0 0],.int .i64 9]) (by simp[results,Tryz.results91,go_sem,AU,AG,r0,r1]) rfl ?_
   refine⟨((Al.ofBelow aT.out).setNew (by simp) 0 _).setNew (by simp) 1 _,⟨⟨#[]⟩,[]⟩,none,0,9,rfl,⟨by simp,Ad rfl⟩,Ae ⟨Ae rfl,rfl,?_⟩⟩
   rw[bK.out]
   exact Xu HC.out aS.out
  ·have bJ:¬((d:Int)=(m:Int)):=by omega
   have br:d<m:=by omega
   clear aU
   have hwd:IntKind.i64.wrap ((d:Int)+1)=((d+1:Nat):Int):=by rw[E4]; omega
   go_upto_region 7 with fail
   have aV:=Aa aR
   have K6:Hid (K7 rs t X I ua uc m (d+1) z a c w B y fa fc q L (wd.setCell ⟨I,2,none⟩ (.int .i64 ((d:Int)+1)))):=K7.set ⟨ar.out,aC.out,aD.out,aF.out⟩ az (by omega) HX.out aR 2 _ rfl
   have X6:Hid (Al (λb=>b=I) w (wd.setCell ⟨I,2,none⟩ (.int .i64 ((d:Int)+1)))):=Al.set (Q:=λb=>b=I) (B:=I) (Al.ofBelow aT.out) rfl 2 _
   clear ar aC aD aF aT i1 i2 av aR
   generalize (wd.setCell ⟨I,2,none⟩ (.int .i64 ((d:Int)+1)))=w6 at *
   go_cut [45] (λo wc=>C7 rs t X I ua uc m d z a c w B y fa fc q L wc)
   case first=>
    have BD:Hid (Below w6.heap.size w6 w6.drew):=below_drewN (Af _ _) 1
    have KD:Hid (K7 rs t X I ua uc m (d+1) z a c w B y fa fc q L w6.drew):=K6.out.below BD.out
    have XD:Hid (Al (λb=>b=I) w w6.drew):=X6.out.drew
    have au:Hid (∀kc,Ln kc (0+Ab [gT y.2 y.1.r])->kc<=4001):=λkc h=>h.1
    refine CU (S:=S7 t a c w B y fa fc q) (by kernel_rfl) ⟨KD.out.kn.box,KD.out.bx⟩ (λhHeld=>?_)
    refine tkz 0 ?_
    refine tkz 1 ?_
    refine tkz 2 ?_
    refine tkz 4 ?_ (hy:=by intro w' hSw;have b0:w'.cell? ⟨B,0,none⟩=some (.string y.1.r.name):=hSw.2.cell 0;have b1:w'.cell? ⟨B,1,none⟩=some (.slice fa y.1.r.args.length fc):=hSw.2.cell 1;have b2:w'.cell? ⟨B,2,none⟩=some (.map (some q)):=hSw.2.cell 2;go_simp<;>with_reducible rfl)
    refine tkz 5 ?_
    refine tkz 6 ?_ (hy:=by intro w' hSw;have b0:w'.cell? ⟨B,0,none⟩=some (.string y.1.r.name):=hSw.2.cell 0;have b1:w'.cell? ⟨B,1,none⟩=some (.slice fa y.1.r.args.length fc):=hSw.2.cell 1;have b2:w'.cell? ⟨B,2,none⟩=some (.map (some q)):=hSw.2.cell 2;go_simp<;>with_reducible rfl)
    refine tkz 8 ?_ (hy:=by intro w' hSw;have c0:w'.cell? ⟨w.heap.size,0,none⟩=some (.string t.name):=hSw.1.cell 0;have c1:w'.cell? ⟨w.heap.size,1,none⟩=some (.slice a t.args.length c):=hSw.1.cell 1;go_simp<;>with_reducible rfl)
    generalize w6.drew=bs at *
    refine DV (rs:=[3,7]) (by kernel_rfl) (by simp) ?_
    refine Cb rfl (λK hK=>?_) (Cb rfl (λK hK=>?_) DW)
    ·have i3:=KD.out.kn.inn.c3
     go_simp
     clear i3
     refine hK.out _ _ (by exact⟨KD.out.kn.box,KD.out.bx⟩) (λhHeld=>?_)
     clear hK K
     try simp only[Act.put,sq]
     refine rdq 7 rfl λK hK=>?_
     go_simp
     go_at_call 107
     refine(Tv y.2 L _ _ _ _ q y.1.r fa fc 0 bs _ KD.out.ra KD.out.en (by omega)).mono ?_
     rintro e v1 ⟨kc,rfl,ai,hb⟩
     have ag:=Aa ai
     have aI:=Aa (KD.out.below hb)
     have bL:=Aa (XD.out.trans (Al.ofBelow hb))
     clear hb ai
     go_simp
     refine hK.out _ _ (by exact⟨aI.out.kn.box,aI.out.bx⟩) (λhHeld=>?_)
     clear hK K
     try simp only[Act.put,sq]
     refine rdq 9 rfl λK hK=>?_
     go_simp
     go_at_call 67
     refine(Ii 2000 (by omega) (by omega) t _ v1 X ⟨a,c,rfl,aI.out.kn.sl⟩).mono ?_
     rintro e v2 ⟨rfl,hb⟩
     have aw:=Aa (aI.out.below hb)
     have bM:=Aa (bL.out.trans (Al.ofBelow hb))
     clear hb
     have em:min (Ab [t]:Int) (2000+1)=Ab [t]:=by omega
     rw[em]
     clear em
     go_simp
     refine hK.out _ _ (by exact⟨aw.out.kn.box,aw.out.bx⟩) (λhHeld=>?_)
     clear hK K
     try simp only[Act.put,sq]
     have bt:kc<=4001:=au.out kc ag.out
     have bu:Ab [t]<=z:=by have:=HZ.out; omega
     have a6:IntKind.i64.wrap ((kc:Int)-(Ab [t]:Int))=(kc:Int)-(Ab [t]:Int):=by rw[E4]; omega
     refine tkz 10 ?_
     have hw2:IntKind.i64.wrap ((z:Int)+((kc:Int)-(Ab [t]:Int)))=((z+kc-Ab [t]:Nat):Int):=by rw[E4]; omega
     refine tkz 11 ?_
     refine tkz 12 ?_
     refine tkz 13 ?_
     have i3:=aw.out.kn.inn.c3
     have av:=aw.out.kn.inn.frozen
     have il:I<v2.heap.size:=aw.out.kn.inn.lt
     have KF:Hid (K7 rs t X I ua uc m (d+1) (z+kc-Ab [t]) a c w B y fa fc q L (v2.setCell ⟨I,3,none⟩ (.int .i64 ((z+kc-Ab [t]:Nat):Int)))):=K7.set aw.out az (by omega) HX.out aV.out 3 _ rfl
     have XF:Hid (Al (λb=>b=I) w (v2.setCell ⟨I,3,none⟩ (.int .i64 ((z+kc-Ab [t]:Nat):Int)))):=Al.set (Q:=λb=>b=I) (B:=I) bM.out rfl 3 _
     refine rdq 14 rfl λK hK=>?_
     go_simp
     refine hK.out _ _ (by exact⟨KF.out.kn.box,KF.out.bx⟩) (λhHeld=>?_)
     clear hK K
     try simp only[Act.put,sq]
     refine dnq ?_
     go_wp2_with fail
     go_meet
     exact⟨kc,z+kc-Ab [t],ag.out,by omega,KF.out,XF.out⟩
    ·go_simp
     go_at_call 107
     refine(Tv y.2 L _ _ _ _ q y.1.r fa fc 0 bs _ KD.out.ra KD.out.en (by omega)).mono ?_
     rintro e v3 ⟨kc,rfl,ai,hb⟩
     have ag:=Aa ai
     have aj:=Aa (KD.out.below hb)
     have bw:=Aa (XD.out.trans (Al.ofBelow hb))
     clear hb ai
     go_simp
     refine hK.out _ _ (by exact⟨aj.out.kn.box,aj.out.bx⟩) (λhHeld=>?_)
     clear hK K
     try simp only[Act.put,sq]
     refine DV (rs:=[3,9]) (by kernel_rfl) (by simp) ?_
     refine Cb rfl (λK hK=>?_) (Cb rfl (λK hK=>?_) DW)
     ·have i3:=aj.out.kn.inn.c3
      go_simp
      clear i3
      refine hK.out _ _ (by exact⟨aj.out.kn.box,aj.out.bx⟩) (λhHeld=>?_)
      clear hK K
      try simp only[Act.put,sq]
      refine rdq 9 rfl λK hK=>?_
      go_simp
      go_at_call 67
      refine(Ii 2000 (by omega) (by omega) t _ v3 X ⟨a,c,rfl,aj.out.kn.sl⟩).mono ?_
      rintro e v4 ⟨rfl,hb⟩
      have ay:=Aa (aj.out.below hb)
      have bN:=Aa (bw.out.trans (Al.ofBelow hb))
      clear hb
      have em:min (Ab [t]:Int) (2000+1)=Ab [t]:=by omega
      rw[em]
      clear em
      go_simp
      refine hK.out _ _ (by exact⟨ay.out.kn.box,ay.out.bx⟩) (λhHeld=>?_)
      clear hK K
      try simp only[Act.put,sq]
      have bt:kc<=4001:=au.out kc ag.out
      have bu:Ab [t]<=z:=by have:=HZ.out; omega
      have a6:IntKind.i64.wrap ((kc:Int)-(Ab [t]:Int))=(kc:Int)-(Ab [t]:Int):=by rw[E4]; omega
      refine tkz 10 ?_
      have hw2:IntKind.i64.wrap ((z:Int)+((kc:Int)-(Ab [t]:Int)))=((z+kc-Ab [t]:Nat):Int):=by rw[E4]; omega
      refine tkz 11 ?_
      refine tkz 12 ?_
      refine tkz 13 ?_
      have i3:=ay.out.kn.inn.c3
      have av:=ay.out.kn.inn.frozen
      have il:I<v4.heap.size:=ay.out.kn.inn.lt
      have KF:Hid (K7 rs t X I ua uc m (d+1) (z+kc-Ab [t]) a c w B y fa fc q L (v4.setCell ⟨I,3,none⟩ (.int .i64 ((z+kc-Ab [t]:Nat):Int)))):=K7.set ay.out az (by omega) HX.out aV.out 3 _ rfl
      have XF:Hid (Al (λb=>b=I) w (v4.setCell ⟨I,3,none⟩ (.int .i64 ((z+kc-Ab [t]:Nat):Int)))):=Al.set (Q:=λb=>b=I) (B:=I) bN.out rfl 3 _
      refine rdq 14 rfl λK hK=>?_
      go_simp
      refine hK.out _ _ (by exact⟨KF.out.kn.box,KF.out.bx⟩) (λhHeld=>?_)
      clear hK K
      try simp only[Act.put,sq]
      refine dnq ?_
      go_wp2_with fail
      go_meet
      exact⟨kc,z+kc-Ab [t],ag.out,by omega,KF.out,XF.out⟩
     ·go_simp
      go_at_call 67
      refine(Ii 2000 (by omega) (by omega) t _ v3 X ⟨a,c,rfl,aj.out.kn.sl⟩).mono ?_
      rintro e v5 ⟨rfl,hb⟩
      have ak:=Aa (aj.out.below hb)
      have bO:=Aa (bw.out.trans (Al.ofBelow hb))
      clear hb
      have em:min (Ab [t]:Int) (2000+1)=Ab [t]:=by omega
      rw[em]
      clear em
      go_simp
      refine hK.out _ _ (by exact⟨ak.out.kn.box,ak.out.bx⟩) (λhHeld=>?_)
      clear hK K
      try simp only[Act.put,sq]
      have bt:kc<=4001:=au.out kc ag.out
      have bu:Ab [t]<=z:=by have:=HZ.out; omega
      have a6:IntKind.i64.wrap ((kc:Int)-(Ab [t]:Int))=(kc:Int)-(Ab [t]:Int):=by rw[E4]; omega
      refine tkz 10 ?_
      refine rdq 3 rfl λK hK=>?_
      have i3:=ak.out.kn.inn.c3
      go_simp
      clear i3
      refine hK.out _ _ (by exact⟨ak.out.kn.box,ak.out.bx⟩) (λhHeld=>?_)
      clear hK K
      try simp only[Act.put,sq]
      have hw2:IntKind.i64.wrap ((z:Int)+((kc:Int)-(Ab [t]:Int)))=((z+kc-Ab [t]:Nat):Int):=by rw[E4]; omega
      refine tkz 11 ?_
      refine tkz 12 ?_
      refine tkz 13 ?_
      have i3:=ak.out.kn.inn.c3
      have av:=ak.out.kn.inn.frozen
      have il:I<v5.heap.size:=ak.out.kn.inn.lt
      have KF:Hid (K7 rs t X I ua uc m (d+1) (z+kc-Ab [t]) a c w B y fa fc q L (v5.setCell ⟨I,3,none⟩ (.int .i64 ((z+kc-Ab [t]:Nat):Int)))):=K7.set ak.out az (by omega) HX.out aV.out 3 _ rfl
      have XF:Hid (Al (λb=>b=I) w (v5.setCell ⟨I,3,none⟩ (.int .i64 ((z+kc-Ab [t]:Nat):Int)))):=Al.set (Q:=λb=>b=I) (B:=I) bO.out rfl 3 _
      refine rdq 14 rfl λK hK=>?_
      go_simp
      refine hK.out _ _ (by exact⟨KF.out.kn.box,KF.out.bx⟩) (λhHeld=>?_)
      clear hK K
      try simp only[Act.put,sq]
      refine dnq ?_
      go_wp2_with fail
      go_meet
      exact⟨kc,z+kc-Ab [t],ag.out,by omega,KF.out,XF.out⟩
   obtain⟨kc,z2,ai,hz3,k7,x7⟩:=hcut
   have aa:=Aa k7
   have X7:=Aa x7
   have ag:=Aa ai
   have bz:=Aa hz3
   have cd:z2<=8000:=by have:=ai.1; omega
   clear k7 x7 ai hz3 K6 X6
   have i3:wc.cell? ⟨I,3,none⟩=some (.int .i64 (z2:Int)):=aa.out.kn.inn.cell 3
   have r0:=aa.out.kn.res.c0
   have r1:=aa.out.kn.res.c1
   have rf:=aa.out.kn.res.frozen
   have bP:w.heap.size+2<=wc.heap.size:=aa.out.kn.lt
   by_cases aG:2000<Ab [gT y.2 y.1.r]+k
   ·have bQ:(2000:Int)<(z2:Int):=by
     have h1:=HZ.out
     have h2:=bz.out
     obtain⟨h3,h4,h5⟩:=ag.out
     by_cases h6:0+Ab [gT y.2 y.1.r]<=2000
     ·have:=h4 h6; omega
     ·have:=h5 (by omega); omega
    have aW:=Aa aG
    clear aG
    go_wp2_with fail
    refine Ap (v:=.tuple #[.agg #[.string ⟨#[]⟩,.slice none 0 0],.int .i64 8]) (by simp[results,Tryz.results91,go_sem,AU,AG,r0,r1]) rfl ?_
    refine⟨(X7.out.setNew (by simp) 0 _).setNew (by simp) 1 _,⟨⟨#[]⟩,[]⟩,none,0,8,rfl,⟨by simp,Ad rfl⟩,Ae ⟨Ad rfl,rfl,?_⟩⟩
    exact Xv HC.out aS.out br aW.out
   ·have b3:z2=Ab [gT y.2 y.1.r]+k:=by
     have h1:=HZ.out
     have h2:=bz.out
     obtain⟨h3,h4,h5⟩:=ag.out
     have:=h4 (by omega)
     omega
    have bQ:¬((2000:Int)<(z2:Int)):=by omega
    have bR:=Aa b3
    clear b3
    have b0:=aa.out.bx.c0
    have b1:=aa.out.bx.c1
    have b2:=aa.out.bx.c2
    have b4:=HE.out (m-(d+1)) (by omega) C k (d+1) y.1.r y.2 (some q) fa fc wc (λb=>FJ w X b/\b≠B) HC.out (Aj _) (by omega) (aa.out.kn.qv.mono λb hb _=>⟨Ad ⟨hb,af.out b hb⟩,by have:=af.out b hb; omega⟩) aa.out.ra (Ae ⟨q,L,rfl,aa.out.en⟩) bF.out HY.out (by omega) bG (by rw[<-bR.out]; exact aa.out.kn.inn)
    have bS:=Aa b4
    clear b4
    go_wp2_with fail
    refine bS.out.mono ?_
    rintro e w3 ⟨x3,x,ax,cx,er,rfl,b6,hcs⟩
    have X3:=Aa x3
    have bT:=Aa b6
    have bU:=Aa hcs
    have cf:=x3.size
    have R3:=Aa (aa.out.kn.res.exq x3 (by have:=aB.out; omega))
    clear x3 b6 hcs b0 b1 b2 r0 r1 rf i3
    have r0:=R3.out.c0
    have r1:=R3.out.c1
    have rf:=R3.out.frozen
    go_wp2_with fail
    refine Ap (v:=.tuple #[.agg #[.string x.name,.slice ax x.args.length cx],.int .i64 er]) (by simp[results,Tryz.results91,go_sem,AU,AG,r0,r1]) rfl ?_
    have hst:=Xt (d:=d) HC.out aS.out br (by omega)
    refine⟨((X7.out.trans X3.out).setNew (by simp) 0 _).setNew (by simp) 1 _,x,ax,cx,er,rfl,?_,?_⟩
    ·have bV:Sl w3 (λb=>Nm w X b/\b≠w.heap.size+1) ax x.args:=bT.out.mono λb hb hl=>by
      have cg:w.heap.size+2<=wc.heap.size:=bP
      rcases hb with ⟨⟨hb,hne⟩,_⟩|hb
      ·rcases hb with hb|hb
       ·exact⟨Ad hb,by omega⟩
       ·exact⟨Ae (by omega),by omega⟩
      ·exact⟨Ae (by omega),by omega⟩
     refine(bV.kept λb hb=>?_).mono λb hb _=>?_
     ·rw[Aq _ _ _ _ (by simpa using hb.2),Aq _ _ _ _ (by simpa using hb.2)]
     ·rcases hb.1 with h|h
      ·exact Ad ⟨bb.out b h.1,h.2⟩
      ·exact Ae h
    ·rcases bU.out with ⟨h0,d',bW,bX⟩|⟨h0,hx0,bY⟩
     ·exact Ad ⟨h0,d',FC.trans (by omega) hst bW,(bX.setOther _ _ aB.out).setOther _ _ aB.out⟩
     ·refine Ae ⟨h0,hx0,?_⟩
      rw[hst,bY]
      exact Iy _ _ (by rcases h0 with h|h<;>omega)
end Go.Proofs.YtlkeafenklamjaaGreatDoor
