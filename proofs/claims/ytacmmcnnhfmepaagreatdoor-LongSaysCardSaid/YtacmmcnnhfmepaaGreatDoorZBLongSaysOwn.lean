/- Several texts in one. -/
import Derived.Test.YtacmmcnnhfmepaaGreatDoorZLongSaysOwn
import Derived.Lib.ItoaNum
import Derived.Deep.RegionLaw
import Derived.Deep.RegionHeld3
namespace Go.Proofs.YtacmmcnnhfmepaaGreatDoor
set_option linter.all false
set_option maxRecDepth 20000
set_option maxHeartbeats 8000000
open Go.RowKit Go.Proofs.Tryz
theorem Tryz.infoStr:(prog.info? 9).map (λi=>(i.zero,i.size,i.bytes))=some (some (.string ByteArray.empty),1,16):=by kernel_rfl
def CH (acc:List ByteArray) (s:ByteArray):List ByteArray:=if (Av s&&!Cd s acc)=true then acc++[s] else acc
def AR (acc:List ByteArray) (ks:List Tm):List ByteArray:=ks.foldl (λacc k=>CH acc k.name) acc
theorem JW {acc:List ByteArray} {s:ByteArray} (h:Av s=true) (h2:Cd s acc=false):CH acc s=acc++[s]:=by simp[CH,h,h2]
theorem JX {acc:List ByteArray} {s:ByteArray} (h:Av s=true) (h2:Cd s acc=true):CH acc s=acc:=by simp[CH,h,h2]
theorem Ll {acc:List ByteArray} {s:ByteArray} (h:Av s=false):CH acc s=acc:=by simp[CH,h]
theorem VE (acc:List ByteArray) (s:ByteArray):(CH acc s).length<=acc.length+1:=by
 unfold CH; split<;>simp
theorem Pt (acc:List ByteArray) (a b:List Tm):AR acc (a++b)=AR (AR acc a) b:=by simp[AR,List.foldl_append]
theorem Ln (a:List Tm):∀acc,(AR acc a).length<=acc.length+a.length:=by
 induction a with
 |nil=>intro acc; simp[AR]
 |cons k r b=>intro acc; have:=b (CH acc k.name); have h2:=VE acc k.name; simp only[AR,List.foldl_cons,Cg] at *; omega
theorem VG (acc:List ByteArray) (a:List Tm) (k:Nat) (h:k<a.length):AR acc (a.take (k+1))=CH (AR acc (a.take k)) a[k].name:=by
 rw[CB h,Pt]; rfl
theorem Nk (t:Tm) (v:Value) (w:World) (X:Nat->Prop) (T:TV w X v t) (z:Ah [t]<=1000000):
  Calls prog 28 #[v] w λe w'=>∃A,e=.returned A/\LV Value.string w' (λb=>w.heap.size<=b) A (AR [] (Aw [t]))/\Below w.heap.size w w':=by
 obtain⟨a,c,rfl,B⟩:=T;have U:=Aa (show TV w X (.agg (zG t a c)) t from ⟨a,c,rfl,B⟩);clear B;obtain⟨i0,hi,V,W,Y⟩:=Dq Tryz.infoStr;go_enter func28,ntmps28;go_wp2_with fail;refine(Vg t _ _ X (by exact U.o.alloc _) z).mono ?_;rintro e w2 ⟨v2,xs,rfl,f,C,D⟩;have E:0<Ah [t]:=by obtain⟨s',l'⟩:=t; simp[Ah]; omega
 obtain⟨g,cap,rfl,hg,aE,F⟩:=EU f E;have u:=Aa (((Ac w.heap.size w).alloc (Ag _) (.cells (zG t a c) 61)).trans (D.mono (by simp)));have Z:=Aa C;have ar:=Aa F;have G:=JQ [t];generalize H:Aw [t]=d at *;have au:=Aa H;clear H;have aF:d.length<=1000000:=by omega
 rw[<-G];clear f C F D G E z;go_wp2_with fail;go_loopw [4,5] (λq i wr=>∃k:Nat,k<=d.length/\i=zA k/\wr.ownsRow w2.heap.size 9 1 q (AR [] (d.take k)).length ((AR [] (d.take k)).map Value.string)/\Below w2.heap.size w2 wr) (λq i wr=>d.length-(intOf i).toNat);case atStart=>exact⟨0,Bm _,rfl,by simpa [AR] using Hn w2 w2.heap.size 9 1,Ac _ _⟩
 case round=>
  obtain⟨k,hk,rfl,f,hb⟩:=hrel;have m:=Aa f;have l:=Aa hb;by_cases I:k<d.length
  ·obtain⟨J,a',c',x1,a8⟩:=Z.o.get k I;have d0:=cell_later hb (ar.o _ _ J);have HT:=Aa (VG [] d k I);have L:=Ln (d.take k) [];have hlen:(AR [] (d.take k)).length<=1000000:=by
    have:(d.take k).length<=k:=List.length_take_le _ _;simp at L; omega
   clear J x1 a8 f hb L;generalize M:AR [] (d.take k)=acc at *;have aA:=Aa M;clear M;cases h:Av d[k].name with
   |false=>
    have r:=Aa (Ll (acc:=acc) h);have s:=Aa h;clear h;go_wp2_with (go_at_call 46; refine(GN _ _).mono ?_; rintro e w' ⟨rfl,rfl⟩; rw[s.o]);go_roundw
    case rel=>exact⟨k+1,by omega,by go_num,by rw[HT.o,r.o]; exact m.o,l.o⟩
    case measure=>simp[intOf]; omega
   |true=>
    have s:=Aa h;cases n:Cd d[k].name acc with
    |true=>
     have r:=Aa (JX h n);have y:=Aa n;clear h n;go_wp2_with (first|(go_at_call 46; refine(GN _ _).mono ?_; rintro e w' ⟨rfl,rfl⟩; rw[s.o])|(go_at_call 47; refine(Lk _ _ _ _ _ (LV.of_own m.o)).mono ?_; rintro e w' ⟨rfl,rfl⟩; rw[y.o]));go_roundw
     case rel=>exact⟨k+1,by omega,by go_num,by rw[HT.o,r.o]; exact m.o,l.o⟩
     case measure=>simp[intOf]; omega
    |false=>
     have r:=Aa (JW h n);have y:=Aa n;clear h n;obtain⟨q2,w3,N,O,R,_⟩:=run_append_own (P:=prog) (wr.alloc (.cells #[.string d[k].name] 9)) w2.heap.size 69 69 9 i0 _ 1 16 underlying69 hi V W Y rfl (by decide) _ acc.length (acc.map Value.string) (m.o.alloc _)
      (zD wr.heap.size 0) 1 1 [.string d[k].name] rfl (cell_one_new _ _ _) (λx hx=>by simp at hx; subst hx; rfl) (by unfold maxLen; omega) (by omega) (by have:=l.o.size; simp; omega)
     have HR:=Aa N;have aB:=Aa O;have aC:=Aa ((l.o.alloc l.o.size _).grown R (by have:=l.o.size; simp; omega) (λj hj=>(m.o.lt j hj).1));clear N O R;go_wp2_with (first|(go_at_call 46; refine(GN _ _).mono ?_; rintro e w' ⟨rfl,rfl⟩; rw[s.o])|(go_at_call 47; refine(Lk _ _ _ _ _ (LV.of_own m.o)).mono ?_; rintro e w' ⟨rfl,rfl⟩; rw[y.o])|(at_builtin; refine Io rfl _ _ _ _ rfl rfl rfl HR.o ?_));go_roundw
     case rel=>exact⟨k+1,by omega,by go_num,by rw[HT.o,r.o]; simpa using aB.o,aC.o⟩
     case measure=>simp[intOf]; omega
  ·have aD:d.take k=d:=Bv (by omega);rw[aD]at f;have HO:=Aa f;clear f hb;go_wp2_with fail;go_ret;exact⟨_,rfl,by rw[au.o]; exact(LV.of_own HO.o).mono λb hb _=>AN u.o.size hb,u.o.trans (l.o.mono u.o.size)⟩
theorem Lo {w w1 w2:World} {r a:Option Nat} (h:w.grownBy w1 r) (h1:w1.grownBy w2 a) (c:∀k,a=some k->r=some k∨w.heap.size<=k):w.grownBy w2 r:=
 ⟨h1.os.trans h.os,h1.tape.trans h.tape,h1.output.trans h.output,AN h.size h1.size,λk hk b=>(h1.block k (BO hk h.size) (λe=>by
  rcases c k e.symm with h2|h2
  ·exact b h2.symm
  ·omega)).trans (h.block k hk b)⟩
theorem Lp {w w':World} (hb:Below w.heap.size w w') (r:Option Nat):w.grownBy w' r:=⟨hb.os,hb.tape,hb.output,hb.size,λk hk _=>hb.block k hk⟩
theorem TV.grown {w w':World} {X:Nat->Prop} {v:Value} {t:Tm} {r:Option Nat} (h:TV w X v t) (a:w.grownBy w' r) (c:∀b,X b->some b≠r):TV w' X v t:=by
 have h1:TV w (λb=>X b/\b<w.heap.size) v t:=h.mono λb h1 h2=>⟨h1,h2⟩;have h2:TV w' (λb=>X b/\b<w.heap.size) v t:=h1.kept λb hx=>a.block b hx.2 (c b hx.1);exact h2.mono λb hx _=>hx.1
def Gc (w0:World) (B:Nat) (q0:Value) (acc:List ByteArray) (q:Value) (wr:World):Prop:=
 wr.ownsRow B 9 1 q acc.length (acc.map Value.string)/\w0.grownBy wr q0.ownBlock/\(∀k,q.ownBlock=some k->q0.ownBlock=some k∨w0.heap.size<=k)
theorem Gc.step {a w1 w2:World} {B:Nat} {b c d:Value} {f e:List ByteArray} (h1:Gc a B b f c w1) (h2:Gc w1 B c e d w2):Gc a B b e d w2:=by
 refine⟨h2.1,Lo h1.2.1 h2.2.1 h1.2.2,λk hk=>?_⟩;rcases h2.2.2 k hk with h|h
 ·exact h1.2.2 k h
 ·exact Ae (AN h1.2.1.size h)
theorem Gc.below {b w1 w2:World} {B:Nat} {c a:Value} {d:List ByteArray} (h1:Gc b B c d a w1) (hb:Below w1.heap.size w1 w2):Gc b B c d a w2:=
 ⟨h1.1.kept (w' := w2) (row := none) ⟨hb.os, hb.tape, hb.output, hb.size, λj e _ => hb.block j e⟩ (by rcases IV (Value.ownBlock a) with h | ⟨x, h⟩; exact Ad h; exact Ae (by rw [h]; simp)),
  Lo h1.2.1 (Lp hb a.ownBlock) h1.2.2,h1.2.2⟩
def Gu (d:Bd):List Bd->List Bd
 | []=>[d]
 |e::r=>if Cw d.nm e.nm=true then d::e::r else e::Gu d r
def Gd:List Bd->List Bd
 | []=>[]
 |d::r=>Gu d (Gd r)
theorem Nl (d:Bd):∀l,(Gu d l).Perm (d::l)
 | []=>List.Perm.refl _
 |e::r=>by
  rw[Gu];split
  ·exact List.Perm.refl _
  ·exact((Nl d r).cons e).trans (List.Perm.swap d e r)
theorem EL:∀l,(Gd l).Perm l
 | []=>List.Perm.refl _
 |d::r=>(Nl d _).trans ((EL r).cons d)
theorem Pu (d:Bd):∀l,Fk l->(∀e∈l,d.nm≠e.nm)->Fk (Gu d l)
 | [],_,_=>by simp[Gu,Fk]
 |e::r,h,b=>by
  obtain⟨h1,h2⟩:=KF.1 h;rw[Gu];split
  ·rename_i a;refine KF.2 ⟨λx hx=>?_,h⟩;rcases Cn.1 hx with rfl|hx
   ·exact a
   ·exact Nd a (h1 x hx)
  ·rename_i a;refine KF.2 ⟨λx hx=>?_,Pu d r h2 λe he=>b e (by simp[he])⟩;rcases Cn.1 ((Nl d r).subset hx) with rfl|hx
   ·cases h3:Cw e.nm x.nm with
    |true=>rfl
    |false=>exact absurd (Nf (by simpa using a) h3) (b e (by simp))
   ·exact h1 x hx
theorem Lq:∀l,Eo l->Fk (Gd l)
 | [],_=>by simp[Gd,Fk]
 |d::r,h=>by
  obtain⟨h1,h2⟩:=KF.1 h;exact Pu d _ (Lq r h2) λe he=>h1 e ((EL r).subset he)
inductive UO where
 |go (s:List Bd) (l:List Pr)
 |stop (e:Int) (s:List Bd)
def Az:List Tm->List Tm->List Pr
 |a::r,b::q=>⟨a,b⟩::Az r q
 |_,_=>[]
def BD (x:ByteArray) (t:Tm) (d:Bd):Bd:=⟨d.nm,Af [⟨x,t⟩] d.t⟩
def AU (s:List Bd):Bool:=s.any λd=>decide (2000<Ah [d.t])
def Co (lim:Bool) (s:List Bd) (l:List Pr) (x:ByteArray) (t:Tm):UO:=
 if Cd x (AR [] (Aw [t]))=true then .stop 6 s
 else if (lim&&AU (s.map (BD x t)))=true then .stop 8 s
 else .go (Gd (s.map (BD x t)++[⟨x,t⟩])) l
def Bp (lim:Bool) (s:List Bd) (l:List Pr) (a b:Tm):UO:=
 if 2000<Ah [a]∨2000<Ah [b] then .stop 8 s
 else if Av a.name=true then (if a.name=b.name then .go s l else Co lim s l a.name b)
 else if Av b.name=true then Co lim s l b.name a
 else if a.name=b.name/\a.args.length=b.args.length then .go s (Az a.args b.args++l)
 else .stop 5 s
def Eg (lim:Bool) (s:List Bd):List Pr->UO
 | []=>.stop 0 s
 |p::l=>Bp lim s l (Af s p.l) (Af s p.r)
theorem ED (lim:Bool) (s:List Bd) (p:Pr) (l:List Pr):Eg lim s (p::l)=Bp lim s l (Af s p.l) (Af s p.r):=rfl
def AZ (lim:Bool):Nat->List Bd->List Pr->Option (Int×List Bd)
 |0,_,_=>none
 |n+1,s,l=>match Eg lim s l with
  | .stop e s'=>some (e,s')
  | .go s' l'=>AZ lim n s' l'
theorem Lr (t:Tm):1<=Ah [t]:=by
 obtain⟨s,l⟩:=t;simp[Ah]
theorem VH (ls:List Bd):∀l:List Tm,Ah l<=Ah (An ls l):=by
 intro l;induction l using Tm.indL with
 |h0=>simp[An,Ah]
 |h s l r aa ab=>
  have e1:Ah (An ls (⟨s,l⟩::r))=Ah [Af ls ⟨s,l⟩]+Ah (An ls r):=(by rw[Br];generalize Af ls ⟨s,l⟩=x;obtain⟨s2,m⟩:=x;simp[Ah]);have e2:Ah (⟨s,l⟩::r)=(1+Ah l)+Ah r:=by simp[Ah]
  have h1:1+Ah l<=Ah [Af ls ⟨s,l⟩]:=by
   by_cases a:l=[]
   ·subst a;have:=Lr (Af ls ⟨s,[]⟩);simpa [Ah] using this
   ·rw[GP (Ad a)];simp only[Ah];omega
  rw[e1,e2];omega
theorem Nm (ls:List Bd) (t:Tm):Ah [t]<=Ah [Af ls t]:=by
 have h:=VH ls [t];rw[Br]at h;simpa [An] using h
theorem VI {l k:List Bd} (h:l.Perm k):AU l=AU k:=by
 unfold AU;rw[Bool.eq_iff_iff,ER,ER];exact⟨λ⟨d,hd,e⟩=>⟨d,h.subset hd,e⟩,λ⟨d,hd,e⟩=>⟨d,h.symm.subset hd,e⟩⟩
theorem VJ {s:List Bd} (x:ByteArray) (t:Tm) (h:AU s=true):AU (s.map (BD x t))=true:=by
 unfold AU at *;rw[ER]at *;obtain⟨d,hd,e⟩:=h;refine⟨BD x t d,Cv.2 ⟨d,hd,rfl⟩,?_⟩;have h1:=Nm [⟨x,t⟩] d.t;simp only[decide_eq_true_eq] at e ⊢;exact BO e h1
theorem JY {s:List Bd} (x:ByteArray) (t:Tm):AU (Gd (s.map (BD x t)++[⟨x,t⟩]))=(AU (s.map (BD x t))||decide (2000<Ah [t])):=by
 rw[VI (EL _)];unfold AU;rw[List.any_append];simp
theorem VK {lim:Bool} {s s':List Bd} {l l':List Pr} (h:Eg lim s l=.go s' l') (c:AU s=true):AU s'=true:=by
 cases l with
 |nil=>cases h
 |cons p l=>
  have bind:∀x t,Co lim s l x t=.go s' l'->AU s'=true:=λx t h=>by
   unfold Co at h;split at h
   ·cases h
   ·split at h
    ·cases h
    ·cases h;rw[JY,VJ x t c];rfl
  rw[ED]at h;unfold Bp at h;generalize Af s p.l=a at h;generalize Af s p.r=b at h;split at h
  ·cases h
  ·split at h
   ·split at h
    ·cases h; exact c
    ·exact bind _ _ h
   ·split at h
    ·exact bind _ _ h
    ·split at h
     ·cases h; exact c
     ·cases h
theorem Nn {lim:Bool} {s s':List Bd} {l:List Pr} {e:Int} (h:Eg lim s l=.stop e s'):s'=s:=by
 cases l with
 |nil=>cases h; rfl
 |cons p l=>
  have bind:∀x t,Co lim s l x t=.stop e s'->s'=s:=λx t h=>by
   unfold Co at h;split at h
   ·cases h; rfl
   ·split at h
    ·cases h; rfl
    ·cases h
  rw[ED]at h;unfold Bp at h;generalize Af s p.l=a at h;generalize Af s p.r=b at h;split at h
  ·cases h; rfl
  ·split at h
   ·split at h
    ·cases h
    ·exact bind _ _ h
   ·split at h
    ·exact bind _ _ h
    ·split at h
     ·cases h
     ·cases h; rfl
theorem Np {lim:Bool}:∀(n:Nat) (s:List Bd) (l:List Pr) (e:Int) (sf:List Bd),AZ lim n s l=some (e,sf)->AU s=true->AU sf=true
 |0,_,_,_,_,h,_=>by cases h
 |n+1,s,l,e,sf,h,b=>by
  rw[AZ]at h;cases a:Eg lim s l with
  |stop e' s'=>rw[a]at h;cases h;rw[Nn a]; exact b
  |go s' l'=>rw[a]at h;exact Np n s' l' e sf h (VK a b)
theorem VL {s:List Bd} {l:List Pr}:Eg true s l=Eg false s l∨(Eg true s l=.stop 8 s/\∃s' l',Eg false s l=.go s' l'/\AU s'=true):=by
 cases l with
 |nil=>exact Ad rfl
 |cons p l=>
  have bind:∀x t,Co true s l x t=Co false s l x t∨(Co true s l x t=.stop 8 s/\∃s' l',Co false s l x t=.go s' l'/\AU s'=true):=λx t=>by
   unfold Co;by_cases h1:Cd x (AR [] (Aw [t]))=true
   ·rw[Aq h1,Aq h1]; exact Ad rfl
   ·rw[Am h1,Am h1];cases h2:AU (s.map (BD x t)) with
    |true=>exact Ae ⟨rfl,_,_,rfl,by rw[JY,h2]; rfl⟩
    |false=>exact Ad rfl
  rw[ED,ED];unfold Bp;generalize Af s p.l=a;generalize Af s p.r=b;by_cases h1:2000<Ah [a]∨2000<Ah [b]
  ·rw[Aq h1,Aq h1]; exact Ad rfl
  ·rw[Am h1,Am h1];by_cases h2:Av a.name=true
   ·rw[Aq h2,Aq h2];by_cases h3:a.name=b.name
    ·rw[Aq h3,Aq h3]; exact Ad rfl
    ·rw[Am h3,Am h3]; exact bind _ _
   ·rw[Am h2,Am h2];by_cases h3:Av b.name=true
    ·rw[Aq h3,Aq h3]; exact bind _ _
    ·rw[Am h3,Am h3]; exact Ad rfl
theorem Pv:∀(n:Nat) (s:List Bd) (l:List Pr) (e:Int) (sf:List Bd),AZ false n s l=some (e,sf)->AU s=false->∃e' g,AZ true n s l=some (e',g)/\(AU sf=true->e'=8)/\(AU sf=false->e'=e/\g=sf)
 |0,_,_,_,_,h,_=>by cases h
 |n+1,s,l,e,sf,h,f=>by
  rw[AZ]at h;rcases VL (s:=s) (l:=l) with h1|⟨h1,s',l',h2,h3⟩
  ·rw[AZ,h1];cases d:Eg false s l with
   |stop e' s'=>rw[d]at h;cases h;refine⟨e,sf,rfl,λc=>?_,λ_=>⟨rfl,rfl⟩⟩;rw[Nn d,f]at c;cases c
   |go s' l'=>
    rw[d]at h;cases c:AU s' with
    |false=>exact Pv n s' l' e sf h c
    |true=>
     exfalso;rw[d]at h1;have h5:AU s'=false:=by
      cases l with
      |nil=>cases d
      |cons p l=>
       have bind:∀x t,Ah [t]<=2000->Co true s l x t=.go s' l'->AU s'=false:=λx t ht h=>by
        unfold Co at h;split at h
        ·cases h
        ·split at h
         ·cases h
         ·rename_i h6;cases h;rw[JY];simp only[Bool.true_and,Bool.not_eq_true] at h6;rw[h6];simp; omega
       rw[ED]at h1;unfold Bp at h1;generalize Af s p.l=a at h1;generalize Af s p.r=b at h1;split at h1
       ·cases h1
       ·rename_i h7;split at h1
        ·split at h1
         ·cases h1; exact f
         ·exact bind _ _ (by omega) h1
        ·split at h1
         ·exact bind _ _ (by omega) h1
         ·split at h1
          ·cases h1; exact f
          ·cases h1
     rw[h5]at c;cases c
  ·rw[h2]at h;have c:=Np n s' l' e sf h h3;refine⟨8,s,by rw[AZ,h1],λ_=>rfl,λh5=>?_⟩;rw[c]at h5;cases h5
def Cr (f:ByteArray->ByteArray):List Tm->List Tm
 | []=>[]
 | ⟨s,l⟩::r=>⟨f s,Cr f l⟩::Cr f r
def BN (f:ByteArray->ByteArray) (t:Tm):Tm:=⟨f t.name,Cr f t.args⟩
def CP (f:ByteArray->ByteArray) (d:Bd):Bd:=⟨f d.nm,BN f d.t⟩
def Ge (f:ByteArray->ByteArray) (p:Pr):Pr:=⟨BN f p.l,BN f p.r⟩
def Ls (f:ByteArray->ByteArray):UO->UO
 | .go s l=>.go (s.map (CP f)) (l.map (Ge f))
 | .stop e s=>.stop e (s.map (CP f))
theorem Gf (f:ByteArray->ByteArray) (t:Tm) (r:List Tm):Cr f (t::r)=BN f t::Cr f r:=by
 obtain⟨s,l⟩:=t;simp only[Cr,BN]
theorem I5 (f:ByteArray->ByteArray):∀l,Cr f l=l.map (BN f)
 | []=>by simp[Cr]
 |t::r=>by rw[Gf,I5 f r]; rfl
theorem Nq (f:ByteArray->ByteArray) (l:List Tm):(Cr f l).length=l.length:=by rw[I5]; simp
theorem VM (f:ByteArray->ByteArray) (l:List Tm):Ah (Cr f l)=Ah l:=by
 induction l using Tm.indL with
 |h0=>simp[Cr]
 |h s l r a b=>simp only[Cr,Ah,a,b]
theorem Lt (f:ByteArray->ByteArray) (t:Tm):Ah [BN f t]=Ah [t]:=by
 have:=VM f [t];rw[Gf,I5 f []]at this;exact this
theorem VN (f:ByteArray->ByteArray) (l:List Tm):(Cr f l).isEmpty=l.isEmpty:=by
 rw[I5]; simp
def AV (D:ByteArray->Prop) (l:List Tm):Prop:=∀k∈Aw l,D k.name
theorem AV.cons {D:ByteArray->Prop} {t:Tm} {r:List Tm}:AV D (t::r)↔D t.name/\AV D t.args/\AV D r:=by
 obtain⟨s,l⟩:=t;unfold AV;simp only[Aw,Cn,BJ];constructor
 ·intro h;exact⟨h ⟨s,l⟩ (Ad rfl),λk hk=>h k (Ae (Ad hk)),λk hk=>h k (Ae (Ae hk))⟩
 ·rintro⟨h1,h2,h3⟩ k (rfl|hk|hk)
  ·exact h1
  ·exact h2 k hk
  ·exact h3 k hk
theorem AV.nil {D:ByteArray->Prop}:AV D []:=λk hk=>by simp[Aw] at hk
theorem AV.one {D:ByteArray->Prop} {t:Tm}:AV D [t]↔D t.name/\AV D t.args:=by
 rw[AV.cons];exact⟨λh=>⟨h.1,h.2.1⟩,λh=>⟨h.1,h.2,AV.nil⟩⟩
theorem AV.all {D:ByteArray->Prop}:∀ {l:List Tm},AV D l↔∀t∈l,AV D [t]
 | []=>by simp[AV.nil]
 |t::r=>by
  rw[AV.cons,AV.all (l:=r)];simp only[Cn,forall_eq_or_imp,AV.one];exact⟨λh=>⟨⟨h.1,h.2.1⟩,h.2.2⟩,λh=>⟨h.1.1,h.1.2,h.2⟩⟩
def DP (D:ByteArray->Prop) (s:List Bd):Prop:=∀d∈s,D d.nm/\AV D [d.t]
def GQ (D:ByteArray->Prop) (l:List Pr):Prop:=∀p∈l,AV D [p.l]/\AV D [p.r]
structure Ep (D:ByteArray->Prop) (f:ByteArray->ByteArray):Prop where
 inj:∀a b,D a->D b->f a=f b->a=b
 var:∀a,D a->Av (f a)=Av a
 lt:∀a b,D a->D b->Cw (f a) (f b)=Cw a b
theorem Pw {D:ByteArray->Prop} {f:ByteArray->ByteArray} (a:Ep D f) {n:ByteArray} (b:D n):∀ {s:List Bd},DP D s->AC (s.map (CP f)) (f n)=(AC s n).map (BN f)
 | [],_=>rfl
 |d::r,h=>by
  have h1:=h d (by simp);have c:=Pw a b (s:=r) λe he=>h e (by simp[he]);simp only[Cu,AC,CP];by_cases e:d.nm=n
  ·rw[Aq e,Aq (by rw[e])]; rfl
  ·rw[Am e,Am (λe2=>e (a.inj _ _ h1.1 b e2)),<-c]
theorem Px {D:ByteArray->Prop} {n:ByteArray} {x:Tm}:∀ {s:List Bd},DP D s->AC s n=some x->AV D [x]
 | [],_,h=>by cases h
 |d::r,h,e=>by
  simp only[AC] at e;split at e
  ·cases e; exact(h d (by simp)).2
  ·exact Px (λe he=>h e (by simp[he])) e
theorem VO {D:ByteArray->Prop} {f:ByteArray->ByteArray} (c:Ep D f) {s:List Bd} (b:DP D s) (l:List Tm):AV D l->An (s.map (CP f)) (Cr f l)=Cr f (An s l)/\AV D (An s l):=by
 induction l using Tm.indL with
 |h0=>intro _; simp only[Cr,An]; exact⟨trivial,AV.nil⟩
 |h n l r d e=>
  intro h;obtain⟨h1,h2,h3⟩:=AV.cons.1 h;obtain⟨g,i2⟩:=d h2;obtain⟨i3,i4⟩:=e h3;have a:D n:=h1;simp only[Cr,An];rw[g,i3,Gf];have key:Gb (s.map (CP f)) (f n) (Cr f l) (Cr f (An s l))=BN f (Gb s n l (An s l))/\AV D [Gb s n l (An s l)]:=by
   unfold Gb;rw[Pw c a b];cases hq:AC s n with
   |none=>exact⟨rfl,AV.one.2 ⟨a,i2⟩⟩
   |some x=>
    simp only[Option.map_some,VN];cases l.isEmpty with
    |true=>exact⟨rfl,Px b hq⟩
    |false=>exact⟨rfl,AV.one.2 ⟨a,i2⟩⟩
  rw[key.1];exact⟨rfl,AV.cons.2 ⟨(AV.one.1 key.2).1,(AV.one.1 key.2).2,i4⟩⟩
theorem JZ {D:ByteArray->Prop} {f:ByteArray->ByteArray} (a:Ep D f) {s:List Bd} (b:DP D s) {t:Tm} (ht:AV D [t]):Af (s.map (CP f)) (BN f t)=BN f (Af s t)/\AV D [Af s t]:=by
 have h:=VO a b [t] ht;rw[Gf,Br,Br,Gf]at h;simp only[An] at h;exact⟨(List.cons.inj h.1).1,h.2⟩
theorem J0 {x:ByteArray} {l:List ByteArray}:Cd x l=true↔x∈l:=by
 unfold Cd;rw[ER];constructor
 ·rintro⟨y,hy,e⟩;have e1:y.toList=x.toList:=by simpa using e
  have e2:y=x:=(by have h:=Dl List.toArray e1;rw[GH,GH]at h;cases y; cases x;simpa using h);exact e2▸hy
 ·intro h;exact⟨x,h,by simp⟩
theorem Py {D:ByteArray->Prop} {f:ByteArray->ByteArray} (a:Ep D f) {x:ByteArray} (hx:D x) {l:List ByteArray} (b:∀y∈l,D y):Cd (f x) (l.map f)=Cd x l:=by
 rw[Bool.eq_iff_iff,J0,J0,Cv];constructor
 ·rintro⟨y,hy,e⟩;rw[<-a.inj _ _ (b y hy) hx e];exact hy
 ·intro h;exact⟨x,h,rfl⟩
theorem VP {D:ByteArray->Prop} {f:ByteArray->ByteArray} (b:Ep D f) {x:ByteArray} (hx:D x) {l:List ByteArray} (a:∀y∈l,D y):CH (l.map f) (f x)=(CH l x).map f/\∀y∈CH l x,D y:=by
 unfold CH;rw[b.var x hx,Py b hx a];split
 ·refine⟨by simp,λy hy=>?_⟩;rcases BJ.1 hy with h|h
  ·exact a y h
  ·rw[Gq.1 h]; exact hx
 ·exact⟨rfl,a⟩
theorem VQ (f:ByteArray->ByteArray) (l:List Tm):(Aw (Cr f l)).map (·.name)=((Aw l).map (·.name)).map f:=by
 induction l using Tm.indL with
 |h0=>simp[Cr,Aw]
 |h s l r a b=>simp only[Cr,Aw,Cu,CY,a,b]
theorem Pz (acc:List ByteArray):∀a:List Tm,AR acc a=(a.map (·.name)).foldl CH acc:=λa=>by
 unfold AR;rw[List.foldl_map]
theorem PC {D:ByteArray->Prop} {f:ByteArray->ByteArray} (b:Ep D f):∀(a acc:List ByteArray),(∀y∈a,D y)->(∀y∈acc,D y)->(a.map f).foldl CH (acc.map f)=(a.foldl CH acc).map f/\∀y∈a.foldl CH acc,D y
 | [],acc,_,h=>⟨rfl,h⟩
 |n::r,acc,c,h=>by
  have h1:=VP b (c n (by simp)) h;simp only[Cu,List.foldl_cons];rw[h1.1];exact PC b r _ (λy hy=>c y (by simp[hy])) h1.2
theorem PD {D:ByteArray->Prop} {f:ByteArray->ByteArray} (a:Ep D f) {t:Tm} (ht:AV D [t]):AR [] (Aw [BN f t])=(AR [] (Aw [t])).map f/\∀y∈AR [] (Aw [t]),D y:=by
 have e:Aw [BN f t]=Aw (Cr f [t]):=by rw[Gf,I5 f []]; rfl
 rw[Pz,Pz,e,VQ];refine PC a _ [] (λy hy=>?_) (by simp);obtain⟨k,hk,rfl⟩:=Cv.1 hy;exact ht k hk
theorem PE {D:ByteArray->Prop} {f:ByteArray->ByteArray} (a:Ep D f) {d:Bd} (hd:D d.nm):∀ {s:List Bd},DP D s->Gu (CP f d) (s.map (CP f))=(Gu d s).map (CP f)
 | [],_=>rfl
 |e::r,h=>by
  have h1:=h e (by simp);simp only[Cu,Gu];rw[show(CP f d).nm=f d.nm from rfl,show(CP f e).nm=f e.nm from rfl,a.lt _ _ hd h1.1,PE a hd (s:=r) λx hx=>h x (by simp[hx])];split<;>rfl
theorem PG {D:ByteArray->Prop} {s:List Bd} (h:DP D s):DP D (Gd s):=λd hd=>h d ((EL s).subset hd)
theorem PH {D:ByteArray->Prop} {f:ByteArray->ByteArray} (a:Ep D f):∀ {s:List Bd},DP D s->Gd (s.map (CP f))=(Gd s).map (CP f)
 | [],_=>rfl
 |e::r,h=>by
  have b:DP D r:=λx hx=>h x (by simp[hx]);simp only[Cu,Gd];rw[PH a b,PE a (h e (by simp)).1 (PG b)]
theorem PI (f:ByteArray->ByteArray) (s:List Bd):AU (s.map (CP f))=AU s:=by
 unfold AU;rw[List.any_map];congr 1
 funext d
 simp only[Function.comp,CP,Lt]
theorem VR {D:ByteArray->Prop} {f:ByteArray->ByteArray} (b:Ep D f) {x:ByteArray} (hx:D x) {t:Tm} (ht:AV D [t]) {s:List Bd} (a:DP D s):(s.map (CP f)).map (BD (f x) (BN f t))=(s.map (BD x t)).map (CP f)/\DP D (s.map (BD x t)):=by
 have h1:DP D [⟨x,t⟩]:=λd hd=>by rw[Gq.1 hd]; exact⟨hx,ht⟩
 constructor
 ·rw[List.map_map,List.map_map];refine List.map_congr_left λd hd=>?_;have h:=JZ b h1 (a d hd).2;simp only[Function.comp,BD,CP];rw[show [(⟨f x,BN f t⟩:Bd)]=[(⟨x,t⟩:Bd)].map (CP f) from rfl,h.1]
 ·intro d hd;obtain⟨d0,c,rfl⟩:=Cv.1 hd;exact⟨(a d0 c).1,(JZ b h1 (a d0 c).2).2⟩
def PJ (D:ByteArray->Prop):UO->Prop
 | .go s l=>DP D s/\GQ D l
 | .stop _ s=>DP D s
theorem PK {D:ByteArray->Prop} {f:ByteArray->ByteArray} (a:Ep D f) (lim:Bool) {s:List Bd} (b:DP D s) {l:List Pr} (g:GQ D l) {x:ByteArray} (hx:D x) {t:Tm} (ht:AV D [t]):Co lim (s.map (CP f)) (l.map (Ge f)) (f x) (BN f t)=Ls f (Co lim s l x t)/\PJ D (Co lim s l x t):=by
 have c:=PD a ht;have hp:=VR a hx ht b;unfold Co;rw[c.1,Py a hx c.2,hp.1,PI];have e:DP D (s.map (BD x t)++[⟨x,t⟩]):=λd hd=>by
  rcases BJ.1 hd with h|h
  ·exact hp.2 d h
  ·rw[Gq.1 h]; exact⟨hx,ht⟩
 split
 ·exact⟨rfl,b⟩
 ·split
  ·exact⟨rfl,b⟩
  ·refine⟨?_,PG e,g⟩;simp only[Ls];rw[<-PH a e];simp[CP]
theorem PL (f:ByteArray->ByteArray):∀a b:List Tm,Az (Cr f a) (Cr f b)=(Az a b).map (Ge f)
 | [],_=>by simp[Cr,Az]
 |t::r,[]=>by rw[Gf]; simp[Cr,Az]
 |t::r,u::q=>by rw[Gf,Gf]; simp only[Az,Cu]; rw[PL f r q]; rfl
theorem PM {D:ByteArray->Prop}:∀ {a b:List Tm},AV D a->AV D b->GQ D (Az a b)
 | [],_,_,_=>λp hp=>by simp[Az] at hp
 |t::r,[],_,_=>λp hp=>by simp[Az] at hp
 |t::r,u::q,c,hb=>λp hp=>by
  obtain⟨d,a2,a3⟩:=AV.cons.1 c;obtain⟨e,f,g⟩:=AV.cons.1 hb;simp only[Az] at hp;rcases Cn.1 hp with rfl|hp
  ·exact⟨AV.one.2 ⟨d,a2⟩,AV.one.2 ⟨e,f⟩⟩
  ·exact PM a3 g p hp
theorem VS {D:ByteArray->Prop} {f:ByteArray->ByteArray} (d:Ep D f) (lim:Bool) {s:List Bd} (c:DP D s) {l:List Pr} (g:GQ D l) {a b:Tm} (k:AV D [a]) (hb:AV D [b]):Bp lim (s.map (CP f)) (l.map (Ge f)) (BN f a) (BN f b)=Ls f (Bp lim s l a b)/\PJ D (Bp lim s l a b):=by
 obtain⟨i,a2⟩:=AV.one.1 k;obtain⟨j,m⟩:=AV.one.1 hb;have e:(BN f a).name=(BN f b).name↔a.name=b.name:=⟨λh=>d.inj _ _ i j h,λh=>Dl f h⟩;have e2:(BN f a).args.length=(BN f b).args.length↔a.args.length=b.args.length:=by
  show(Cr f a.args).length=(Cr f b.args).length↔_;rw[Nq,Nq]
 unfold Bp;rw[Lt,Lt,show Av (BN f a).name=Av a.name from d.var _ i,show Av (BN f b).name=Av b.name from d.var _ j];simp only[e,e2];split
 ·exact⟨rfl,c⟩
 ·split
  ·split
   ·exact⟨rfl,c,g⟩
   ·exact PK d lim c g i hb
  ·split
   ·exact PK d lim c g j k
   ·split
    ·refine⟨?_,c,λp hp=>?_⟩
     ·show UO.go _ (Az (Cr f a.args) (Cr f b.args)++_)=_;rw[PL];simp[Ls]
     ·rcases BJ.1 hp with h|h
      ·exact PM a2 m p h
      ·exact g p h
    ·exact⟨rfl,c⟩
theorem PN {D:ByteArray->Prop} {f:ByteArray->ByteArray} (c:Ep D f) (lim:Bool):∀(n:Nat) {s:List Bd} (a:DP D s) {l:List Pr} (d:GQ D l) {R:Int×List Bd},AZ lim n s l=some R->AZ lim n (s.map (CP f)) (l.map (Ge f))=some (R.1,R.2.map (CP f))/\DP D R.2
 |0,_,_,_,_,_,h=>by cases h
 |n+1,s,a,[],d,R,h=>by
  simp only[AZ,Eg] at h;cases h;exact⟨rfl,a⟩
 |n+1,s,a,p::l,d,R,h=>by
  have hp:=d p (by simp);have j:GQ D l:=λq hq=>d q (by simp[hq]);have g:=JZ c a hp.1;have i:=JZ c a hp.2;have k:=VS c lim a j g.2 i.2;rw[AZ,ED]at h;rw[AZ,Cu,ED,show(Ge f p).l=BN f p.l from rfl,show(Ge f p).r=BN f p.r from rfl,g.1,i.1,k.1];have b:=k.2;revert h b;cases Bp lim s l (Af s p.l) (Af s p.r) with
  |stop e s'=>intro h b;cases h;exact⟨rfl,b⟩
  |go s' l'=>intro h b;exact PN c lim n b.1 b.2 h
structure Lm where
 kind:Int
 idx:Int
 subs:List Lm
abbrev zE (t:Lm) (a:Option Addr) (c:Nat):Array Value:=#[zA t.kind,zA t.idx,.slice a t.subs.length c]
theorem Lm.ind {P:Lm->Prop} (h:∀k x l,(∀y∈l,P y)->P ⟨k,x,l⟩) (t:Lm):P t:=
 Lm.rec (motive_1:=P) (motive_2:=λl=>∀x∈l,P x) (λk x l b=>h k x l b) (λx hx=>by cases hx)
  (λa l c d x hx=>by
   rcases Cn.1 hx with e|e
   ·subst e; exact c
   ·exact d x e) t
theorem Lm.indL {P:List Lm->Prop} (h0:P []) (h:∀k x l r,P l->P r->P (⟨k,x,l⟩::r)) (l:List Lm):P l:=
 Lm.rec_1 (motive_1:=λt=>P t.subs) (motive_2:=P) (λ_ _ _ b=>b) h0 (λa l c d=>by obtain⟨k,x,m⟩:=a; exact h k x m l c d) l
def Ai:List Lm->Nat
 | []=>0
 | ⟨_,_,l⟩::r=>1+Ai l+Ai r
theorem J4 (a b:List Lm):Ai (a++b)=Ai a+Ai b:=by
 induction a with
 |nil=>simp[Ai]
 |cons t r c=>obtain⟨k,x,l⟩:=t; simp only[Di,Ai,c]; omega
theorem C9 (l:List Lm) (k:Nat) (h:k<l.length):Ai (l.take (k+1))=Ai (l.take k)+Ai [l[k]]:=by
 rw[CB h,J4]
theorem DE (l:List Lm) (k:Nat):Ai (l.take k)<=Ai l:=by
 have h:=J4 (l.take k) (l.drop k);rw[Fu]at h;omega
theorem I6 (l:List Lm):l.length<=Ai l:=by
 induction l with
 |nil=>simp
 |cons t r ih=>obtain⟨k,x,m⟩:=t; simp only[Cg,Ai]; omega
def Dc (w:World) (X:Nat->Prop):Nat->Nat->List Lm->Prop
 |_,_,[]=>True
 |b,o,⟨k,x,l⟩::r=>X b/\w.cell? (zD b o)=some (zA k)/\w.cell? ⟨b,o+1,none⟩=some (zA x)/\
   (∃a c,w.cell? ⟨b,o+2,none⟩=some (.slice a l.length c)/\l.length<=9223372036854775807/\(l=[]∨∃b' o',a=some (zD b' o')/\Dc w X b' o' l))/\Dc w X b (o+3) r
def Ap (w:World) (X:Nat->Prop) (a:Option Addr) (l:List Lm):Prop:=l.length<=9223372036854775807/\(l=[]∨∃b o,a=some (zD b o)/\Dc w X b o l)
def MV (w:World) (X:Nat->Prop) (v:Value) (t:Lm):Prop:=∃a c,v=.agg (zE t a c)/\Ap w X a t.subs
theorem VT {w w':World} {X:Nat->Prop} (h:∀b,X b->w'.heap[b]? = w.heap[b]?) (l:List Lm):∀b o,Dc w X b o l->Dc w' X b o l:=by
 induction l using Lm.indL with
 |h0=>intro b o _; simp[Dc]
 |h k x l r e f=>
  intro b o d;simp only[Dc] at d ⊢;obtain⟨hx,h1,g,⟨a,c,h2,i,h3⟩,j⟩:=d;refine⟨hx,by rw[DC (h b hx)]; exact h1,by rw[DC (h b hx)]; exact g,⟨a,c,by rw[DC (h b hx)]; exact h2,i,?_⟩,f _ _ j⟩;rcases h3 with h3|⟨b',o',h3,h5⟩
  ·exact Ad h3
  ·exact Ae ⟨b',o',h3,e _ _ h5⟩
theorem VU {w:World} {X Y:Nat->Prop} (h:∀b,X b->b<w.heap.size->Y b) (l:List Lm):∀b o,Dc w X b o l->Dc w Y b o l:=by
 induction l using Lm.indL with
 |h0=>intro b o _; simp[Dc]
 |h k x l r f g=>
  intro b o d;simp only[Dc] at d ⊢;obtain⟨hx,h1,i,⟨a,c,h2,j,h3⟩,m⟩:=d;have hb:b<w.heap.size:=by
   apply El;intro hn;have e:w.heap[b]? = none:=Ij (by omega);simp[World.cell?,e]at h1
  refine⟨h b hx hb,h1,i,⟨a,c,h2,j,?_⟩,g _ _ m⟩;rcases h3 with h3|⟨b',o',h3,h5⟩
  ·exact Ad h3
  ·exact Ae ⟨b',o',h3,f _ _ h5⟩
theorem Ap.kept {w w':World} {X:Nat->Prop} {a:Option Addr} {l:List Lm} (h:Ap w X a l) (hk:∀b,X b->w'.heap[b]? = w.heap[b]?):Ap w' X a l:=by
 obtain⟨c,h⟩:=h;refine⟨c,?_⟩;rcases h with h|⟨b,o,e,h⟩
 ·exact Ad h
 ·exact Ae ⟨b,o,e,VT hk _ _ _ h⟩
theorem Ap.mono {w:World} {X Y:Nat->Prop} {a:Option Addr} {l:List Lm} (h:Ap w X a l) (hk:∀b,X b->b<w.heap.size->Y b):Ap w Y a l:=by
 obtain⟨c,h⟩:=h;refine⟨c,?_⟩;rcases h with h|⟨b,o,e,h⟩
 ·exact Ad h
 ·exact Ae ⟨b,o,e,VU hk _ _ _ h⟩
theorem Ap.below {w w':World} {X:Nat->Prop} {a:Option Addr} {l:List Lm} {B:Nat} (h:Ap w X a l) (hb:Below B w w') (c:∀b,X b->b<w.heap.size->b<B):Ap w' X a l:=by
 have h1:Ap w (λb=>X b/\b<B) a l:=h.mono λb hx d=>⟨hx,c b hx d⟩;have h2:Ap w' (λb=>X b/\b<B) a l:=h1.kept λb hx=>hb.block b hx.2;exact h2.mono λb hx _=>hx.1
theorem MV.kept {w w':World} {X:Nat->Prop} {v:Value} {t:Lm} (h:MV w X v t) (hk:∀b,X b->w'.heap[b]? = w.heap[b]?):MV w' X v t:=by
 obtain⟨a,c,e,h⟩:=h;exact⟨a,c,e,h.kept hk⟩
theorem MV.mono {w:World} {X Y:Nat->Prop} {v:Value} {t:Lm} (h:MV w X v t) (hk:∀b,X b->b<w.heap.size->Y b):MV w Y v t:=by
 obtain⟨a,c,e,h⟩:=h;exact⟨a,c,e,h.mono hk⟩
theorem MV.below {w w':World} {X:Nat->Prop} {v:Value} {t:Lm} {B:Nat} (h:MV w X v t) (hb:Below B w w') (d:∀b,X b->b<w.heap.size->b<B):MV w' X v t:=by
 obtain⟨a,c,e,h⟩:=h;exact⟨a,c,e,h.below hb d⟩
theorem MV.alloc {w:World} {X:Nat->Prop} {v:Value} {t:Lm} (h:MV w X v t) (o:Obj):MV (w.alloc o) X v t:=
 h.below ((Ac _ _).alloc (Ag _) o) (λ_ _ h=>h)
theorem MV.later {w w':World} {X:Nat->Prop} {v:Value} {t:Lm} (h:MV w X v t) (hb:Below w.heap.size w w'):MV w' X v t:=h.below hb (λ_ _ h=>h)
theorem Ap.later {w w':World} {X:Nat->Prop} {a:Option Addr} {l:List Lm} (h:Ap w X a l) (hb:Below w.heap.size w w'):Ap w' X a l:=h.below hb (λ_ _ h=>h)
theorem EZ {w:World} {X:Nat->Prop}:∀(l:List Lm) (b o:Nat),Dc w X b o l->∀i (h:i<l.length),
  X b/\w.cell? ⟨b,o+i*3,none⟩=some (zA l[i].kind)/\w.cell? ⟨b,o+i*3+1,none⟩=some (zA l[i].idx)/\∃a c,w.cell? ⟨b,o+i*3+2,none⟩=some (.slice a l[i].subs.length c)/\Ap w X a l[i].subs:=by
 intro l;induction l with
 |nil=>intro b o _ i h; simp at h
 |cons t r e=>
  intro b o d i h;obtain⟨s,x,k⟩:=t;simp only[Dc] at d;obtain⟨hx,h1,f,⟨a,c,h2,h3⟩,g⟩:=d;cases i with
  |zero=>exact⟨hx,h1,f,a,c,h2,h3⟩
  |succ i=>have:=e b (o+3) g i (by simpa using h);simp only[Fg];rw[show o+(i+1)*3=o+3+i*3 by omega];exact this
theorem Ap.get {w wr:World} {X:Nat->Prop} {a:Option Addr} {l:List Lm} {B:Nat} (h:Ap w X a l) (hb:Below B w wr) (d:∀b,X b->b<w.heap.size->b<B) (k:Nat) (hk:k<l.length):
  ∃b o c c',a=some (zD b o)/\wr.cell? ⟨b,o+k*3,none⟩=some (zA l[k].kind)/\wr.cell? ⟨b,o+k*3+1,none⟩=some (zA l[k].idx)/\wr.cell? ⟨b,o+k*3+2,none⟩=some (.slice c l[k].subs.length c')/\MV wr X (.agg (zE l[k] c c')) l[k]:=by
 have h':=h.below hb d;obtain⟨_,h1⟩:=h';rcases h1 with h1|⟨b,o,e,h1⟩
 ·subst h1; simp at hk
 ·obtain⟨_,h2,f,c,c',h3,g⟩:=EZ _ _ _ h1 k hk;exact⟨b,o,c,c',e,h2,f,h3,c,c',rfl,g⟩
theorem J5 (t:Lm):∀(v:Value) (most:Int) (w:World) (X:Nat->Prop),MV w X v t->0<=most->most<=1000000->
  Calls prog 10 #[v,zA most] w λe w'=>e=.returned (zA (min (Ai [t]) (most+1)))/\Below w.heap.size w w':=by
 induction t using Lm.ind with
 |h d f l m=>
  intro v most w X s ah ai;obtain⟨a,c,rfl,q⟩:=s;have u:=Aa m;clear m;go_enter func10,ntmps10;go_wp2_with fail;go_loopw [5,6] (λn i wr=>∃k:Nat,k<=l.length/\i=zA k/\n=zA (min (1+Ai (l.take k)) (most+1))/\Below (w.heap.size+1) (w.alloc (Obj.cells #[Value.int .i64 d,Value.int .i64 f,Value.slice a l.length c] 24)) wr) (λn i wr=>l.length-(intOf i).toNat);case atStart=>exact⟨0,Bm _,rfl,by simp[Ai]; omega,Ac _ _⟩
  case round=>
   obtain⟨k,hk,rfl,rfl,hb⟩:=hrel;have hc:=KU hb;have c0:wr.cell? (zD w.heap.size 0)=some (zA d):=by rw[hc.1 _ _ (by omega)]; simp
   have aj:wr.cell? (zD w.heap.size 1)=some (zA f):=by rw[hc.1 _ _ (by omega)]; simp
   have c1:wr.cell? (zD w.heap.size 2)=some (.slice a l.length c):=by rw[hc.1 _ _ (by omega)]; simp
   have hl:=q.1;have hn:0<=((1:Int)+Ai (l.take k)):=(by omega);by_cases g:k<l.length
   ·obtain⟨b,o,a',c',rfl,d0,ak,d1,hx⟩:=q.get (((Ac _ _).alloc (Ag _) _).trans (hb.mono (Nat.le_succ _))) (λ_ _ h=>h) k g;by_cases hle:1+(Ai (l.take k):Int)<=most
    ·have j:min (1+(Ai (l.take k):Int)) (most+1)=1+(Ai (l.take k):Int):=(by omega);rw[j];go_wp2_with fail;refine(u.o _ (Bu g) _ _ _ X hx (by omega) (by omega)).mono ?_;rintro e w1 ⟨rfl,x⟩;have y:w.heap.size+1<=wr.heap.size:=by have:=hb.size; simpa using this
     have z:=Aa (C9 l k g);have al:0<=min ((Ai [l[k]]:Int)) (most-(1+(Ai (l.take k):Int))+1):=(by omega);have an:min ((Ai [l[k]]:Int)) (most-(1+(Ai (l.take k):Int))+1)<=1000001:=(by omega);go_wp2_with fail;go_roundw
     case rel=>exact⟨k+1,by omega,by go_num,by rw[z.o]; congr 1; omega,hb.trans (x.mono y)⟩
     case measure=>simp[intOf]; omega
    ·have j:min (1+(Ai (l.take k):Int)) (most+1)=most+1:=(by omega);rw[j];have hz:(Ai [(⟨d,f,l⟩:Lm)]:Int)=1+Ai l:=(by simp[Ai]);have af:Ai (l.take k)<=Ai l:=DE l k;have A:=Aa (show(most+1:Int)=min (Ai [(⟨d,f,l⟩:Lm)]:Int) (most+1) by omega);clear hz;go_wp2_with fail;go_ret;exact⟨AF A.o,Fw hb⟩
   ·have B:l.take k=l:=Bv (by omega);rw[B];have hz:(Ai [(⟨d,f,l⟩:Lm)]:Int)=1+Ai l:=(by simp[Ai]);have r:=Aa hz;clear hz;go_wp2_with fail
    ·go_ret;exact⟨AF (by have:=r.o; omega),Fw hb⟩
    ·go_ret;exact⟨AF (by have:=r.o; omega),Fw hb⟩
theorem VV (t:Lm) (v:Value) (w:World) (X:Nat->Prop) (b:MV w X v t):
  Calls prog 5 #[v] w λe w'=>e=.returned (.bool (decide (3000<Ai [t])))/\Below w.heap.size w w':=by
 obtain⟨a,c,rfl,f⟩:=b;have b:MV w X (.agg (zE t a c)) t:=⟨a,c,rfl,f⟩;go_enter func5,ntmps5;go_wp2_with fail;refine(J5 t _ _ _ X (b.alloc _) (by omega) (by omega)).mono ?_;rintro e w1 ⟨rfl,d⟩;by_cases h:3000<Ai [t]
 ·have e:min (Ai [t]:Int) (3000+1)=3001:=by omega
  rw[e];go_wp2_with fail;go_ret;exact⟨by simp[h],((Ac _ _).alloc (Ag _) _).trans (d.mono (by simp))⟩
 ·have e:min (Ai [t]:Int) (3000+1)=Ai [t]:=by omega
  rw[e];go_wp2_with fail;go_ret;exact⟨by simp[h]<;>omega,((Ac _ _).alloc (Ag _) _).trans (d.mono (by simp))⟩
theorem VW (b d:Int) (a:Option Addr) (n c:Nat) (w:World):
  Calls prog 61 #[.agg #[zA b,zA d,.slice a n c]] w λe w'=>e=.returned (.slice a n c)/\w'=w.alloc (.cells #[zA b,zA d,.slice a n c] 24):=by
 go_enter func61,ntmps61;go_wp2_with fail;go_ret;exact⟨rfl,rfl⟩
theorem VX (M:Int) (ai:0<=M) (aj:M<=1000000) (t:Lm):∀(v:Value) (n:Int) (w:World) (X:Nat->Prop),MV w X v t->0<=n->n<=M->
  Calls prog 125 #[v,.func (.func 61) #[] #[],zA M,zA n] w λe w'=>e=.returned (zA (min (n+Ai [t]) (M+1)))/\Below w.heap.size w w':=by
 induction t using Lm.ind with
 |h d f l q=>
  intro v n w X s ak al;obtain⟨a,c,rfl,r⟩:=s;have u:=Aa q;clear q;have hz:Hid ((Ai [(⟨d,f,l⟩:Lm)]:Int)=1+Ai l):=by simp[Hid,Ai]
  go_enter func125,ntmps125;go_wp2_with (go_at_call 61; refine(VW _ _ _ _ _ _).mono ?_; rintro e w' ⟨rfl,rfl⟩);have x:Hid (Below w.heap.size w ((w.alloc (Obj.cells #[Value.int .i64 d,Value.int .i64 f,Value.slice a l.length c] 24)).alloc (Obj.cells #[Value.int .i64 d,Value.int .i64 f,Value.slice a l.length c] 24))):=((Ac _ _).alloc (Ag _) _).alloc (by simp) _;have an:Hid (w.heap.size+2<=((w.alloc (Obj.cells #[Value.int .i64 d,Value.int .i64 f,Value.slice a l.length c] 24)).alloc (Obj.cells #[Value.int .i64 d,Value.int .i64 f,Value.slice a l.length c] 24)).heap.size):=by simp[Hid]
  generalize ((w.alloc (Obj.cells #[Value.int .i64 d,Value.int .i64 f,Value.slice a l.length c] 24)).alloc (Obj.cells #[Value.int .i64 d,Value.int .i64 f,Value.slice a l.length c] 24))=w0 at *;go_loopw [9,18] (λm i wr=>∃k:Nat,k<=l.length/\i=zA k/\m=zA (min (n+1+Ai (l.take k)) (M+1))/\Below w.heap.size w wr) (λm i wr=>l.length-(intOf i).toNat);case atStart=>exact⟨0,Bm _,rfl,by rw[show Ai (l.take 0)=0 by simp[Ai]]; congr 1; omega,x.o⟩
  case round=>
   obtain⟨k,hk,rfl,rfl,hb⟩:=hrel;have hl:=r.1;have y:w.heap.size<=wr.heap.size:=hb.size;by_cases g:k<l.length
   ·obtain⟨b,o,a',c',rfl,d0,ao,d1,hx⟩:=r.get hb (λ_ _ h=>h) k g;by_cases hle:n+1+(Ai (l.take k):Int)<=M
    ·have j:min (n+1+(Ai (l.take k):Int)) (M+1)=n+1+(Ai (l.take k):Int):=(by omega);rw[j];go_wp2_with fail;refine(u.o _ (Bu g) _ _ _ X (hx.alloc _) (by omega) (by omega)).mono ?_;rintro e w1 ⟨rfl,z⟩;have A:=Aa (C9 l k g);go_wp2_with fail;go_roundw
     case rel=>exact⟨k+1,by omega,by go_num,by rw[A.o]; congr 1; omega,(hb.alloc y _).trans (z.mono (by simp; omega))⟩
     case measure=>simp[intOf]; omega
    ·have j:min (n+1+(Ai (l.take k):Int)) (M+1)=M+1:=(by omega);rw[j];have ag:Ai (l.take k)<=Ai l:=DE l k;go_wp2_with fail;go_ret;refine⟨AF (by have:=hz.o; omega),?_⟩;exact hb.alloc (by omega) _
   ·have B:l.take k=l:=Bv (by omega);rw[B];go_wp2_with fail;go_ret;exact⟨AF (by have:=hz.o; omega),hb⟩
theorem VY (M:Int) (d:0<=M) (f:M<=1000000) (t:Lm) (v:Value) (w:World) (X:Nat->Prop) (b:MV w X v t):
  Calls prog 110 #[v,.func (.func 61) #[] #[],zA M] w λe w'=>e=.returned (zA (min (Ai [t]:Int) (M+1)))/\Below w.heap.size w w':=by
 obtain⟨a,c,rfl,g⟩:=b;have b:MV w X (.agg (zE t a c)) t:=⟨a,c,rfl,g⟩;go_enter func110,ntmps110;go_wp2_with fail;refine(VX M d f t _ _ _ X (b.alloc _) (by omega) (by omega)).mono ?_;rintro e w1 ⟨rfl,h⟩;go_wp2_with fail;go_ret;exact⟨AF (by omega),((Ac _ _).alloc (Ag _) _).trans (h.mono (by simp))⟩
theorem PO (M:Int) (d:0<=M) (f:M<=1000000) (t:Lm) (v:Value) (w:World) (X:Nat->Prop) (b:MV w X v t):
  Calls prog 95 #[v,zA M] w λe w'=>e=.returned (zA (min (Ai [t]:Int) (M+1)))/\Below w.heap.size w w':=by
 obtain⟨a,c,rfl,g⟩:=b;have b:MV w X (.agg (zE t a c)) t:=⟨a,c,rfl,g⟩;go_enter func95,ntmps95;go_wp2_with fail;refine(VY M d f t _ _ X (b.alloc _)).mono ?_;rintro e w1 ⟨rfl,h⟩;go_wp2_with fail;go_ret;exact⟨AF (by omega),((Ac _ _).alloc (Ag _) _).trans (h.mono (by simp))⟩
def Bw (k:Int):Nat:=if k=2 then 1 else if k=3 then 2 else 0
def Bj (u m k:Int):Int:=if k=1 then u else if k=4 then 40 else if k=5 then m else 1
def AO (u k:Int):Int:=if k=2 then u+1 else u
def AD (u m k x:Int) (n:Nat):Int:=if k<1∨5<k then 2 else if n≠Bw k then 2 else if x<0∨Bj u m k<=x then 15 else 0
def Au:Int->Int->List Lm->Int
 |_,_,[]=>0
 |u,m,⟨k,x,l⟩::r=>if AD u m k x l.length=0 then (if Au (AO u k) m l=0 then Au u m r else Au (AO u k) m l) else AD u m k x l.length
theorem Lu (u m:Int) (t:Lm) (r:List Lm):Au u m (t::r)=if Au u m [t]=0 then Au u m r else Au u m [t]:=by
 obtain⟨k,x,l⟩:=t;simp only[Au];split
 ·split<;>simp_all
 ·simp_all
theorem PP (u m:Int) (a b:List Lm):Au u m (a++b)=if Au u m a=0 then Au u m b else Au u m a:=by
 induction a with
 |nil=>simp[Au]
 |cons t r c=>rw[Di,Lu,Lu u m t r,c];by_cases h:Au u m [t]=0<;>simp[h]
theorem Lv (u m:Int) (l:List Lm) (k:Nat) (h:k<l.length):Au u m (l.take (k+1))=if Au u m (l.take k)=0 then Au u m [l[k]] else Au u m (l.take k):=by
 rw[CB h,PP]
theorem Lw {u m:Int} {l:List Lm} {k:Nat} (h:Au u m (l.take k)≠0):Au u m l=Au u m (l.take k):=by
 have:=PP u m (l.take k) (l.drop k);rw[Fu,Am h]at this;exact this
theorem GR {u m a b:Int} {l:List Lm} (h:AD u m a b l.length=0):Au u m [⟨a,b,l⟩]=Au (AO u a) m l:=by
 simp only[Au,h,if_true];by_cases h0:Au (AO u a) m l=0<;>simp[h0]
theorem DY {u m a b:Int} {l:List Lm} (h:AD u m a b l.length≠0):Au u m [⟨a,b,l⟩]=AD u m a b l.length:=by
 simp[Au,h]
def BI (u m:Int) (t:Lm):Int:=if u<0∨40<u then 10 else if 200<Ai [t] then 3 else Au u m [t]
theorem VZ (h d u m:Int) (a:Option Addr) (n c:Nat) (w:World) (hn:n<=9223372036854775807):
  Calls prog 115 #[.agg #[zA h,zA d,.slice a n c],zA u,zA m] w λe w'=>e=.returned (zA (AD u m h d n))/\Below w.heap.size w w':=by
 have f:Hid (Below w.heap.size w (w.alloc (.cells #[zA h,zA d,.slice a n c] 24))):=(Ac _ _).alloc (Ag _) _;by_cases l:h=1;case pos=>
  subst l;by_cases g:n=0;case pos=>
   subst g;by_cases hi:d<0
   ·have b:Hid (AD u m 1 d 0=15):=Aa (by unfold AD Bj Bw;simp[hi]);go_enter func115,ntmps115;go_wp2_with fail;go_ret;exact⟨AF b.o.symm,f.o⟩
   ·by_cases i:(u:Int)<=d
    ·have b:Hid (AD u m 1 d 0=15):=Aa (by unfold AD Bj Bw;simp[hi,i]);go_enter func115,ntmps115;go_wp2_with fail;go_ret;exact⟨AF b.o.symm,f.o⟩
    ·have b:Hid (AD u m 1 d 0=0):=Aa (by unfold AD Bj Bw;simp[hi,i]);go_enter func115,ntmps115;go_wp2_with fail;go_ret;exact⟨AF b.o.symm,f.o⟩
  case neg=>have b:Hid (AD u m 1 d n=2):=Aa (by unfold AD Bj Bw;simp[g]);have j:¬(n:Int)=0:=(by omega);have k:((n:Int) !=0)=true:=(by simpa using j);clear g;go_enter func115,ntmps115;go_wp2_with fail;go_ret;exact⟨AF b.o.symm,f.o⟩
 case neg=>
  by_cases q:h=2;case pos=>
   subst q;by_cases g:n=1;case pos=>
    subst g;by_cases hi:d<0
    ·have b:Hid (AD u m 2 d 1=15):=Aa (by unfold AD Bj Bw;simp[hi]);go_enter func115,ntmps115;go_wp2_with fail;go_ret;exact⟨AF b.o.symm,f.o⟩
    ·by_cases i:(1:Int)<=d
     ·have b:Hid (AD u m 2 d 1=15):=Aa (by unfold AD Bj Bw;simp[hi,i]);go_enter func115,ntmps115;go_wp2_with fail;go_ret;exact⟨AF b.o.symm,f.o⟩
     ·have b:Hid (AD u m 2 d 1=0):=Aa (by unfold AD Bj Bw;simp[hi,i]);go_enter func115,ntmps115;go_wp2_with fail;go_ret;exact⟨AF b.o.symm,f.o⟩
   case neg=>have b:Hid (AD u m 2 d n=2):=Aa (by unfold AD Bj Bw;simp[g]);have j:¬(n:Int)=1:=(by omega);have k:((n:Int) !=1)=true:=(by simpa using j);clear g;go_enter func115,ntmps115;go_wp2_with fail;go_ret;exact⟨AF b.o.symm,f.o⟩
  case neg=>
   by_cases r:h=3;case pos=>
    subst r;by_cases g:n=2;case pos=>
     subst g;by_cases hi:d<0
     ·have b:Hid (AD u m 3 d 2=15):=Aa (by unfold AD Bj Bw;simp[hi]);go_enter func115,ntmps115;go_wp2_with fail;go_ret;exact⟨AF b.o.symm,f.o⟩
     ·by_cases i:(1:Int)<=d
      ·have b:Hid (AD u m 3 d 2=15):=Aa (by unfold AD Bj Bw;simp[hi,i]);go_enter func115,ntmps115;go_wp2_with fail;go_ret;exact⟨AF b.o.symm,f.o⟩
      ·have b:Hid (AD u m 3 d 2=0):=Aa (by unfold AD Bj Bw;simp[hi,i]);go_enter func115,ntmps115;go_wp2_with fail;go_ret;exact⟨AF b.o.symm,f.o⟩
    case neg=>have b:Hid (AD u m 3 d n=2):=Aa (by unfold AD Bj Bw;simp[g]);have j:¬(n:Int)=2:=(by omega);have k:((n:Int) !=2)=true:=(by simpa using j);clear g;go_enter func115,ntmps115;go_wp2_with fail;go_ret;exact⟨AF b.o.symm,f.o⟩
   case neg=>
    by_cases s:h=4;case pos=>
     subst s;by_cases g:n=0;case pos=>
      subst g;by_cases hi:d<0
      ·have b:Hid (AD u m 4 d 0=15):=Aa (by unfold AD Bj Bw;simp[hi]);go_enter func115,ntmps115;go_wp2_with fail;go_ret;exact⟨AF b.o.symm,f.o⟩
      ·by_cases i:(40:Int)<=d
       ·have b:Hid (AD u m 4 d 0=15):=Aa (by unfold AD Bj Bw;simp[hi,i]);go_enter func115,ntmps115;go_wp2_with fail;go_ret;exact⟨AF b.o.symm,f.o⟩
       ·have b:Hid (AD u m 4 d 0=0):=Aa (by unfold AD Bj Bw;simp[hi,i]);go_enter func115,ntmps115;go_wp2_with fail;go_ret;exact⟨AF b.o.symm,f.o⟩
     case neg=>have b:Hid (AD u m 4 d n=2):=Aa (by unfold AD Bj Bw;simp[g]);have j:¬(n:Int)=0:=(by omega);have k:((n:Int) !=0)=true:=(by simpa using j);clear g;go_enter func115,ntmps115;go_wp2_with fail;go_ret;exact⟨AF b.o.symm,f.o⟩
    case neg=>
     by_cases t:h=5;case pos=>
      subst t;by_cases g:n=0;case pos=>
       subst g;by_cases hi:d<0
       ·have b:Hid (AD u m 5 d 0=15):=Aa (by unfold AD Bj Bw;simp[hi]);go_enter func115,ntmps115;go_wp2_with fail;go_ret;exact⟨AF b.o.symm,f.o⟩
       ·by_cases i:(m:Int)<=d
        ·have b:Hid (AD u m 5 d 0=15):=Aa (by unfold AD Bj Bw;simp[hi,i]);go_enter func115,ntmps115;go_wp2_with fail;go_ret;exact⟨AF b.o.symm,f.o⟩
        ·have b:Hid (AD u m 5 d 0=0):=Aa (by unfold AD Bj Bw;simp[hi,i]);go_enter func115,ntmps115;go_wp2_with fail;go_ret;exact⟨AF b.o.symm,f.o⟩
      case neg=>have b:Hid (AD u m 5 d n=2):=Aa (by unfold AD Bj Bw;simp[g]);have j:¬(n:Int)=0:=(by omega);have k:((n:Int) !=0)=true:=(by simpa using j);clear g;go_enter func115,ntmps115;go_wp2_with fail;go_ret;exact⟨AF b.o.symm,f.o⟩
     case neg=>have b:Hid (AD u m h d n=2):=Aa (by unfold AD;rw[Aq (by omega)]);have e1:(h==1)=false:=(by simpa using l);have e2:(h==2)=false:=(by simpa using q);have e3:(h==3)=false:=(by simpa using r);have e4:(h==4)=false:=(by simpa using s);have e5:(h==5)=false:=(by simpa using t);go_enter func115,ntmps115;go_wp2_with fail;go_ret;exact⟨AF b.o.symm,f.o⟩
def It (u m:Int) (l:List Lm) (w:World) (o:Value) (wr:World):Prop:=∃k:Nat,k<=l.length/\o=zA k/\Au u m (l.take k)=0/\Below w.heap.size w wr
theorem Wa (m:Int) (t:Lm):∀(v:Value) (u:Int) (w:World) (X:Nat->Prop),MV w X v t->0<=u->u+Ai [t]<=1000000->
  Calls prog 101 #[v,zA u,zA m] w λe w'=>e=.returned (zA (Au u m [t]))/\Below w.heap.size w w':=by
 induction t using Lm.ind with
 |h f g l H=>
  intro v u w X L au M;obtain⟨a,c,rfl,z⟩:=L;have I:=Aa H;clear H;have N:=z.1;have hz:Ai [(⟨f,g,l⟩:Lm)]=1+Ai l:=by simp[Ai]
  rw[hz]at M;clear hz;have J:Hid (Below w.heap.size w (w.alloc (.cells #[zA f,zA g,.slice a l.length c] 24))):=(Ac _ _).alloc (Ag _) _;have A:=Ab.new w #[zA f,zA g,.slice a l.length c] 24;go_enter func101,ntmps101;go_wp2_with fail;refine(VZ f g u m a l.length c _ N).mono ?_;rintro e w1 ⟨rfl,B⟩;have C:=Aa (J.o.trans (B.mono (by simp)));have D:=Aa (A.below B A.lt);have t0:=D.o.c0;have t1:=D.o.c1;have t2:=D.o.c2;clear B A J;by_cases h0:AD u m f g l.length=0;case neg=>
   have q:=Aa (DY h0);have h1:(AD u m f g l.length==0)=false:=(by simpa using h0);have h2:(AD u m f g l.length !=0)=true:=(by simpa using h0);go_wp2_with fail;go_ret;exact⟨AF q.o.symm,C.o⟩
  case pos=>
   have q:=Aa (GR h0);rw[h0];clear h0;by_cases E:f=2;case pos=>
    subst E;have r:Hid (AO u 2=u+1):=Aa (by unfold AO;rfl);go_wp2_with fail;go_loopw [26] (λo wr=>It (u+1) m l w o wr) (λo wr=>l.length-(intOf o).toNat);case atStart=>exact⟨0,Bm _,rfl,by simp[Au],C.o⟩
    case round=>
     obtain⟨k,hk,rfl,he,hb⟩:=hrel;have n:=Aa he;have s:=Aa hb;clear he;have F:w.heap.size<=wr.heap.size:=hb.size;by_cases j:k<l.length
     ·obtain⟨b,o,O,c',rfl,d0,P,d1,hx⟩:=z.get hb (λ_ _ h=>h) k j;have HT:=Aa (Lv (u+1) m l k j);have R:1+Ai [l[k]]<=1+Ai l:=by
       have h1:=C9 l k j;have h2:=DE l (k+1);omega
      clear hb;go_wp2_with fail;refine(I.o _ (Bu j) _ _ _ X (hx.alloc _) (by omega) (by omega)).mono ?_;rintro e w2 ⟨rfl,x⟩;have y:Hid (Below w.heap.size w w2):=(s.o.alloc F _).trans (x.mono (by simp; omega));clear x;by_cases d:Au (u+1) m [l[k]]=0
      ·have i:=Aa d;rw[d];clear d;go_wp2_with fail;go_roundw
       case rel=>exact⟨k+1,by omega,by go_num,by rw[HT.o,n.o,i.o]; rfl,y.o⟩
       case measure=>simp[intOf]; omega
      ·have h1:(Au (u+1) m [l[k]]==0)=false:=(by simpa using d);have h2:(Au (u+1) m [l[k]] !=0)=true:=(by simpa using d);have i:Hid (Au (u+1) m [l[k]]=Au u m [(⟨2,g,l⟩:Lm)]):=by
        have h1:Au (u+1) m (l.take (k+1))=Au (u+1) m [l[k]]:=by rw[HT.o,n.o]; rfl
        unfold Hid;rw[q.o,r.o,Lw (l:=l) (k:=k+1) (by rw[h1]; exact d),h1]
       go_wp2_with fail;go_ret;exact⟨AF i.o,y.o⟩
     ·have G:l.take k=l:=Bv (by omega);have ar:¬((k:Int)<(l.length:Int)):=(by omega);have i:Hid (0=Au u m [(⟨2,g,l⟩:Lm)]):=Aa (by rw[q.o,r.o,<-G,n.o]);go_wp2_with fail;go_ret;exact⟨AF i.o,s.o⟩
   case neg=>
    have r:Hid (AO u f=u):=Aa (by unfold AO;rw[Am E]);have e2:(f==2)=false:=(by simpa using E);go_wp2_with fail;go_loopw [26] (λo wr=>It (u) m l w o wr) (λo wr=>l.length-(intOf o).toNat);case atStart=>exact⟨0,Bm _,rfl,by simp[Au],C.o⟩
    case round=>
     obtain⟨k,hk,rfl,he,hb⟩:=hrel;have n:=Aa he;have s:=Aa hb;clear he;have F:w.heap.size<=wr.heap.size:=hb.size;by_cases j:k<l.length
     ·obtain⟨b,o,O,c',rfl,d0,P,d1,hx⟩:=z.get hb (λ_ _ h=>h) k j;have HT:=Aa (Lv (u) m l k j);have R:1+Ai [l[k]]<=1+Ai l:=by
       have h1:=C9 l k j;have h2:=DE l (k+1);omega
      clear hb;go_wp2_with fail;refine(I.o _ (Bu j) _ _ _ X (hx.alloc _) (by omega) (by omega)).mono ?_;rintro e w2 ⟨rfl,x⟩;have y:Hid (Below w.heap.size w w2):=(s.o.alloc F _).trans (x.mono (by simp; omega));clear x;by_cases d:Au (u) m [l[k]]=0
      ·have i:=Aa d;rw[d];clear d;go_wp2_with fail;go_roundw
       case rel=>exact⟨k+1,by omega,by go_num,by rw[HT.o,n.o,i.o]; rfl,y.o⟩
       case measure=>simp[intOf]; omega
      ·have h1:(Au (u) m [l[k]]==0)=false:=(by simpa using d);have h2:(Au (u) m [l[k]] !=0)=true:=(by simpa using d);have i:Hid (Au (u) m [l[k]]=Au u m [(⟨f,g,l⟩:Lm)]):=by
        have h1:Au (u) m (l.take (k+1))=Au (u) m [l[k]]:=by rw[HT.o,n.o]; rfl
        unfold Hid;rw[q.o,r.o,Lw (l:=l) (k:=k+1) (by rw[h1]; exact d),h1]
       go_wp2_with fail;go_ret;exact⟨AF i.o,y.o⟩
     ·have G:l.take k=l:=Bv (by omega);have ar:¬((k:Int)<(l.length:Int)):=(by omega);have i:Hid (0=Au u m [(⟨f,g,l⟩:Lm)]):=Aa (by rw[q.o,r.o,<-G,n.o]);go_wp2_with fail;go_ret;exact⟨AF i.o,s.o⟩
theorem Wb (t:Lm) (v:Value) (u m:Int) (w:World) (X:Nat->Prop) (d:MV w X v t):
  Calls prog 83 #[v,zA u,zA m] w λe w'=>e=.returned (zA (BI u m t))/\Below w.heap.size w w':=by
 obtain⟨a,c,rfl,k⟩:=d;have d:MV w X (.agg (zE t a c)) t:=⟨a,c,rfl,k⟩;have f:Hid (Below w.heap.size w (w.alloc (.cells (zE t a c) 24))):=(Ac _ _).alloc (Ag _) _;have h:=Ab.new w (zE t a c) 24;go_enter func83,ntmps83;by_cases h1:u<0
 ·have b:Hid (BI u m t=10):=Aa (by unfold BI;rw[Aq (Ad h1)]);go_wp2_with fail;go_ret;exact⟨AF b.o.symm,f.o⟩
 by_cases h2:40<u
 ·have b:Hid (BI u m t=10):=Aa (by unfold BI;rw[Aq (Ae h2)]);go_wp2_with fail;go_ret;exact⟨AF b.o.symm,f.o⟩
 go_wp2_with fail;refine(PO 200 (by omega) (by omega) t _ _ X (d.alloc _)).mono ?_;rintro e w1 ⟨rfl,i⟩;have g:=Aa (f.o.trans (i.mono (by simp)));have j:=Aa (h.below i h.lt);have t0:=j.o.c0;have t1:=j.o.c1;have t2:=j.o.c2;clear i h f;by_cases h3:200<Ai [t]
 ·have b:Hid (BI u m t=3):=Aa (by unfold BI;rw[Am (by omega),Aq h3]);have e:min (Ai [t]:Int) (200+1)=201:=by omega
  rw[e];go_wp2_with fail;go_ret;exact⟨AF b.o.symm,g.o⟩
 ·have b:Hid (BI u m t=Au u m [t]):=Aa (by unfold BI;rw[Am (by omega),Am h3]);have e:min (Ai [t]:Int) (200+1)=Ai [t]:=by omega
  rw[e];have hle:¬(200:Int)<(Ai [t]:Int):=by omega
  go_wp2_with fail;refine(Wa m t _ u _ X (d.later g.o) (by omega) (by omega)).mono ?_;rintro e w2 ⟨rfl,l⟩;go_wp2_with fail;go_ret;exact⟨AF b.o.symm,g.o.trans (l.mono g.o.size)⟩
theorem Nr (t:Lm) (v:Value) (u:Int) (w:World) (X:Nat->Prop) (b:MV w X v t):
  Calls prog 71 #[v,zA u] w λe w'=>e=.returned (zA (BI u 0 t))/\Below w.heap.size w w':=by
 obtain⟨a,c,rfl,d⟩:=b;have b:MV w X (.agg (zE t a c)) t:=⟨a,c,rfl,d⟩;go_enter func71,ntmps71;go_wp2_with fail;refine(Wb t _ u 0 _ X (b.alloc _)).mono ?_;rintro e w1 ⟨rfl,f⟩;go_wp2_with fail;go_ret;exact⟨rfl,((Ac _ _).alloc (Ag _) _).trans (f.mono (by simp))⟩
theorem I7 {u:Int} {t:Lm} (h:Au u 0 [t]=0):(∃x,t=⟨1,x,[]⟩/\0<=x/\x<u)∨(∃b,t=⟨2,0,[b]⟩/\Au (u+1) 0 [b]=0)∨(∃f a,t=⟨3,0,[f,a]⟩/\Au u 0 [f]=0/\Au u 0 [a]=0)∨(∃x,t=⟨4,x,[]⟩/\0<=x/\x<40):=by
 obtain⟨k,x,l⟩:=t;have hk:AD u 0 k x l.length=0:=by
  apply El;intro e;rw[DY e]at h;exact e h
 have g:=GR hk;rw[g]at h;unfold AD at hk;by_cases h1:k<1∨5<k
 ·rw[Aq h1]at hk; cases hk
 rw[Am h1]at hk;by_cases h2:l.length≠Bw k
 ·rw[Aq h2]at hk; cases hk
 rw[Am h2]at hk;by_cases h3:x<0∨Bj u 0 k<=x
 ·rw[Aq h3]at hk; cases hk
 have hx:0<=x/\x<Bj u 0 k:=by omega
 have c:l.length=Bw k:=by simpa using h2
 have hc:k=1∨k=2∨k=3∨k=4∨k=5:=by omega
 rcases hc with rfl|rfl|rfl|rfl|rfl
 ·left;simp[Bj]at hx;simp[Bw]at c;subst c;exact⟨x,rfl,hx.1,hx.2⟩
 ·right; left;simp[Bj]at hx;simp[Bw]at c;obtain⟨b,rfl⟩:=List.length_eq_one_iff.1 c;have:x=0:=by omega
  subst this;exact⟨b,rfl,by simpa [AO] using h⟩
 ·right; right; left;simp[Bj]at hx;simp[Bw]at c;match l,c with
  | [f,a],_=>
   have:x=0:=(by omega);subst this;rw[Lu]at h;simp only[AO] at h;have e2:(3:Int)=2↔False:=(by simp);simp only[e2,if_false] at h;by_cases d:Au u 0 [f]=0
   ·rw[Aq d]at h;exact⟨f,a,rfl,d,h⟩
   ·rw[Am d]at h; exact absurd h d
 ·right; right; right;simp[Bj]at hx;simp[Bw]at c;subst c;exact⟨x,rfl,hx.1,hx.2⟩
 ·simp[Bj]at hx;omega
theorem Lx (n:Nat):(Lib.decDigits n).length<=n+1:=by
 induction n using Nat.strongRecOn with
 |ind n a=>
  rw[Lib.decDigits];by_cases h:n<10
  ·rw[dif_pos h]; simp
  ·rw[dif_neg h];have:=a (n / 10) (by omega);simp only[Ed,Cg,Ee];omega
def Ar (p:UInt8) (n:Nat):ByteArray:=⟨(p::Lib.decDigits n).toArray⟩
def AE (p:UInt8) (n:Nat):Tm:=⟨Ar p n,[]⟩
def Bs (a b:Tm):Tm:=⟨⟨#[102]⟩,[a,b]⟩
def DZ:Tm:=⟨⟨#[]⟩,[]⟩
def Eh (p:UInt8) (k i:Int) (ar:List Tm) (n:Nat) (b:List Tm×List Pr×Nat):Tm×List Pr×Nat:=
 if k=1 then (ar.getD (ar.length-1-i.toNat) DZ,[],n)
 else if k=2 then (Bs (AE p (n+1)) (b.1.getD 0 DZ),b.2.1,b.2.2)
 else (AE p (b.2.2+1),b.2.1++[⟨b.1.getD 0 DZ,Bs (b.1.getD 1 DZ) (AE p (b.2.2+1))⟩],b.2.2+1)
def DQ (p:UInt8) (k:Int) (ar:List Tm) (n:Nat):List Tm:=if k=2 then ar++[AE p (n+1)] else ar
def EE (k:Int) (n:Nat):Nat:=if k=2 then n+1 else n
def CM (p:UInt8):List Lm->List Tm->Nat->List Tm×List Pr×Nat
 | [],_,n=>([],[],n)
 | ⟨k,i,l⟩::r,ar,n=>
  ((Eh p k i ar n (CM p l (DQ p k ar n) (EE k n))).1::(CM p r ar (Eh p k i ar n (CM p l (DQ p k ar n) (EE k n))).2.2).1,
   (Eh p k i ar n (CM p l (DQ p k ar n) (EE k n))).2.1++(CM p r ar (Eh p k i ar n (CM p l (DQ p k ar n) (EE k n))).2.2).2.1,
   (CM p r ar (Eh p k i ar n (CM p l (DQ p k ar n) (EE k n))).2.2).2.2)
def Ay (p:UInt8) (t:Lm) (ar:List Tm) (n:Nat):Tm×List Pr×Nat:=Eh p t.kind t.idx ar n (CM p t.subs (DQ p t.kind ar n) (EE t.kind n))
theorem Ly (p:UInt8) (ar:List Tm) (n:Nat):CM p [] ar n=([],[],n):=by simp[CM]
theorem J6 (p:UInt8) (t:Lm) (r:List Lm) (ar:List Tm) (n:Nat):CM p (t::r) ar n=((Ay p t ar n).1::(CM p r ar (Ay p t ar n).2.2).1,(Ay p t ar n).2.1++(CM p r ar (Ay p t ar n).2.2).2.1,(CM p r ar (Ay p t ar n).2.2).2.2):=by
 obtain⟨k,i,l⟩:=t;simp only[CM,Ay]
theorem I8 (p:UInt8) (i:Int) (ar:List Tm) (n:Nat):Ay p ⟨1,i,[]⟩ ar n=(ar.getD (ar.length-1-i.toNat) DZ,[],n):=by simp[Ay,Eh]
theorem Iu (p:UInt8) (i:Int) (b:Lm) (ar:List Tm) (n:Nat):Ay p ⟨2,i,[b]⟩ ar n=(Bs (AE p (n+1)) (Ay p b (ar++[AE p (n+1)]) (n+1)).1,(Ay p b (ar++[AE p (n+1)]) (n+1)).2.1,(Ay p b (ar++[AE p (n+1)]) (n+1)).2.2):=by
 rw[Ay];simp only[Eh,DQ,EE,Am (show ¬(2:Int)=1 by decide),if_true,J6,Ly];simp
theorem I9 (p:UInt8) (i:Int) (f x:Lm) (ar:List Tm) (n:Nat):Ay p ⟨3,i,[f,x]⟩ ar n=
  (AE p ((Ay p x ar (Ay p f ar n).2.2).2.2+1),(Ay p f ar n).2.1++(Ay p x ar (Ay p f ar n).2.2).2.1++[⟨(Ay p f ar n).1,Bs (Ay p x ar (Ay p f ar n).2.2).1 (AE p ((Ay p x ar (Ay p f ar n).2.2).2.2+1))⟩],(Ay p x ar (Ay p f ar n).2.2).2.2+1):=by
 rw[Ay];simp only[Eh,DQ,EE,Am (show ¬(3:Int)=1 by decide),Am (show ¬(3:Int)=2 by decide),J6,Ly];simp
def CN (s:ByteArray):ByteArray:=if s.data.toList.head? = some 84 then ⟨(86::s.data.toList.tail).toArray⟩ else s
theorem E9 (n:Nat):CN (Ar 84 n)=Ar 86 n:=by simp[CN,Ar]
theorem Gv:CN ⟨#[102]⟩=⟨#[102]⟩:=by simp[CN]
theorem Gw:CN ⟨#[]⟩=⟨#[]⟩:=by simp[CN]
def DR (s:ByteArray):Prop:=s=⟨#[]⟩∨s=⟨#[102]⟩∨∃n,s=Ar 84 n
theorem Ns (p:UInt8) (n:Nat):Av (Ar p n)=Hu p.toNat:=by
 unfold Av Hv Ar;have h:0<(⟨(p::Lib.decDigits n).toArray⟩:ByteArray).size:=by simp[ByteArray.size]
 rw[dif_pos h];rfl
theorem Nt:Ep DR CN where
 inj:=by
  rintro a b (rfl|rfl|⟨n,rfl⟩) (rfl|rfl|⟨m,rfl⟩) h
  ·rfl
  ·rw[Gw,Gv]at h; simp at h
  ·rw[Gw,E9]at h; simp[Ar] at h
  ·rw[Gw,Gv]at h; simp at h
  ·rfl
  ·rw[Gv,E9]at h; simp[Ar] at h
  ·rw[Gw,E9]at h; simp[Ar] at h
  ·rw[Gv,E9]at h; simp[Ar] at h
  ·rw[E9,E9]at h;simp[Ar]at h ⊢;exact h
 var:=by
  rintro a (rfl|rfl|⟨n,rfl⟩)
  ·rw[Gw]
  ·rw[Gv]
  ·rw[E9,Ns,Ns]; rfl
 lt:=by
  have c:∀l:List UInt8,(⟨l.toArray⟩:ByteArray).toList=l:=λl=>by rw[GH]
  have h0:(⟨#[]⟩:ByteArray).toList=[]:=c [];have h1:(⟨#[102]⟩:ByteArray).toList=[102]:=c [102];rintro a b (rfl|rfl|⟨n,rfl⟩) (rfl|rfl|⟨m,rfl⟩)
  ·rfl
  ·rw[Gw,Gv]
  ·rw[Gw,E9];unfold Cw Ar;simp only[c,h0,h1];simp[Op.bytesLess]
  ·rw[Gw,Gv]
  ·rfl
  ·rw[Gv,E9];unfold Cw Ar;simp only[c,h0,h1];simp[Op.bytesLess]
  ·rw[Gw,E9];unfold Cw Ar;simp only[c,h0,h1];simp[Op.bytesLess]
  ·rw[Gv,E9];unfold Cw Ar;simp only[c,h0,h1];simp[Op.bytesLess]
  ·rw[E9,E9];unfold Cw Ar;rw[c,c,c,c];simp[Op.bytesLess]
theorem Nu (n:Nat):BN CN (AE 84 n)=AE 86 n:=by simp[BN,AE,E9,Cr]
theorem PQ (a b:Tm):BN CN (Bs a b)=Bs (BN CN a) (BN CN b):=by simp[BN,Bs,Gv,Gf,Cr]
theorem Wc:BN CN DZ=DZ:=by simp[BN,DZ,Gw,Cr]
theorem Nv (l:List Tm) (i:Nat):(l.map (BN CN)).getD i DZ=BN CN (l.getD i DZ):=by
 rw[Gr,Gr,List.getElem?_map];cases l[i]? with
 |none=>exact Wc.symm
 |some x=>rfl
theorem Wd (l:List Lm):∀(ar:List Tm) (n:Nat),CM 86 l (ar.map (BN CN)) n=((CM 84 l ar n).1.map (BN CN),(CM 84 l ar n).2.1.map (Ge CN),(CM 84 l ar n).2.2):=by
 induction l using Lm.indL with
 |h0=>intro ar n; simp[CM]
 |h k i l r a b=>
  intro ar n;have e1:DQ 86 k (ar.map (BN CN)) n=(DQ 84 k ar n).map (BN CN):=by
   unfold DQ;split
   ·simp[Nu]
   ·rfl
  have e2:Eh 86 k i (ar.map (BN CN)) n (CM 86 l (DQ 86 k (ar.map (BN CN)) n) (EE k n))=(BN CN (Eh 84 k i ar n (CM 84 l (DQ 84 k ar n) (EE k n))).1,(Eh 84 k i ar n (CM 84 l (DQ 84 k ar n) (EE k n))).2.1.map (Ge CN),(Eh 84 k i ar n (CM 84 l (DQ 84 k ar n) (EE k n))).2.2):=by
   rw[e1,a];unfold Eh;split
   ·simp only[Nv,Gs,Hm]
   ·split
    ·simp only[Nv,PQ,Nu]
    ·simp only[Nv,Nu,CY,Cu,Hm,Ge,PQ]
  simp only[CM];rw[e2,b];simp
theorem PR (t:Lm) (n:Nat):Ay 86 t [] n=(BN CN (Ay 84 t [] n).1,(Ay 84 t [] n).2.1.map (Ge CN),(Ay 84 t [] n).2.2):=by
 have h:=Wd [t] [] n;rw[Hm,J6,J6]at h;simp only[Ly,List.append_nil] at h;have h1:=Dl (λx=>x.1.getD 0 DZ) h;have h2:=Dl (λx=>x.2.1) h;have h3:=Dl (λx=>x.2.2) h;simp at h1 h2 h3;exact Prod.ext h1 (Prod.ext h2 h3)
theorem Lz (n:Nat):AV DR [AE 84 n]:=AV.one.2 ⟨Ae (Ae ⟨n,rfl⟩),AV.nil⟩
theorem PS {a b:Tm} (c:AV DR [a]) (hb:AV DR [b]):AV DR [Bs a b]:=AV.one.2 ⟨Ae (Ad rfl),AV.cons.2 ⟨(AV.one.1 c).1,(AV.one.1 c).2,hb⟩⟩
theorem LA {l:List Tm} (h:AV DR l) (i:Nat):AV DR [l.getD i DZ]:=by
 rw[Gr];cases hq:l[i]? with
 |none=>exact AV.one.2 ⟨Ad rfl,AV.nil⟩
 |some x=>exact AV.all.1 h x (List.mem_of_getElem? hq)
theorem We {l:List Tm} {x:Tm} (h:AV DR l) (hx:AV DR [x]):AV DR (l++[x]):=AV.all.2 λt ht=>by
 rcases BJ.1 ht with h1|h1
 ·exact AV.all.1 h t h1
 ·rw[Gq.1 h1]; exact hx
theorem Wi (l:List Lm):∀(ar:List Tm) (n:Nat),AV DR ar->AV DR (CM 84 l ar n).1/\GQ DR (CM 84 l ar n).2.1:=by
 induction l using Lm.indL with
 |h0=>intro ar n _; simp only[CM]; exact⟨AV.nil,λp hp=>by simp at hp⟩
 |h k i l r b c=>
  intro ar n a;have d:AV DR (DQ 84 k ar n):=by
   unfold DQ;split
   ·exact We a (Lz _)
   ·exact a
  have h1:=b _ (EE k n) d;have h2:AV DR [(Eh 84 k i ar n (CM 84 l (DQ 84 k ar n) (EE k n))).1]/\GQ DR (Eh 84 k i ar n (CM 84 l (DQ 84 k ar n) (EE k n))).2.1:=by
   unfold Eh;split
   ·exact⟨LA a _,λp hp=>by simp at hp⟩
   ·split
    ·exact⟨PS (Lz _) (LA h1.1 _),h1.2⟩
    ·refine⟨Lz _,λp hp=>?_⟩;rcases BJ.1 hp with h|h
     ·exact h1.2 p h
     ·rw[Gq.1 h];exact⟨LA h1.1 _,PS (LA h1.1 _) (Lz _)⟩
  have h3:=c ar (Eh 84 k i ar n (CM 84 l (DQ 84 k ar n) (EE k n))).2.2 a;simp only[CM];refine⟨AV.cons.2 ⟨(AV.one.1 h2.1).1,(AV.one.1 h2.1).2,h3.1⟩,λp hp=>?_⟩;rcases BJ.1 hp with h|h
  ·exact h2.2 p h
  ·exact h3.2 p h
theorem Wj (t:Lm) (n:Nat):AV DR [(Ay 84 t [] n).1]/\GQ DR (Ay 84 t [] n).2.1:=by
 have h:=Wi [t] [] n AV.nil;rw[J6]at h;simp only[Ly,List.append_nil] at h;exact h
def A0:List Lm->Bool
 | []=>false
 | ⟨k,_,l⟩::r=>((k==4)||A0 l)||A0 r
theorem Iv (t:Lm) (r:List Lm):A0 (t::r)=(A0 [t]||A0 r):=by
 obtain⟨k,i,l⟩:=t;simp[A0]
theorem LB:∀l:List Lm,A0 l=l.any λt=>A0 [t]
 | []=>by simp[A0]
 |t::r=>by rw[Iv,LB r]; rfl
theorem D2 (k i:Int) (l:List Lm):A0 [⟨k,i,l⟩]=((k==4)||A0 l):=by simp[A0]
def LC (n:Nat):List UInt8:=if n<10 then [UInt8.ofNat (48+n)] else [UInt8.ofNat (48+n / 10),UInt8.ofNat (48+n % 10)]
theorem Wk {n:Nat} (h:n<100):Lib.decDigits n=LC n:=by
 unfold LC;split
 ·rename_i h1; exact Lib.decDigits_one h1
 ·rename_i h1; exact Lib.decDigits_two h1 h
theorem PU:∀n<100,ET ⟨(84::LC n).toArray⟩=true/\ET ⟨(86::LC n).toArray⟩=true:=by decide +kernel
theorem Wl {p:UInt8} (hp:p=84∨p=86) {n:Nat} (h:n<100):ET (Ar p n)=true:=by
 unfold Ar;rw[Wk h];rcases hp with rfl|rfl
 ·exact(PU n h).1
 ·exact(PU n h).2
theorem LD {p:UInt8} (hp:p=84∨p=86) {n:Nat} (h:n<100):As [AE p n]=0:=by simp[AE,As,Wl hp h]
theorem PW {a b:Tm} (c:As [a]=0) (hb:As [b]=0):As [Bs a b]=0:=by
 have h1:ET ⟨#[102]⟩=true:=by decide
 have h2:Av ⟨#[102]⟩=false:=by decide
 have h3:As [a,b]=0:=by rw[MU,Aq c,hb]
 simp[Bs,As,h1,h2,h3]
theorem Nw (a b:Tm):Ah [Bs a b]=1+(Ah [a]+Ah [b]):=by
 have:=FW [a] [b];simp only[Di,GK] at this;simp only[Bs,Ah,this];omega
theorem LE (p:UInt8) (n:Nat):Ah [AE p n]=1:=by simp[AE,Ah]
theorem Hz (k i:Int) (l:List Lm):Ai [⟨k,i,l⟩]=1+Ai l:=by simp[Ai]
theorem LF (a b:Lm):Ai [a,b]=Ai [a]+Ai [b]:=J4 [a] [b]
def LH (ar:List Tm):Prop:=∀a∈ar,As [a]=0/\Ah [a]=1
theorem LH.snoc {p:UInt8} (hp:p=84∨p=86) {n:Nat} (h:n<100) {ar:List Tm} (b:LH ar):LH (ar++[AE p n]):=λa h1=>by
 rcases BJ.1 h1 with h2|h2
 ·exact b a h2
 ·rw[Gq.1 h2]; exact⟨LD hp h,LE p n⟩
structure Wm (t:Lm) (n:Nat) (r:Tm×List Pr×Nat):Prop where
 cnt:r.2.2<=n+Ai [t]
 le:n<=r.2.2
 few:2*r.2.1.length+1<=Ai [t]
 err:As [r.1]=0
 size:Ah [r.1]<=2*Ai [t]
 eqs:∀q∈r.2.1,(As [q.l]=0/\Ah [q.l]<=2*Ai [t])/\As [q.r]=0/\Ah [q.r]<=2*Ai [t]+2
theorem Nx {p:UInt8} (hp:p=84∨p=86) (t:Lm):∀(ar:List Tm) (n:Nat),Au ar.length 0 [t]=0->A0 [t]=false->LH ar->n+Ai [t]<100->Wm t n (Ay p t ar n):=by
 induction t using Lm.ind with
 |h k i l j=>
  intro ar n he hc g hn;rcases I7 he with ⟨x,e,h1,h2⟩|⟨b,e,hb⟩|⟨f,a,e,v,hx⟩|⟨x,e,_,_⟩
  ·cases e;rw[I8];have m:ar.length-1-i.toNat<ar.length:=(by omega);have y:ar.getD (ar.length-1-i.toNat) DZ=ar[ar.length-1-i.toNat]:=by
    rw[Gr,FU m]; rfl
   have h3:=g _ (Bu m);have hz:Ai [(⟨1,i,[]⟩:Lm)]=1:=(by simp[Ai]);rw[y];exact⟨by rw[hz]; simp,by simp,by rw[hz]; simp,h3.1,by rw[hz,h3.2]; simp,λq hq=>by simp at hq⟩
  ·cases e;rw[Iu];have z:A0 [b]=false:=by rw[D2] at hc; simpa using hc
   have hz:=Hz 2 0 [b];have A:((ar++[AE p (n+1)]).length:Int)=(ar.length:Int)+1:=(by simp);have h:=j b (by simp) (ar++[AE p (n+1)]) (n+1) (by rw[A]; exact hb) z (g.snoc hp (by omega)) (by omega);refine⟨by have:=h.cnt; simp only; omega,by have:=h.le; simp only; omega,by have:=h.few; simp only; omega,PW (LD hp (by omega)) h.err,by rw[Nw,LE,hz]; have:=h.size; omega,λq hq=>?_⟩;obtain⟨⟨c,o⟩,d,r⟩:=h.eqs q hq;exact⟨⟨c,by omega⟩,d,by omega⟩
  ·cases e;rw[I9];have s:A0 [f]=false/\A0 [a]=false:=by
    rw[D2,Iv]at hc;simpa using hc
   have hz:Ai [(⟨3,0,[f,a]⟩:Lm)]=1+(Ai [f]+Ai [a]):=(by rw[Hz,LF]);have h1:=j f (by simp) ar n v s.1 g (by omega);have hm:=h1.cnt;have h2:=j a (by simp) ar (Ay p f ar n).2.2 hx s.2 g (by omega);have u:(Ay p a ar (Ay p f ar n).2.2).2.2+1<100:=by have:=h2.cnt; omega
   have ad:1<=Ai [f]:=by obtain⟨k,x,l⟩:=f; simp[Ai]
   have ae:1<=Ai [a]:=by obtain⟨k,x,l⟩:=a; simp[Ai]
   refine⟨by have:=h2.cnt; simp only; omega,by have:=h2.le; have:=h1.le; simp only; omega,by have:=h1.few; have:=h2.few; simp only[Ed,List.length_singleton]; omega,LD hp u,by rw[LE]; omega,λq hq=>?_⟩;rcases BJ.1 hq with hq|hq
   ·rcases BJ.1 hq with hq|hq
    ·obtain⟨⟨c,o⟩,d,r⟩:=h1.eqs q hq;exact⟨⟨c,by omega⟩,d,by omega⟩
    ·obtain⟨⟨c,o⟩,d,r⟩:=h2.eqs q hq;exact⟨⟨c,by omega⟩,d,by omega⟩
   ·rw[Gq.1 hq];refine⟨⟨h1.err,by have:=h1.size; simp only; omega⟩,PW h2.err (LD hp u),?_⟩;simp only;rw[Nw,LE];have:=h2.size;omega
  ·cases e;rw[D2]at hc;simp at hc
theorem Wn {ls:List Pr} (hl:ls.length<=40) (h:∀p∈ls,Fx p.l=0/\Fx p.r=0):Ga ls=0:=by
 unfold Ga;rw[Am (by omega)];have key:∀k,EY ls k=0:=λk=>by
  induction k with
  |zero=>rfl
  |succ k a=>
   rw[EY,Aq a];cases hq:ls[k]? with
   |none=>rfl
   |some p=>have h1:=h p (List.mem_of_getElem? hq);simp[K0,h1.1,h1.2]
 exact key _
theorem PY {t:Tm} (h:As [t]=0) (hz:Ah [t]<=200):Fx t=0:=by
 unfold Fx;rw[Am (by omega)];exact h
theorem LI {p:UInt8} (hp:p=84∨p=86) {t:Lm} (he:Au 0 0 [t]=0) (hc:A0 [t]=false) (hz:Ai [t]<=60):Ga (Ay p t [] 0).2.1=0:=by
 have h:=Nx hp t [] 0 he hc (λa b=>by simp at b) (by omega);refine Wn (by have:=h.few; omega) λq hq=>?_;obtain⟨⟨c,q2⟩,d,q4⟩:=h.eqs q hq;exact⟨PY c (by omega),PY d (by omega)⟩
structure Ex (B:Nat) (w w':World):Prop where
 os:w'.os=w.os
 tape:w'.tape=w.tape
 output:w'.output=w.output
 size:w.heap.size<=w'.heap.size
 block:∀k,k<w.heap.size->k≠B->w'.heap[k]? = w.heap[k]?
theorem Ex.refl (B:Nat) (w:World):Ex B w w:=⟨rfl,rfl,rfl,Ag _,λ_ _ _=>rfl⟩
theorem Ex.trans {B:Nat} {a b c:World} (h:Ex B a b) (k:Ex B b c):Ex B a c:=
 ⟨k.os.trans h.os,k.tape.trans h.tape,k.output.trans h.output,AN h.size k.size,λi hi d=>(k.block i (BO hi h.size) d).trans (h.block i hi d)⟩
theorem Ex.drewN {B:Nat} {a w:World} (h:Ex B a w) (n:Nat):Ex B a (w.drewN n):=⟨h.os,h.tape,h.output,h.size,h.block⟩
theorem Ex.drew {B:Nat} {a w:World} (h:Ex B a w):Ex B a w.drew:=⟨h.os,h.tape,h.output,h.size,h.block⟩
theorem Ex.set {B:Nat} {a w:World} (h:Ex B a w) (i:Nat) (v:Value):Ex B a (w.setCell (zD B i) v):=
 ⟨h.os,h.tape,h.output,by simpa [World.setCell] using h.size,λk hk b=>(Al _ _ _ _ (by simpa using b)).trans (h.block k hk b)⟩
theorem Ex.alloc {B:Nat} {a w:World} (h:Ex B a w) (o:Obj):Ex B a (w.alloc o):=
 ⟨h.os,h.tape,h.output,by have:=h.size; simp; omega,λk hk b=>(BH _ _ _ (BO hk h.size)).trans (h.block k hk b)⟩
theorem Ab.ex {w w':World} {B b T:Nat} {cs:Array Value} (h:Ab w b cs T) (he:Ex B w w') (a:b≠B):Ab w' b cs T:=by
 unfold Ab at *;rw[he.block b (Ab.lt h) a]; exact h
theorem Ex.mid {B:Nat} {w w1:World} (h:Ex B w w1):∃a,Below a.heap.size a w1/\a.heap.size=w.heap.size/\Ex B w a:=by
 by_cases b:B<w.heap.size
 ·have c:B<w1.heap.size:=BO b h.size;refine⟨{ w with heap:=w.heap.setIfInBounds B w1.heap[B]},⟨h.os,h.tape,h.output,by simpa using h.size,λk hk=>?_⟩,by simp,⟨rfl,rfl,rfl,by simp,λk hk d=>?_⟩⟩
  ·simp at hk;by_cases e:k=B
   ·subst e;simp[Array.getElem?_setIfInBounds,b,c]
   ·rw[h.block k hk e];simp[Array.getElem?_setIfInBounds,Ne.symm e]
  ·simp[Array.getElem?_setIfInBounds,Ne.symm d]
 ·exact⟨w,⟨h.os,h.tape,h.output,h.size,λk hk=>h.block k hk (by omega)⟩,rfl,Ex.refl _ _⟩
theorem Cj.ex {w w':World} {B N T:Nat} {Y:Nat->Prop} {v:Value} {l:List Tm} {xs:List Value} (h:Cj w N T Y v l xs) (he:Ex B w w') (hB:B<N) (c:¬Y B):Cj w' N T Y v l xs:=
 ⟨h.own.kept (w' := w') (row := some B) ⟨he.os, he.tape, he.output, he.size, λj d f => he.block j d (λe => f (by rw [e]))⟩ (Ae (λe => by have := (h.own.lt B e).1; omega)),
  h.row.imp λa l g=>((g.mono (Y:=λb=>(Y b∨(N<=b/\some b≠v.ownBlock))/\b<w.heap.size) λb h1 h2=>⟨h1,h2⟩).kept λb hb=>he.block b hb.2 (λe=>by
   rcases hb.1 with h1|h1
   ·rw[e]at h1; exact c h1
   ·omega)).mono λb hb _=>hb.1⟩
theorem Ex.grown {B:Nat} {a w w':World} {row:Option Nat} (h:Ex B a w) (b:w.grownBy w' row) (c:∀k,row=some k->a.heap.size<=k):Ex B a w':=
 ⟨b.os.trans h.os,b.tape.trans h.tape,b.output.trans h.output,AN h.size b.size,λk hk d=>(b.block k (BO hk h.size) (λe=>by have:=c k e.symm; omega)).trans (h.block k hk d)⟩
theorem Ex.setNew {B:Nat} {a w:World} (h:Ex B a w) {b:Nat} (hb:a.heap.size<=b) (i:Nat) (v:Value):Ex B a (w.setCell (zD b i) v):=
 ⟨h.os,h.tape,h.output,by simpa [World.setCell] using h.size,λk hk c=>(Al _ _ _ _ (by simp; omega)).trans (h.block k hk c)⟩
theorem Wo {w:World} (a b c:Obj):Below w.heap.size w (((w.alloc a).alloc b).alloc c):=(EC a b).alloc (by simp; omega) c
theorem PZ {w:World} (a b c d:Obj):Below w.heap.size w ((((w.alloc a).alloc b).alloc c).alloc d):=(Wo a b c).alloc (by simp; omega) d
def Gx (w:World) (F:Nat) (sv:Value) (t:Tm) (n:Nat) (e:Ending) (w':World):Prop:=
 ∃(s':ByteArray) (a':Option Addr) (l' c':Nat) (m:Int),e=.returned (.agg #[.string s',.slice a' l' c'])/\Ab w' F #[zA m,sv] 144/\Ex F w w'/\(Ah [t]<=n->m=(n:Int)-Ah [t]/\s'=t.name/\l'=t.args.length/\Sl w' (λb=>w.heap.size<=b) a' t.args)/\(n<Ah [t]->m=-1)
theorem Wp (F:Nat) (g:Value) (t:Tm) (n:Nat) (a:Option Addr) (c:Nat) (w:World) (af:F<w.heap.size) (h:Calls prog 122 #[zC F,.agg (zG t a c),.func (.func 123) #[zC F] #[]] ((w.alloc (.cells (zG t a c) 61)).alloc (.cells #[.string ⟨#[]⟩,zB] 61)) λe w'=>Gx ((w.alloc (.cells (zG t a c) 61)).alloc (.cells #[.string ⟨#[]⟩,zB] 61)) F g t n e w'):
  Calls prog 123 #[zC F,.agg (zG t a c)] w λe w'=>Gx w F g t n e w':=by
 have ag:=@hmq prog;have H:=Aa h;clear h;go_enter func123,ntmps123;go_wp2_with fail;refine H.o.mono ?_;rintro e w1 ⟨s',i,l',c',m,rfl,j,d,k,l⟩;have f:Hid (Ab w1 (w.heap.size+1) #[.string ⟨#[]⟩,zB] 61):=Aa (by have h:=(Ab.new (w.alloc (.cells (zG t a c) 61)) #[.string ⟨#[]⟩,zB] 61).ex d (by simp; omega);simpa using h);have q:=Aa ((((Ex.refl F w).alloc (.cells (zG t a c) 61)).alloc (.cells #[.string ⟨#[]⟩,zB] 61)).trans d);have r:=Aa j;have s:=Aa k;have u:=Aa l;clear j d k l;have x:=f.o.c0;have y:=f.o.c1;have rf:=f.o.frozen;go_wp2_with fail;refine Ao (v:=.agg #[.string s',.slice i l' c']) (by simp[results,results123,go_sem,AK,AB,x,y]) rfl ?_;refine⟨s',i,l',c',m,rfl,(r.o.setOther _ _ (by omega)).setOther _ _ (by omega),(q.o.setNew (by omega) _ _).setNew (by omega) _ _,λh=>?_,u.o⟩;obtain⟨h1,h2,h3,z⟩:=s.o h;refine⟨h1,h2,h3,(z.kept λb hb=>?_).mono λb hb _=>by simp at hb; omega⟩;simp at hb;rw[Al _ _ _ _ (by simp; omega),Al _ _ _ _ (by simp; omega)]
theorem Sl.ex {w w':World} {F:Nat} {X:Nat->Prop} {a:Option Addr} {l:List Tm} (h:Sl w X a l) (he:Ex F w w') (c:∀b,X b->b≠F):Sl w' X a l:=
 ((h.mono (Y:=λb=>X b/\b<w.heap.size) λb h1 h2=>⟨h1,h2⟩).kept λb hb=>he.block b hb.2 (c b hb.1)).mono λb hb _=>hb.1
def Ja (w:World) (F O:Nat) (s:ByteArray) (u:Value) (cF:Array Value) (wr:World):Prop:=
 Ex F w wr/\Ab wr (w.heap.size+1) #[.string ⟨#[]⟩,zB] 61/\Ab wr O #[.string s,u] 61/\Ab wr F cF 144/\O<wr.heap.size
theorem LJ {w wr w1 w3:World} {F O:Nat} {s:ByteArray} {u v:Value} {i g:Array Value} {a:Obj} (af:F<w.heap.size) (hO:w.heap.size+2<=O) (h:Ja w F O s u i wr) (hu:∀k,u.ownBlock=some k->O+1<=k)
  (d:Ex F wr w1) (j:Ab w1 F g 144) (c:(w1.alloc a).grownBy w3 u.ownBlock):Ja w F O s v g (w3.setCell (zD O 1) v):=by
 obtain⟨h1,h2,h3,h4,h5⟩:=h;have f:∀b,b<O+1->some b≠u.ownBlock:=λb hb e=>by have:=hu b e.symm; omega
 have ag:=d.size;have l:=c.size;simp at l;refine⟨(((h1.trans d).alloc a).grown c (λk hk=>by have:=hu k hk; omega)).setNew (by omega) _ _,?_,?_,?_,by simp[World.setCell]; omega⟩
 ·exact(((h2.ex d (by omega)).alloc a).grown c (f _ (by omega))).setOther _ _ (by omega)
 ·exact(((h3.ex d (by omega)).alloc a).grown c (f _ (by omega))).set 1 _
 ·exact((j.alloc a).grown c (f _ (by omega))).setOther _ _ (by omega)
theorem Qe {wr w1 w3:World} {F O:Nat} {u:Value} {L:List Tm} {xs:List Value} {a:Obj} {s':ByteArray} {c:Option Addr} {d c1 g cap:Nat} {t:Tm} (ai:F<O) (hOr:O<wr.heap.size) (e:Cj wr (O+1) 61 (λ_=>False) u L xs)
  (f:Ex F wr w1) (ht:TV w1 (λb=>wr.heap.size<=b) (.agg #[.string s',.slice c d c1]) t)
  (i:w3.ownsRow (O+1) 61 2 (.slice (some (zD g 0)) (L.length+1) cap) (L.length+1) (xs++[.string s',.slice c d c1])) (j:(w1.alloc a).grownBy w3 u.ownBlock) (k:u.ownBlock=some g∨g=(w1.alloc a).heap.size):
  Cj (w3.setCell (zD O 1) (.slice (some (zD g 0)) (L.length+1) cap)) (O+1) 61 (λ_=>False) (.slice (some (zD g 0)) (L.length+1) cap) (L++[t]) (xs++[.string s',.slice c d c1]):=by
 obtain⟨wm,l,aj,m⟩:=f.mid;have n:=e.ex m (by omega) (λh=>h);exact(n.push (w1:=w1) (w2:=w1.alloc a) (w3:=w3) (by omega) (λ_ h=>h.elim) l (ht.mono λb h _=>Ae (by omega)) a rfl i j k).setCell (by omega) (λh=>h) _
def Qf (w:World) (F O:Nat) (s:ByteArray) (sv:Value) (l:List Tm) (n:Nat) (i:Value) (wr:World):Prop:=
 ∃(k:Nat) (u:Value),k<=l.length/\i=zA k/\
  ((∃(m:Nat) (xs:List Value),(m:Int)=(n:Int)-1-Ah (l.take k)/\Ja w F O s u #[zA m,sv] wr/\Cj wr (O+1) 61 (λ_=>False) u (l.take k) xs)∨
   (n<1+Ah l/\Ja w F O s u #[zA (-1),sv] wr/\∃a9 l9 c9,u=.slice a9 l9 c9))
theorem LK (F:Nat) (A:Value) (t:Tm):∀(n:Nat) (v:Value) (w:World) (X:Nat->Prop),TV w X v t->(∀b,X b->b≠F)->n<=1000000->Ab w F #[zA n,A] 144->
  Calls prog 122 #[zC F,v,.func (.func 123) #[zC F] #[]] w λe w'=>Gx w F A t n e w':=by
 induction t using Tm.ind with
 |h s l ih=>
  intro n v w X hv aC hn hF;obtain⟨a,c,rfl,U⟩:=hv;have IH:=Aa ih;clear ih;obtain⟨i0,aD,aE,aF,aG⟩:=Dq Tryz.infoTerm;have f0:∀o,(w.alloc o).cell? (zD F 0)=some (zA n):=λo=>(hF.alloc o).cell 0;have ff:∀o,(w.alloc o).frozen? (zD F 0)=false:=λo=>(hF.alloc o).frozen 0;have aH:F<w.heap.size:=hF.lt;go_enter func122,ntmps122;go_wp2_with fail;have E3:Hid (Ja w F (w.heap.size+1+1) s zB #[zA ((n:Int)-1),A] ((((w.setCell (zD F 0) (zA ((n:Int)-1))).alloc (.cells #[.string s,.slice a l.length c] 61)).alloc (.cells #[.string ⟨#[]⟩,zB] 61)).alloc (.cells #[.string s,zB] 61))):=by
   refine⟨((((Ex.refl F w).set 0 _).alloc _).alloc _).alloc _,?_,?_,(((hF.set 0 _).alloc _).alloc _).alloc _,by simp[World.setCell]⟩
   ·have h:=(Ab.new ((w.setCell (zD F 0) (zA ((n:Int)-1))).alloc (.cells #[.string s,.slice a l.length c] 61)) #[.string ⟨#[]⟩,zB] 61).alloc (.cells #[.string s,zB] 61);simpa [World.setCell] using h
   ·have h:=Ab.new (((w.setCell (zD F 0) (zA ((n:Int)-1))).alloc (.cells #[.string s,.slice a l.length c] 61)).alloc (.cells #[.string ⟨#[]⟩,zB] 61)) #[.string s,zB] 61;simpa [World.setCell] using h
  generalize ((((w.setCell (zD F 0) (zA ((n:Int)-1))).alloc (.cells #[.string s,.slice a l.length c] 61)).alloc (.cells #[.string ⟨#[]⟩,zB] 61)).alloc (.cells #[.string s,zB] 61))=w3 at *;generalize aK:w.heap.size+1+1=O at *;have hO:w.heap.size+2<=O:=by omega
  clear aK;clear f0 ff;have HS:=Aa U;have hl:=U.1;have V:=Aa aC;have hz:Ah [(⟨s,l⟩:Tm)]=1+Ah l:=by simp[Ah]
  clear U aC;go_loopw [23] (λi wr=>Qf w F O s A l n i wr) (λi wr=>l.length-(intOf i).toNat);case atStart=>
   refine⟨0,zB,Bm _,rfl,?_⟩;by_cases aL:n=0
   ·subst aL;exact Ae ⟨by omega,E3.o,none,0,0,rfl⟩
   ·refine Ad ⟨n-1,[],by simp[Ah]; omega,?_,Cj.start _ _ _ _⟩;rw[show((n-1:Nat):Int)=(n:Int)-1 by omega];exact E3.o
  case round=>
   obtain⟨k,u,hk,rfl,ak⟩:=hrel;rcases ak with ⟨m,xs,hm,H,al⟩|⟨aM,H,a9,I,c9,rfl⟩
   ·have d:=Aa H;have z:=Aa al;have ar:=Aa hm;clear H al;by_cases D:k<l.length
    ·obtain⟨b,o,r,c',rfl,d0,d1,hx⟩:=(HS.o.ex d.o.1 V.o).get (Ac _ _) (λ_ _ h=>h) k D;obtain⟨av,cv,ev,aN⟩:=hx;simp at ev;obtain⟨rfl,rfl⟩:=ev;have aO:m<=1000000:=(by omega);have G:Hid (O≠F):=Aa (by omega);have an:Hid (F<O+1):=Aa (by omega);have hlen:=Hw l;have W:(l.take k).length=k:=by simp; omega
     have aU:k<=1000000:=by have h1:=Hw (l.take k); rw[W] at h1; omega
     have N:Hid ((l.take k).length+1<=maxLen/\((l.take k).length+1)*40<=140737488355328):=Aa (by rw[W];exact⟨by unfold maxLen; omega,by omega⟩);clear W;have P:Hid (Calls prog 123 #[zC F,.agg (zG l[k] r c')] (wr.alloc (.cells (zG l[k] r c') 61)).drew λe y=>Gx (wr.alloc (.cells (zG l[k] r c') 61)).drew F A l[k] m e y):=Wp F A l[k] m r c' _ (by have:=d.o.1.size; simp; omega) (IH.o l[k] (Bu D) m _ _ X ⟨r,c',rfl,((aN.later ((Ac _ _).alloc (Ag _) (.cells (zG l[k] r c') 61))).later ((Ac _ _).drew)).later (((Ac _ _).alloc (Ag _) _).alloc (by simp) _)⟩ V.o aO (by exact((((d.o.2.2.2.1.alloc _).drewN 1).alloc _).alloc _)));have f0:∀o,(wr.alloc o).cell? (zD F 0)=some (zA m):=λo=>(d.o.2.2.2.1.alloc o).cell 0;have Y:∀o,(wr.alloc o).cell? (zD O 1)=some u:=λo=>(d.o.2.2.1.alloc o).cell 1;have aV:¬(m:Int)<0:=(by omega);by_cases hle:Ah [l[k]]<=m
     ·have Z:Hid (Calls prog 123 #[zC F,.agg (zG l[k] r c')] (wr.alloc (.cells (zG l[k] r c') 61)).drew λe y=>∃q c1,e=.returned (.agg (zG l[k] q c1))/\Ab y F #[zA ((m:Int)-Ah [l[k]]),A] 144/\Ex F wr y/\Sl y (λb=>wr.heap.size<=b) q l[k].args):=P.o.mono λe y hp=>by
       obtain⟨s1,q,l1,c1,m1,h1,h2,h3,h4,_⟩:=hp;obtain⟨rfl,rfl,rfl,h5⟩:=h4 hle;exact⟨q,c1,h1,h2,(((Ex.refl F wr).alloc _).drew).trans h3,h5.mono λb hb _=>by simp at hb; omega⟩
      clear P;go_wp2_with fail;go_region_law (first
       | (go_simp; go_at_call 123; refine Z.o.mono ?_; rintro e w1 ⟨q,c1,rfl,J,f,aI⟩; have a6:∀o,(w1.alloc o).cell? (zD O 1)=some u:=λo=>((Ab.ex d.o.2.2.1 f G.o).alloc o).cell 1; have a7:w1.cell? (zD O 1)=some u:=(Ab.ex d.o.2.2.1 f G.o).cell 1)
       | (refine step_append_lies _ rfl _ _ 59 rfl (O+1) 61 i0 _ 2 40 underlying59 aD aE aF aG rfl (by decide) u (l.take k).length xs rfl (by exact(Cj.ex (B:=F) z.o f an.o (λh=>h)).own.alloc _) (zD w1.heap.size 0) 1 1 [.string l[k].name,.slice q l[k].args.length c1] rfl rfl (cell_two_new _ _ _ _) (λx hx=>by simp at hx; rcases hx with rfl|rfl<;>rfl) (by decide) N.o.1 N.o.2 (by have:=f.size; have:=d.o.2.2.2.2; simp; omega) _ rfl ?_; intro g cap w3 R C T ah; have E:=Aa (((Ab.ex d.o.2.2.1 f G.o).alloc _).grown C (z.o.ne (Dx _))); have a8:w3.cell? (zD O 1)=some u:=E.o.cell 1; have aA:=E.o.frozen 1))
      all_goals
       have HK:=Aa (LJ (v:=.slice (some (zD g 0)) ((l.take k).length+1) cap) aH hO d.o (λj hj=>(z.o.own.lt j hj).1) f J C);have aP:=Aa (Qe (by omega) d.o.2.2.2.2 z.o f ⟨q,c1,rfl,aI⟩ R C T);clear R C T a6 a7 a8 aA E J f aI ah;go_wp2_with fail;go_roundw
       case rel=>
        have aB:(l.take k).length=k:=by simp; omega
        have h1:=HK.o;have h2:=aP.o;have aJ:=ar.o;simp only[aB] at h1 h2;refine⟨k+1,.slice (some (zD g 0)) (k+1) cap,by omega,by go_num,Ad ⟨m-Ah [l[k]],xs++[.string l[k].name,.slice q l[k].args.length c1],by rw[Ht l k D]; omega,?_,?_⟩⟩
        ·rw[show((m-Ah [l[k]]:Nat):Int)=(m:Int)-Ah [l[k]] by omega];exact h1
        ·rw[CB D];exact h2
       case measure=>simp[intOf]; omega
     ·have Z:Hid (Calls prog 123 #[zC F,.agg (zG l[k] r c')] (wr.alloc (.cells (zG l[k] r c') 61)).drew λe y=>∃s1 q l1 c1,e=.returned (.agg #[.string s1,.slice q l1 c1])/\Ab y F #[zA (-1),A] 144/\Ex F wr y):=P.o.mono λe y hp=>by
       obtain⟨s1,q,l1,c1,m1,h1,h2,h3,_,h4⟩:=hp;obtain rfl:=h4 (by omega);exact⟨s1,q,l1,c1,h1,h2,(((Ex.refl F wr).alloc _).drew).trans h3⟩
      clear P;go_wp2_with fail;go_region_law (first
       | (go_simp; go_at_call 123; refine Z.o.mono ?_; rintro e w1 ⟨s1,q,l1,c1,rfl,J,f⟩; have a6:∀o,(w1.alloc o).cell? (zD O 1)=some u:=λo=>((Ab.ex d.o.2.2.1 f G.o).alloc o).cell 1; have a7:w1.cell? (zD O 1)=some u:=(Ab.ex d.o.2.2.1 f G.o).cell 1)
       | (refine step_append_lies _ rfl _ _ 59 rfl (O+1) 61 i0 _ 2 40 underlying59 aD aE aF aG rfl (by decide) u (l.take k).length xs rfl (by exact(Cj.ex (B:=F) z.o f an.o (λh=>h)).own.alloc _) (zD w1.heap.size 0) 1 1 [.string s1,.slice q l1 c1] rfl rfl (cell_two_new _ _ _ _) (λx hx=>by simp at hx; rcases hx with rfl|rfl<;>rfl) (by decide) N.o.1 N.o.2 (by have:=f.size; have:=d.o.2.2.2.2; simp; omega) _ rfl ?_; intro g cap w3 R C T ah; have E:=Aa (((Ab.ex d.o.2.2.1 f G.o).alloc _).grown C (z.o.ne (Dx _))); have a8:w3.cell? (zD O 1)=some u:=E.o.cell 1; have aA:=E.o.frozen 1))
      all_goals
       have HK:=Aa (LJ (v:=.slice (some (zD g 0)) ((l.take k).length+1) cap) aH hO d.o (λj hj=>(z.o.own.lt j hj).1) f J C);clear R C T a6 a7 a8 aA E J f ah;go_wp2_with fail;go_roundw
       case rel=>
        have aB:(l.take k).length=k:=by simp; omega
        have h0:=HK.o;have aJ:=ar.o;simp only[aB] at h0;refine⟨k+1,.slice (some (zD g 0)) (k+1) cap,by omega,by go_num,Ae ⟨?_,h0,_,_,_,rfl⟩⟩;have h1:=Ht l k D;have h2:=IZ l (k+1);omega
       case measure=>simp[intOf]; omega
    ·have aQ:l.take k=l:=Bv (by omega);rw[aQ]at z ar;obtain⟨a9,c9,aR,aq⟩:=z.o.sl;subst aR;have S9:=Aa aq;clear aq;have L:=d.o.2.1.c0;have M:=d.o.2.1.c1;have rf:=d.o.2.1.frozen;have o0:=d.o.2.2.1.c0;have Y:=d.o.2.2.1.c1;go_wp2_with fail;refine Ao (v:=.agg #[.string s,.slice a9 l.length c9]) (by simp[results,results122,go_sem,AK,AB,L,M]) rfl ?_;have aJ:=ar.o;refine⟨s,a9,l.length,c9,m,rfl,(d.o.2.2.2.1.setOther _ _ (by omega)).setOther _ _ (by omega),(d.o.1.setNew (by omega) _ _).setNew (by omega) _ _,λh=>⟨by rw[hz]; omega,rfl,rfl,(S9.o.kept λb hb=>?_).mono λb hb _=>?_⟩,λh=>by omega⟩
     ·have aS:O+1<=b:=hb.elim False.elim id;rw[Al _ _ _ _ (by simp; omega),Al _ _ _ _ (by simp; omega)]
     ·have aS:O+1<=b:=hb.elim False.elim id;omega
   ·have d:=Aa H;clear H;have f0:∀o,(wr.alloc o).cell? (zD F 0)=some (zA (-1)):=λo=>(d.o.2.2.2.1.alloc o).cell 0;by_cases D:k<l.length
    ·obtain⟨b,o,r,c',rfl,d0,d1,hx⟩:=(HS.o.ex d.o.1 V.o).get (Ac _ _) (λ_ _ h=>h) k D;clear hx;have o0:∀o,(wr.alloc o).cell? (zD O 0)=some (.string s):=λo=>(d.o.2.2.1.alloc o).cell 0;have Y:∀o,(wr.alloc o).cell? (zD O 1)=some (.slice a9 I c9):=λo=>(d.o.2.2.1.alloc o).cell 1;have L:=d.o.2.1.c0;have M:=d.o.2.1.c1;have rf:=d.o.2.1.frozen;have aT:w.heap.size+1<wr.heap.size:=d.o.2.1.lt;go_wp2_with fail;refine Ao (v:=.agg #[.string s,.slice a9 I c9]) (by simp[results,results122,go_sem,AK,AB,L,M,aT,EA]) rfl ?_;exact⟨s,a9,I,c9,-1,rfl,((d.o.2.2.2.1.setOther _ _ (by omega)).setOther _ _ (by omega)).alloc _,((d.o.1.setNew (by omega) _ _).setNew (by omega) _ _).alloc _,λh=>by omega,λ_=>rfl⟩
    ·have L:=d.o.2.1.c0;have M:=d.o.2.1.c1;have rf:=d.o.2.1.frozen;have o0:=d.o.2.2.1.c0;have Y:=d.o.2.2.1.c1;go_wp2_with fail;refine Ao (v:=.agg #[.string s,.slice a9 I c9]) (by simp[results,results122,go_sem,AK,AB,L,M]) rfl ?_;exact⟨s,a9,I,c9,-1,rfl,(d.o.2.2.2.1.setOther _ _ (by omega)).setOther _ _ (by omega),(d.o.1.setNew (by omega) _ _).setNew (by omega) _ _,λh=>by omega,λ_=>rfl⟩
def Qg (ls:List Bd):Prop:=∀k (h:k<ls.length),AC (ls.take k) ls[k].nm=none
def DS (w:World) (X:Nat->Prop):List Bd->List (ByteArray×Value)->Prop
 | [],L=>L=[]
 |d::r,L=>∃a c L',L=(d.nm,.agg (zG d.t a c))::L'/\Sl w X a d.t.args/\DS w X r L'
theorem DS.imp {w w':World} {X Y:Nat->Prop} (b:∀a l,Sl w X a l->Sl w' Y a l):∀ {l:List Bd} {L:List (ByteArray×Value)},DS w X l L->DS w' Y l L
 | [],L,h=>h
 |d::r,L,h=>by obtain⟨a,c,f,e,h1,h2⟩:=h; exact⟨a,c,f,e,b _ _ h1,DS.imp b h2⟩
theorem DS.push {w:World} {X:Nat->Prop} {d:Bd} {a:Option Addr} {c:Nat} (b:Sl w X a d.t.args):∀ {l:List Bd} {L:List (ByteArray×Value)},DS w X l L->DS w X (l++[d]) (L++[(d.nm,.agg (zG d.t a c))])
 | [],L,h=>by
  have e:L=[]:=h;subst e;exact⟨a,c,[],rfl,b,rfl⟩
 |d'::r,L,h=>by obtain⟨f,c',L',e,h1,h2⟩:=h; subst e; exact⟨f,c',_,rfl,h1,DS.push b h2⟩
theorem DS.get {w:World} {X:Nat->Prop} (n:ByteArray):∀ {l:List Bd} {L:List (ByteArray×Value)},DS w X l L->(AC l n=none->BG L n=none)/\(∀t,AC l n=some t->∃a c,BG L n=some (.agg (zG t a c))/\Sl w X a t.args)
 | [],L,h=>by
  have e:L=[]:=h;subst e;exact⟨λ_=>rfl,λt h=>by simp[AC] at h⟩
 |d::r,L,h=>by
  obtain⟨a,c,L',rfl,h1,h2⟩:=h;obtain⟨g1,g2⟩:=DS.get n h2;by_cases hd:d.nm=n
  ·refine⟨λh=>by simp[AC,hd] at h,λt h=>?_⟩;rw[AC,Aq hd]at h;cases h;exact⟨a,c,by simp[BG,hd],h1⟩
  ·refine⟨λh=>?_,λt h=>?_⟩
   ·rw[AC,Am hd]at h;simp only[BG,hd,if_false];exact g1 h
   ·rw[AC,Am hd]at h;simp only[BG,hd,if_false];exact g2 t h
def Wq (w:World) (X:Nat->Prop) (ls:List Bd) (v:Value) (wr:World):Prop:=∃(k:Nat) (L:List (ByteArray×Value)),v=zA k/\k<=ls.length/\BC wr w.heap.size L/\DS wr (λb=>X b/\b<w.heap.size) (ls.take k) L/\Below w.heap.size w wr
theorem Qh (ls:List Bd) (ho:Qg ls) (u:Value) (w:World) (X:Nat->Prop) (hu:BV w X u ls):
  Calls prog 89 #[u] w λe w'=>∃L,e=.returned (.map (some w.heap.size))/\BC w' w.heap.size L/\DS w' (λb=>X b/\b<w.heap.size) ls L/\Below w.heap.size w w':=by
 have H:=Aa hu;obtain⟨a,c,rfl,hl,g⟩:=hu;clear g;have av:=@run_makeMap prog;go_enter func89,ntmps89;go_wp2_with fail;go_loopw [9] (λv wr=>Wq w X ls v wr) (λv wr=>ls.length-(intOf v).toNat);case atStart=>exact⟨0,[],rfl,Bm _,BC.new w,rfl,(Ac _ _).alloc (Ag _) _⟩
 case round=>
  obtain⟨k,L,rfl,hk,n,hP,hb⟩:=hrel;have z:=Aa n;have r:=Aa hP;have s:=Aa hb;by_cases x:k<ls.length
  ·obtain⟨b,o,i,c',rfl,d0,d1,d2,A⟩:=((H.o.mono (Y:=λb=>X b/\b<w.heap.size) λb h1 h2=>⟨h1,h2⟩).later hb).get k x;have ak:(k:Int)<(ls.length:Int):=(by omega);have I:=Aa A;have B:=(hP.get ls[k].nm).1 (ho k x);have f:ls.take (k+1)=ls.take k++[ls[k]]:=CB x;have J:=Aa f;have M:=n.lt;clear hb A n hP f;generalize ls[k]=d at *;obtain⟨w2,ao,C,D,E,F,g,y⟩:=Lj (P:=prog) (w:=wr.alloc (.cells #[.string d.nm,.string d.t.name,.slice i d.t.args.length c'] 93)) underlying131 underlying9 (z.o.kept (BH _ _ _ M)) d.nm (.agg (zG d.t i c')) B;have N:=Aa C;have ar:Hid (Below w.heap.size w w2):=by
    have h0:=s.o.alloc s.o.size (.cells #[.string d.nm,.string d.t.name,.slice i d.t.args.length c'] 93);exact⟨E.trans h0.os,F.trans h0.tape,g.trans h0.output,by rw[D]; exact h0.size,λj m=>(y j (by omega)).trans (h0.block j m)⟩
   have O:Hid (DS w2 (λb=>X b/\b<w.heap.size) (ls.take (k+1)) (L++[(d.nm,.agg (zG d.t i c'))])):=Aa (by have G:∀q l,Sl wr (λb=>X b/\b<w.heap.size) q l->Sl w2 (λb=>X b/\b<w.heap.size) q l:=λq l h=>h.kept λj m=>(y j (by have:=m.2; omega)).trans (BH _ _ _ (by have:=m.2; omega));rw[J.o];exact DS.push (G _ _ I.o) (r.o.imp G));clear C D E F g y B;go_wp2_with fail;go_roundw
   case rel=>exact⟨k+1,_,by go_num,by omega,N.o,O.o,ar.o⟩
   case measure=>simp[intOf]; omega
  ·have f:ls.take k=ls:=Bv (by omega);rw[f]at r;clear hP f;go_wp2_with fail;go_ret;exact⟨L,rfl,z.o,r.o,s.o⟩
theorem Ny (r:Nat) (w:World):
  Calls prog 88 #[.map (some r)] w λe w'=>e=.returned (.func (.func 108) #[] #[zC w.heap.size])/\w'=w.alloc (.cells #[.map (some r)] 131):=by
 have aa:=@hmq prog;go_enter func88,ntmps88;go_wp2_with fail;go_ret;exact⟨rfl,rfl⟩
theorem Qi (ls:List Bd) (n:ByteArray) (B r:Nat) (L:List (ByteArray×Value)) (w:World) (X:Nat->Prop) (h:Ab w B #[.map (some r)] 131) (i:BC w r L) (hP:DS w X ls L):
  Calls prog 108 #[.string n,zC B] w λe w'=>Below w.heap.size w w'/\((∃t a c,AC ls n=some t/\e=.returned (.tuple #[.agg (zG t a c),.bool true])/\Sl w X a t.args)∨(AC ls n=none/\e=.returned (.tuple #[.agg #[.string ⟨#[]⟩,zB],.bool false]))):=by
 have c0:∀o,(w.alloc o).cell? (zD B 0)=some (.map (some r)):=λo=>(h.alloc o).cell 0;have hlt:B<w.heap.size:=h.lt;have hz:∀w',(zeroValue 61).run prog w'=.ok (.agg #[.string ⟨#[]⟩,zB]) w':=λw'=>zeroValue61 w';have j:=λo:Obj=>i.kept (BH w o _ i.lt);cases b:AC ls n with
 |none=>
  have d:=(hP.get n).1 b;have l:∀o,(Instr.lookup 131 (.map (some r)) (.string n) true).run prog (w.alloc o)=.ok (.tuple #[.agg #[.string ⟨#[]⟩,zB],.bool false]) (w.alloc o):=λo=>by
   rw[Hx (P:=prog) underlying131 underlying9 (hz _) (j o) n,d]; rfl
  have m:=Aa b;clear b d j hP i h;go_enter func108,ntmps108;go_wp2_with fail;have f:=((Ab.new w #[.string ⟨#[]⟩,zB] 61).alloc (.cells #[.string ⟨#[]⟩,zB] 61)).cell 0;have g:=((Ab.new w #[.string ⟨#[]⟩,zB] 61).alloc (.cells #[.string ⟨#[]⟩,zB] 61)).cell 1;simp at f g;refine Ao (v:=.tuple #[.agg #[.string ⟨#[]⟩,zB],.bool false]) (by simp[results,results108,go_sem,f,g]) rfl ?_;exact⟨((Ac _ _).alloc (Ag _) _).alloc (by simp) _,Ae ⟨by trivial,rfl⟩⟩
 |some t=>
  obtain⟨a,c,d,k⟩:=(hP.get n).2 t b;have l:∀o,(Instr.lookup 131 (.map (some r)) (.string n) true).run prog (w.alloc o)=.ok (.tuple #[.agg (zG t a c),.bool true]) (w.alloc o):=λo=>by
   rw[Hx (P:=prog) underlying131 underlying9 (hz _) (j o) n,d]; rfl
  have m:=Aa b;have q:=Aa k;clear b d k j hP i h;go_enter func108,ntmps108;go_wp2_with fail;have f:=((Ab.new w (zG t a c) 61).alloc (.cells (zG t a c) 61)).cell 0;have g:=((Ab.new w (zG t a c) 61).alloc (.cells (zG t a c) 61)).cell 1;simp at f g;refine Ao (v:=.tuple #[.agg (zG t a c),.bool true]) (by simp[results,results108,go_sem,f,g]) rfl ?_;exact⟨((Ac _ _).alloc (Ag _) _).alloc (by simp) _,Ad ⟨t,a,c,rfl,rfl,q.o⟩⟩
