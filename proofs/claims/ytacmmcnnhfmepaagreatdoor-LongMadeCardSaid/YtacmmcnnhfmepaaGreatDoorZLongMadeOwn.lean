import Derived.Test.YtacmmcnnhfmepaaGreatDoorSq
import Derived.WalkKit
import Derived.WalkSpells
import Derived.WalkLawsBesides
import Derived.Test.YtacmmcnnhfmepaaGreatDoorRows
import Derived.Deep.AppendLies
import Derived.Deep.RegionHeld3
import Derived.BigQuiet
import Derived.Deep.RegionHeld
import Derived.Deep.RegionLaw
import Derived.Deep.RegionWith
import Derived.Deep.DeepCutAuto
import Derived.WideMake
namespace Go.Proofs.YtacmmcnnhfmepaaGreatDoor
set_option linter.all false
set_option maxRecDepth 9999
set_option maxHeartbeats 0
open Go.RowKit Go.Proofs.Tryz
variable {w w' w1 w2 w3 wr:World} {X Y:Nat->Prop} {a:Option Addr} {B N T b base c cap e g i k m n o r size:Nat} {v v0 v1 v2 v3 v4 v5 v6 z:Value} {l xs:List Value} {P:Program} {cs:Array Value} {s:ByteArray} {x:Int} {d f:Addr} {L:List (ByteArray×Value)} {α:Type} {acc:List ByteArray}
theorem Aa {p:Prop} (h:p):Hid p:=h
structure Tm where
 name:ByteArray
 args:List Tm
abbrev zG (t:Tm) (a:Option Addr) (c:Nat):Array Value:=#[.string t.name,.slice a t.args.length c]
abbrev zh (t:Tm) (a:Option Addr) (c:Nat):Obj:=.cells (zG t a c) 61
theorem Tm.ind {P:Tm->Prop} (h:∀s l,(∀x∈l,P x)->P ⟨s,l⟩) (t:Tm):P t:=
 Tm.rec (motive_1:=P) (motive_2:=λl=>∀x∈l,P x) (λs l b=>h s l b) (λx hx=>by cases hx)
  (λa l c d x hx=>by
   rcases Ct.1 hx with e|e
   ·subst e; exact c
   ·exact d x e) t
theorem Tm.indL {P:List Tm->Prop} (h0:P []) (h:∀s l r,P l->P r->P (⟨s,l⟩::r)) (l:List Tm):P l:=
 Tm.rec_1 (motive_1:=λt=>P t.args) (motive_2:=P) (λ_ _ b=>b) h0 (λa l c d=>by obtain⟨s,k⟩:=a; exact h s k l c d) l
def Ah:List Tm->Nat
 | []=>0
 | ⟨_,l⟩::r=>1+Ah l+Ah r
theorem Gf (a b:List Tm):Ah (a++b)=Ah a+Ah b:=by
 induction a with
 |nil=>simp[Ah]
 |cons t r c=>obtain⟨s,l⟩:=t; simp only[Dj,Ah,c]; omega
def DT (w:World) (X:Nat->Prop):Nat->Nat->List Tm->Prop
 |_,_,[]=>True
 |b,o,⟨s,l⟩::r=>X b/\w.cell? (zD b o)=some (.string s)/\
   (∃a c,w.cell? ⟨b,o+1,none⟩=some (.slice a l.length c)/\l.length<=9223372036854775807/\(l=[]∨∃b' o',a=some (zD b' o')/\DT w X b' o' l))/\DT w X b (o+2) r
def Sl (w:World) (X:Nat->Prop) (a:Option Addr) (l:List Tm):Prop:=l.length<=9223372036854775807/\(l=[]∨∃b o,a=some (zD b o)/\DT w X b o l)
def TV (w:World) (X:Nat->Prop) (v:Value) (t:Tm):Prop:=∃a c,v=.agg (zG t a c)/\Sl w X a t.args
theorem VZ (h:∀b,X b->w'.heap[b]? = w.heap[b]?) (l:List Tm):∀b o,DT w X b o l->DT w' X b o l:=by
 induction l using Tm.indL with
 |h0=>intro b o _; simp[DT]
 |h s l r e f=>
  intro b o d;simp only[DT] at d ⊢;obtain⟨hx,h1,⟨a,c,h2,g,h3⟩,i⟩:=d;refine⟨hx,by rw[DI (h b hx)]; exact h1,⟨a,c,by rw[DI (h b hx)]; exact h2,g,?_⟩,f _ _ i⟩;rcases h3 with h3|⟨b',o',h3,h5⟩
  ·exact Ad h3
  ·exact Ae ⟨b',o',h3,e _ _ h5⟩
theorem Wa (h:∀b,X b->b<w.heap.size->Y b) (l:List Tm):∀b o,DT w X b o l->DT w Y b o l:=by
 induction l using Tm.indL with
 |h0=>intro b o _; simp[DT]
 |h s l r f g=>
  intro b o d;simp only[DT] at d ⊢;obtain⟨hx,h1,⟨a,c,h2,i,h3⟩,j⟩:=d;have hb:b<w.heap.size:=by
   apply Er;intro hn;have e:w.heap[b]? = none:=Iz (by omega);simp[World.cell?,e]at h1
  refine⟨h b hx hb,h1,⟨a,c,h2,i,?_⟩,g _ _ j⟩;rcases h3 with h3|⟨b',o',h3,h5⟩
  ·exact Ad h3
  ·exact Ae ⟨b',o',h3,f _ _ h5⟩
theorem Sl.kept {l:List Tm} (h:Sl w X a l) (hk:∀b,X b->w'.heap[b]? = w.heap[b]?):Sl w' X a l:=by
 obtain⟨c,h⟩:=h;refine⟨c,?_⟩;rcases h with h|⟨b,o,e,h⟩
 ·exact Ad h
 ·exact Ae ⟨b,o,e,VZ hk _ _ _ h⟩
theorem Sl.mono {l:List Tm} (h:Sl w X a l) (hk:∀b,X b->b<w.heap.size->Y b):Sl w Y a l:=by
 obtain⟨c,h⟩:=h;refine⟨c,?_⟩;rcases h with h|⟨b,o,e,h⟩
 ·exact Ad h
 ·exact Ae ⟨b,o,e,Wa hk _ _ _ h⟩
theorem Sl.below {l:List Tm} (h:Sl w X a l) (hb:Below B w w') (c:∀b,X b->b<w.heap.size->b<B):Sl w' X a l:=by
 have h1:Sl w (λb=>X b/\b<B) a l:=h.mono λb hx d=>⟨hx,c b hx d⟩;have h2:Sl w' (λb=>X b/\b<B) a l:=h1.kept λb hx=>hb.block b hx.2;exact h2.mono λb hx _=>hx.1
theorem TV.kept {t:Tm} (h:TV w X v t) (hk:∀b,X b->w'.heap[b]? = w.heap[b]?):TV w' X v t:=by
 obtain⟨a,c,e,h⟩:=h;exact⟨a,c,e,h.kept hk⟩
theorem TV.mono {t:Tm} (h:TV w X v t) (hk:∀b,X b->b<w.heap.size->Y b):TV w Y v t:=by
 obtain⟨a,c,e,h⟩:=h;exact⟨a,c,e,h.mono hk⟩
theorem TV.below {t:Tm} (h:TV w X v t) (hb:Below B w w') (d:∀b,X b->b<w.heap.size->b<B):TV w' X v t:=by
 obtain⟨a,c,e,h⟩:=h;exact⟨a,c,e,h.below hb d⟩
theorem TV.alloc {t:Tm} (h:TV w X v t) (o:Obj):TV (w.alloc o) X v t:=
 h.below ((Ac _ _).alloc (Af _) o) (λ_ _ h=>h)
theorem TV.later {t:Tm} (h:TV w X v t) (hb:Below w.heap.size w w'):TV w' X v t:=h.below hb (λ_ _ h=>h)
theorem Sl.later {l:List Tm} (h:Sl w X a l) (hb:Below w.heap.size w w'):Sl w' X a l:=h.below hb (λ_ _ h=>h)
theorem Lu:∀(l:List Tm) (b o:Nat),DT w X b o l->∀i (h:i<l.length),
  X b/\w.cell? ⟨b,o+i*2,none⟩=some (.string l[i].name)/\∃a c,w.cell? ⟨b,o+i*2+1,none⟩=some (.slice a l[i].args.length c)/\Sl w X a l[i].args:=by
 intro l;induction l with
 |nil=>intro b o _ i h; simp at h
 |cons t r e=>
  intro b o d i h;obtain⟨s,k⟩:=t;simp only[DT] at d;obtain⟨hx,h1,⟨a,c,h2,h3⟩,f⟩:=d;cases i with
  |zero=>exact⟨hx,h1,a,c,h2,h3⟩
  |succ i=>have:=e b (o+2) f i (by simpa using h);simp only[FG];rw[show o+(i+1)*2=o+2+i*2 by omega];exact this
theorem Sl.get {l:List Tm} (h:Sl w X a l) (hb:Below B w wr) (d:∀b,X b->b<w.heap.size->b<B) (k:Nat) (hk:k<l.length):
  ∃b o c c',a=some (zD b o)/\wr.cell? ⟨b,o+k*2,none⟩=some (.string l[k].name)/\wr.cell? ⟨b,o+k*2+1,none⟩=some (.slice c l[k].args.length c')/\TV wr X (.agg (zG l[k] c c')) l[k]:=by
 have h':=h.below hb d;obtain⟨_,h1⟩:=h';rcases h1 with h1|⟨b,o,e,h1⟩
 ·subst h1; simp at hk
 ·obtain⟨_,h2,c,c',h3,f⟩:=Lu _ _ _ h1 k hk;exact⟨b,o,c,c',e,h2,h3,c,c',rfl,f⟩
structure Ty where
 base:Int
 subs:List Ty
abbrev zH (t:Ty) (a:Option Addr) (c:Nat):Array Value:=#[zA t.base,.slice a t.subs.length c]
abbrev zn (t:Ty) (a:Option Addr) (c:Nat):Obj:=.cells (zH t a c) 27
theorem Ty.ind {P:Ty->Prop} (h:∀x l,(∀y∈l,P y)->P ⟨x,l⟩) (t:Ty):P t:=
 Ty.rec (motive_1:=P) (motive_2:=λl=>∀x∈l,P x) (λx l b=>h x l b) (λx hx=>by cases hx)
  (λa l c d x hx=>by
   rcases Ct.1 hx with e|e
   ·subst e; exact c
   ·exact d x e) t
theorem Ty.indL {P:List Ty->Prop} (h0:P []) (h:∀x l r,P l->P r->P (⟨x,l⟩::r)) (l:List Ty):P l:=
 Ty.rec_1 (motive_1:=λt=>P t.subs) (motive_2:=P) (λ_ _ b=>b) h0 (λa l c d=>by obtain⟨x,m⟩:=a; exact h x m l c d) l
def AB:List Ty->Nat
 | []=>0
 | ⟨_,l⟩::r=>1+AB l+AB r
theorem Nu (a b:List Ty):AB (a++b)=AB a+AB b:=by
 induction a with
 |nil=>simp[AB]
 |cons t r c=>obtain⟨x,l⟩:=t; simp only[Dj,AB,c]; omega
theorem Pq (l:List Ty) (k:Nat) (h:k<l.length):AB (l.take (k+1))=AB (l.take k)+AB [l[k]]:=by
 rw[CI h,Nu]
theorem Ps (l:List Ty) (k:Nat):AB (l.take k)<=AB l:=by
 have h:=Nu (l.take k) (l.drop k);rw[FH]at h;omega
def DH (w:World) (X:Nat->Prop):Nat->Nat->List Ty->Prop
 |_,_,[]=>True
 |b,o,⟨x,l⟩::r=>X b/\w.cell? (zD b o)=some (zA x)/\
   (∃a c,w.cell? ⟨b,o+1,none⟩=some (.slice a l.length c)/\l.length<=9223372036854775807/\(l=[]∨∃b' o',a=some (zD b' o')/\DH w X b' o' l))/\DH w X b (o+2) r
def AC (w:World) (X:Nat->Prop) (a:Option Addr) (l:List Ty):Prop:=l.length<=9223372036854775807/\(l=[]∨∃b o,a=some (zD b o)/\DH w X b o l)
def YV (w:World) (X:Nat->Prop) (v:Value) (t:Ty):Prop:=∃a c,v=.agg (zH t a c)/\AC w X a t.subs
theorem Wb (h:∀b,X b->w'.heap[b]? = w.heap[b]?) (l:List Ty):∀b o,DH w X b o l->DH w' X b o l:=by
 induction l using Ty.indL with
 |h0=>intro b o _; simp[DH]
 |h x l r e f=>
  intro b o d;simp only[DH] at d ⊢;obtain⟨hx,h1,⟨a,c,h2,g,h3⟩,i⟩:=d;refine⟨hx,by rw[DI (h b hx)]; exact h1,⟨a,c,by rw[DI (h b hx)]; exact h2,g,?_⟩,f _ _ i⟩;rcases h3 with h3|⟨b',o',h3,h5⟩
  ·exact Ad h3
  ·exact Ae ⟨b',o',h3,e _ _ h5⟩
theorem Wc (h:∀b,X b->b<w.heap.size->Y b) (l:List Ty):∀b o,DH w X b o l->DH w Y b o l:=by
 induction l using Ty.indL with
 |h0=>intro b o _; simp[DH]
 |h x l r f g=>
  intro b o d;simp only[DH] at d ⊢;obtain⟨hx,h1,⟨a,c,h2,i,h3⟩,j⟩:=d;have hb:b<w.heap.size:=by
   apply Er;intro hn;have e:w.heap[b]? = none:=Iz (by omega);simp[World.cell?,e]at h1
  refine⟨h b hx hb,h1,⟨a,c,h2,i,?_⟩,g _ _ j⟩;rcases h3 with h3|⟨b',o',h3,h5⟩
  ·exact Ad h3
  ·exact Ae ⟨b',o',h3,f _ _ h5⟩
theorem AC.kept {l:List Ty} (h:AC w X a l) (hk:∀b,X b->w'.heap[b]? = w.heap[b]?):AC w' X a l:=by
 obtain⟨c,h⟩:=h;refine⟨c,?_⟩;rcases h with h|⟨b,o,e,h⟩
 ·exact Ad h
 ·exact Ae ⟨b,o,e,Wb hk _ _ _ h⟩
theorem AC.mono {l:List Ty} (h:AC w X a l) (hk:∀b,X b->b<w.heap.size->Y b):AC w Y a l:=by
 obtain⟨c,h⟩:=h;refine⟨c,?_⟩;rcases h with h|⟨b,o,e,h⟩
 ·exact Ad h
 ·exact Ae ⟨b,o,e,Wc hk _ _ _ h⟩
theorem AC.below {l:List Ty} (h:AC w X a l) (hb:Below B w w') (c:∀b,X b->b<w.heap.size->b<B):AC w' X a l:=by
 have h1:AC w (λb=>X b/\b<B) a l:=h.mono λb hx d=>⟨hx,c b hx d⟩;have h2:AC w' (λb=>X b/\b<B) a l:=h1.kept λb hx=>hb.block b hx.2;exact h2.mono λb hx _=>hx.1
theorem YV.kept {t:Ty} (h:YV w X v t) (hk:∀b,X b->w'.heap[b]? = w.heap[b]?):YV w' X v t:=by
 obtain⟨a,c,e,h⟩:=h;exact⟨a,c,e,h.kept hk⟩
theorem YV.mono {t:Ty} (h:YV w X v t) (hk:∀b,X b->b<w.heap.size->Y b):YV w Y v t:=by
 obtain⟨a,c,e,h⟩:=h;exact⟨a,c,e,h.mono hk⟩
theorem YV.below {t:Ty} (h:YV w X v t) (hb:Below B w w') (d:∀b,X b->b<w.heap.size->b<B):YV w' X v t:=by
 obtain⟨a,c,e,h⟩:=h;exact⟨a,c,e,h.below hb d⟩
theorem YV.alloc {t:Ty} (h:YV w X v t) (o:Obj):YV (w.alloc o) X v t:=
 h.below ((Ac _ _).alloc (Af _) o) (λ_ _ h=>h)
theorem YV.later {t:Ty} (h:YV w X v t) (hb:Below w.heap.size w w'):YV w' X v t:=h.below hb (λ_ _ h=>h)
theorem AC.later {l:List Ty} (h:AC w X a l) (hb:Below w.heap.size w w'):AC w' X a l:=h.below hb (λ_ _ h=>h)
theorem Kd:∀(l:List Ty) (b o:Nat),DH w X b o l->∀i (h:i<l.length),
  X b/\w.cell? ⟨b,o+i*2,none⟩=some (zA l[i].base)/\∃a c,w.cell? ⟨b,o+i*2+1,none⟩=some (.slice a l[i].subs.length c)/\AC w X a l[i].subs:=by
 intro l;induction l with
 |nil=>intro b o _ i h; simp at h
 |cons t r e=>
  intro b o d i h;obtain⟨x,k⟩:=t;simp only[DH] at d;obtain⟨hx,h1,⟨a,c,h2,h3⟩,f⟩:=d;cases i with
  |zero=>exact⟨hx,h1,a,c,h2,h3⟩
  |succ i=>have:=e b (o+2) f i (by simpa using h);simp only[FG];rw[show o+(i+1)*2=o+2+i*2 by omega];exact this
theorem AC.get {l:List Ty} (h:AC w X a l) (hb:Below B w wr) (d:∀b,X b->b<w.heap.size->b<B) (k:Nat) (hk:k<l.length):
  ∃b o c c',a=some (zD b o)/\wr.cell? ⟨b,o+k*2,none⟩=some (zA l[k].base)/\wr.cell? ⟨b,o+k*2+1,none⟩=some (.slice c l[k].subs.length c')/\YV wr X (.agg (zH l[k] c c')) l[k]:=by
 have h':=h.below hb d;obtain⟨_,h1⟩:=h';rcases h1 with h1|⟨b,o,e,h1⟩
 ·subst h1; simp at hk
 ·obtain⟨_,h2,c,c',h3,f⟩:=Kd _ _ _ h1 k hk;exact⟨b,o,c,c',e,h2,h3,c,c',rfl,f⟩
theorem Lv {W:World} (hb:Below B W w1):(∀b o,b<B->w1.cell? (zD b o)=W.cell? (zD b o))/\(∀b o,b<B->w1.frozen? (zD b o)=W.frozen? (zD b o)):=
 ⟨λb o h=>hb.cell (p:=(zD b o)) h,λb o h=>hb.frozen (p:=(zD b o)) h⟩
theorem Id (l:List Tm) (k:Nat) (h:k<l.length):Ah (l.take (k+1))=Ah (l.take k)+Ah [l[k]]:=by
 rw[CI h,Gf]
theorem Ji (l:List Tm) (k:Nat):Ah (l.take k)<=Ah l:=by
 have:=Gf (l.take k) (l.drop k);rw[FH]at this;omega
theorem AM {k:IntKind} {a b:Int} (h:a=b):Ending.returned (.int k a)=.returned (.int k b):=by rw[h]
theorem FK {o:Obj} (hb:Below (w.heap.size+1) (w.alloc o) wr):Below w.heap.size w wr:=
 ((Ac _ _).alloc (Af _) _).trans (hb.mono (Jd _))
theorem Wd (t:Tm):∀(v:Value) (most:Int) (w:World) (X:Nat->Prop),TV w X v t->0<=most->most<=1000000->
  Calls prog 66 #[v,zA most] w λe w'=>e=.returned (zA (min (Ah [t]) (most+1)))/\Below w.heap.size w w':=by
 induction t using Tm.ind with
 |h s l g=>
  intro v most w X q ah ai;obtain⟨a,c,rfl,j⟩:=q;have r:=Aa g;clear g;go_in;go_wp2_with fail;go_loopw [5,6] (λn i wr=>∃k:Nat,k<=l.length/\i=zA k/\n=zA (min (1+Ah (l.take k)) (most+1))/\Below (w.heap.size+1) (w.alloc (Obj.cells #[Value.string s,Value.slice a l.length c] 61)) wr) (λn i wr=>l.length-(intOf i).toNat);case atStart=>exact⟨0,Bp _,rfl,by simp[Ah]; omega,Ac _ _⟩
  case round=>
   obtain⟨k,hk,rfl,rfl,hb⟩:=hrel;have hc:=Lv hb;have c0:wr.cell? (zD w.heap.size 0)=some (.string s):=by rw[hc.1 _ _ (by omega)]; simp
   have c1:wr.cell? (zD w.heap.size 1)=some (.slice a l.length c):=by rw[hc.1 _ _ (by omega)]; simp
   have hl:=j.1;have hn:0<=((1:Int)+Ah (l.take k)):=(by omega);by_cases d:k<l.length
   ·obtain⟨b,o,a',c',rfl,d0,d1,hx⟩:=j.get (((Ac _ _).alloc (Af _) _).trans (hb.mono (Jd _))) (λ_ _ h=>h) k d;by_cases hle:1+(Ah (l.take k):Int)<=most
    ·have f:min (1+(Ah (l.take k):Int)) (most+1)=1+(Ah (l.take k):Int):=(by omega);rw[f];go_wp2_with fail;refine(r.o _ (Bv d) _ _ _ X hx (by omega) (by omega)).mono ?_;rintro e w1 ⟨rfl,u⟩;have x:w.heap.size+1<=wr.heap.size:=by have:=hb.size; simpa using this
     have y:=Aa (Id l k d);have aj:0<=min ((Ah [l[k]]:Int)) (most-(1+(Ah (l.take k):Int))+1):=(by omega);have ak:min ((Ah [l[k]]:Int)) (most-(1+(Ah (l.take k):Int))+1)<=1000001:=(by omega);go_wp2_with fail;go_roundw
     case rel=>exact⟨k+1,by omega,by go_num,by rw[y.o]; congr 1; omega,hb.trans (u.mono x)⟩
     case measure=>simp[intOf]; omega
    ·have f:min (1+(Ah (l.take k):Int)) (most+1)=most+1:=(by omega);rw[f];have hz:(Ah [(⟨s,l⟩:Tm)]:Int)=1+Ah l:=(by simp[Ah]);have af:Ah (l.take k)<=Ah l:=Ji l k;have z:=Aa (show(most+1:Int)=min (Ah [(⟨s,l⟩:Tm)]:Int) (most+1) by omega);clear hz;go_wp2_with fail;go_ret;exact⟨AM z.o,FK hb⟩
   ·have A:l.take k=l:=Bz (by omega);rw[A];have hz:(Ah [(⟨s,l⟩:Tm)]:Int)=1+Ah l:=(by simp[Ah]);have m:=Aa hz;clear hz;go_wp2_with fail
    ·go_ret;exact⟨AM (by have:=m.o; omega),FK hb⟩
    ·go_ret;exact⟨AM (by have:=m.o; omega),FK hb⟩
theorem Pt (t:Ty):∀(v:Value) (most:Int) (w:World) (X:Nat->Prop),YV w X v t->0<=most->most<=1000000->
  Calls prog 21 #[v,zA most] w λe w'=>e=.returned (zA (min (AB [t]) (most+1)))/\Below w.heap.size w w':=by
 induction t using Ty.ind with
 |h d l j=>
  intro v most w X r ah ai;obtain⟨a,c,rfl,m⟩:=r;have s:=Aa j;clear j;go_in;go_wp2_with fail;go_loopw [5,6] (λn i wr=>∃k:Nat,k<=l.length/\i=zA k/\n=zA (min (1+AB (l.take k)) (most+1))/\Below (w.heap.size+1) (w.alloc (Obj.cells #[Value.int .i64 d,Value.slice a l.length c] 27)) wr) (λn i wr=>l.length-(intOf i).toNat);case atStart=>exact⟨0,Bp _,rfl,by simp[AB]; omega,Ac _ _⟩
  case round=>
   obtain⟨k,hk,rfl,rfl,hb⟩:=hrel;have hc:=Lv hb;have c0:wr.cell? (zD w.heap.size 0)=some (zA d):=by rw[hc.1 _ _ (by omega)]; simp
   have c1:wr.cell? (zD w.heap.size 1)=some (.slice a l.length c):=by rw[hc.1 _ _ (by omega)]; simp
   have hl:=m.1;have hn:0<=((1:Int)+AB (l.take k)):=(by omega);by_cases f:k<l.length
   ·obtain⟨b,o,a',c',rfl,d0,d1,hx⟩:=m.get (((Ac _ _).alloc (Af _) _).trans (hb.mono (Jd _))) (λ_ _ h=>h) k f;by_cases hle:1+(AB (l.take k):Int)<=most
    ·have g:min (1+(AB (l.take k):Int)) (most+1)=1+(AB (l.take k):Int):=(by omega);rw[g];go_wp2_with fail;refine(s.o _ (Bv f) _ _ _ X hx (by omega) (by omega)).mono ?_;rintro e w1 ⟨rfl,u⟩;have x:w.heap.size+1<=wr.heap.size:=by have:=hb.size; simpa using this
     have y:=Aa (Pq l k f);have aj:0<=min ((AB [l[k]]:Int)) (most-(1+(AB (l.take k):Int))+1):=(by omega);have ak:min ((AB [l[k]]:Int)) (most-(1+(AB (l.take k):Int))+1)<=1000001:=(by omega);go_wp2_with fail;go_roundw
     case rel=>exact⟨k+1,by omega,by go_num,by rw[y.o]; congr 1; omega,hb.trans (u.mono x)⟩
     case measure=>simp[intOf]; omega
    ·have g:min (1+(AB (l.take k):Int)) (most+1)=most+1:=(by omega);rw[g];have hz:(AB [(⟨d,l⟩:Ty)]:Int)=1+AB l:=(by simp[AB]);have af:AB (l.take k)<=AB l:=Ps l k;have z:=Aa (show(most+1:Int)=min (AB [(⟨d,l⟩:Ty)]:Int) (most+1) by omega);clear hz;go_wp2_with fail;go_ret;exact⟨AM z.o,FK hb⟩
   ·have A:l.take k=l:=Bz (by omega);rw[A];have hz:(AB [(⟨d,l⟩:Ty)]:Int)=1+AB l:=(by simp[AB]);have q:=Aa hz;clear hz;go_wp2_with fail
    ·go_ret;exact⟨AM (by have:=q.o; omega),FK hb⟩
    ·go_ret;exact⟨AM (by have:=q.o; omega),FK hb⟩
theorem We (t:Ty) (v:Value) (w:World) (X:Nat->Prop) (b:YV w X v t):
  Calls prog 6 #[v] w λe w'=>e=.returned (.bool (decide (3000<AB [t])))/\Below w.heap.size w w':=by
 obtain⟨a,c,rfl,f⟩:=b;have b:YV w X (.agg (zH t a c)) t:=⟨a,c,rfl,f⟩;go_in;go_wp2_with fail;refine(Pt t _ _ _ X (b.alloc _) (by omega) (by omega)).mono ?_;rintro e w1 ⟨rfl,d⟩;by_cases h:3000<AB [t]
 ·have e:min (AB [t]:Int) (3000+1)=3001:=by omega
  rw[e];go_wp2_with fail;go_ret;exact⟨by simp[h],((Ac _ _).alloc (Af _) _).trans (d.mono (by simp))⟩
 ·have e:min (AB [t]:Int) (3000+1)=AB [t]:=by omega
  rw[e];go_wp2_with fail;go_ret;exact⟨by simp[h]<;>omega,((Ac _ _).alloc (Af _) _).trans (d.mono (by simp))⟩
theorem Pu (b:Int) (a:Option Addr) (n c:Nat) (w:World):
  Calls prog 69 #[.agg #[zA b,.slice a n c]] w λe w'=>e=.returned (.slice a n c)/\w'=w.alloc (zp #[zA b,.slice a n c] 27):=by
 go_in;go_wp2_with fail;go_ret;exact⟨rfl,rfl⟩
theorem Wi (M:Int) (ai:0<=M) (aj:M<=1000000) (t:Ty):∀(v:Value) (n:Int) (w:World) (X:Nat->Prop),YV w X v t->0<=n->n<=M->
  Calls prog 82 #[v,.func (.func 69) #[] #[],zA M,zA n] w λe w'=>e=.returned (zA (min (n+AB [t]) (M+1)))/\Below w.heap.size w w':=by
 induction t using Ty.ind with
 |h d l j=>
  intro v n w X r ak al;obtain⟨a,c,rfl,q⟩:=r;have s:=Aa j;clear j;have hz:Hid ((AB [(⟨d,l⟩:Ty)]:Int)=1+AB l):=by simp[Hid,AB]
  go_in;go_wp2_with (go_at_call 69; refine(Pu _ _ _ _ _).mono ?_; rintro e w' ⟨rfl,rfl⟩);have u:Hid (Below w.heap.size w ((w.alloc (Obj.cells #[Value.int .i64 d,Value.slice a l.length c] 27)).alloc (Obj.cells #[Value.int .i64 d,Value.slice a l.length c] 27))):=((Ac _ _).alloc (Af _) _).alloc (by simp) _;have an:Hid (w.heap.size+2<=((w.alloc (Obj.cells #[Value.int .i64 d,Value.slice a l.length c] 27)).alloc (Obj.cells #[Value.int .i64 d,Value.slice a l.length c] 27)).heap.size):=by simp[Hid]
  generalize ((w.alloc (Obj.cells #[Value.int .i64 d,Value.slice a l.length c] 27)).alloc (Obj.cells #[Value.int .i64 d,Value.slice a l.length c] 27))=w0 at *;go_loopw [9,18] (λm i wr=>∃k:Nat,k<=l.length/\i=zA k/\m=zA (min (n+1+AB (l.take k)) (M+1))/\Below w.heap.size w wr) (λm i wr=>l.length-(intOf i).toNat);case atStart=>exact⟨0,Bp _,rfl,by rw[show AB (l.take 0)=0 by simp[AB]]; congr 1; omega,u.o⟩
  case round=>
   obtain⟨k,hk,rfl,rfl,hb⟩:=hrel;have hl:=q.1;have x:w.heap.size<=wr.heap.size:=hb.size;by_cases f:k<l.length
   ·obtain⟨b,o,a',c',rfl,d0,d1,hx⟩:=q.get hb (λ_ _ h=>h) k f;by_cases hle:n+1+(AB (l.take k):Int)<=M
    ·have g:min (n+1+(AB (l.take k):Int)) (M+1)=n+1+(AB (l.take k):Int):=(by omega);rw[g];go_wp2_with fail;refine(s.o _ (Bv f) _ _ _ X (hx.alloc _) (by omega) (by omega)).mono ?_;rintro e w1 ⟨rfl,y⟩;have z:=Aa (Pq l k f);go_wp2_with fail;go_roundw
     case rel=>exact⟨k+1,by omega,by go_num,by rw[z.o]; congr 1; omega,(hb.alloc x _).trans (y.mono (by simp; omega))⟩
     case measure=>simp[intOf]; omega
    ·have g:min (n+1+(AB (l.take k):Int)) (M+1)=M+1:=(by omega);rw[g];have ag:AB (l.take k)<=AB l:=Ps l k;go_wp2_with fail;go_ret;refine⟨AM (by have:=hz.o; omega),?_⟩;exact hb.alloc (by omega) _
   ·have A:l.take k=l:=Bz (by omega);rw[A];go_wp2_with fail;go_ret;exact⟨AM (by have:=hz.o; omega),hb⟩
theorem Wj (M:Int) (d:0<=M) (f:M<=1000000) (t:Ty) (v:Value) (w:World) (X:Nat->Prop) (b:YV w X v t):
  Calls prog 68 #[v,.func (.func 69) #[] #[],zA M] w λe w'=>e=.returned (zA (min (AB [t]:Int) (M+1)))/\Below w.heap.size w w':=by
 obtain⟨a,c,rfl,g⟩:=b;have b:YV w X (.agg (zH t a c)) t:=⟨a,c,rfl,g⟩;go_in;go_wp2_with fail;refine(Wi M d f t _ _ _ X (b.alloc _) (by omega) (by omega)).mono ?_;rintro e w1 ⟨rfl,h⟩;go_wp2_with fail;go_ret;exact⟨AM (by omega),((Ac _ _).alloc (Af _) _).trans (h.mono (by simp))⟩
def Cc (w:World) (X:Nat->Prop):List Tm->List Value->Prop
 | [],xs=>xs=[]
 |t::l,xs=>∃a c r,xs=.string t.name::.slice a t.args.length c::r/\Sl w X a t.args/\Cc w X l r
theorem Cc.len:∀ {l:List Tm} {xs:List Value},Cc w X l xs->xs.length=l.length*2
 | [],xs,h=>by simp[Cc] at h; simp[h]
 |t::l,xs,h=>by
  obtain⟨a,c,r,rfl,_,h⟩:=h;simp only[Cl];rw[Cc.len h]; omega
theorem Cc.append:∀ {l k:List Tm} {xs b:List Value},Cc w X l xs->Cc w X k b->Cc w X (l++k) (xs++b)
 | [],k,xs,b,h,h'=>by simp[Cc] at h; subst h; simpa using h'
 |t::l,k,xs,b,h,h'=>by
  obtain⟨a,c,r,rfl,d,h⟩:=h;exact⟨a,c,r++b,rfl,d,Cc.append h h'⟩
theorem Cc.one:∀ {l:List Tm} {xs:List Value},Cc w X l xs->∀u∈xs,u.oneCell'=true
 | [],xs,h,u,hu=>by simp[Cc] at h; subst h; cases hu
 |t::l,xs,h,u,hu=>by
  obtain⟨a,c,r,rfl,_,h⟩:=h;rcases Ct.1 hu with e|hu
  ·subst e; rfl
  ·rcases Ct.1 hu with e|hu
   ·subst e; rfl
   ·exact Cc.one h u hu
theorem Cc.imp (b:∀a l,Sl w X a l->Sl w' Y a l):∀ {l:List Tm} {xs:List Value},Cc w X l xs->Cc w' Y l xs
 | [],xs,h=>h
 |t::l,xs,h=>by
  obtain⟨a,c,r,e,h1,h⟩:=h;exact⟨a,c,r,e,b _ _ h1,Cc.imp b h⟩
theorem Cc.get:∀ {l:List Tm} {xs:List Value},Cc w X l xs->∀i (h:i<l.length),
  xs[i*2]? = some (.string l[i].name)/\∃a c,xs[i*2+1]? = some (.slice a l[i].args.length c)/\Sl w X a l[i].args
 | [],xs,h,i,hi=>by simp at hi
 |t::l,xs,h,i,hi=>by
  obtain⟨a,c,r,rfl,h1,h⟩:=h;cases i with
  |zero=>exact⟨rfl,a,c,rfl,h1⟩
  |succ i=>have:=Cc.get h i (by simpa using hi);rw[show(i+1)*2=i*2+2 by omega,show i*2+2+1=(i*2+1)+2 by omega];simpa using this
theorem Ie (l:List Tm):l.length<=Ah l:=by
 induction l with
 |nil=>simp
 |cons t r ih=>obtain⟨s,k⟩:=t; simp only[Cl,Ah]; omega
theorem Pv:∀(l:List Tm) (b o:Nat),DT w X b o l->∃xs,Cc w X l xs/\∀j u,xs[j]? = some u->w.cell? ⟨b,o+j,none⟩=some u:=by
 intro l;induction l with
 |nil=>intro b o _; exact⟨[],rfl,by simp⟩
 |cons t r e=>
  intro b o h;obtain⟨s,k⟩:=t;simp only[DT] at h;obtain⟨hx,h1,⟨a,c,h2,h3,f⟩,h5⟩:=h;obtain⟨xs,g,hc⟩:=e b (o+2) h5;refine⟨.string s::.slice a k.length c::xs,⟨a,c,xs,rfl,⟨h3,f⟩,g⟩,λj u d=>?_⟩;match j,d with
  |0,d=>simp at d; subst d; exact h1
  |1,d=>simp at d; subst d; exact h2
  |j+2,d=>rw[show o+(j+2)=o+2+j by omega]; exact hc j u (by simpa using d)
theorem Pw (b:Nat) (hb:Y b):∀(l:List Tm) (xs:List Value) (o:Nat),Cc w X l xs->(∀a k,Sl w X a k->Sl w' Y a k)->(∀j u,xs[j]? = some u->w'.cell? ⟨b,o+j,none⟩=some u)->DT w' Y b o l:=by
 intro l;induction l with
 |nil=>intro xs o _ _ _; simp[DT]
 |cons t r e=>intro xs o h d hc;obtain⟨s,k⟩:=t;obtain⟨a,c,f,rfl,h1,h2⟩:=h;simp only[DT];obtain⟨h3,g⟩:=d _ _ h1;refine⟨hb,hc 0 _ rfl,⟨a,c,hc 1 _ rfl,h3,g⟩,e f (o+2) h2 d λj u i=>?_⟩;have:=hc (j+2) u (by simpa using i);rwa [show o+(j+2)=o+2+j by omega] at this
def Aw:List Tm->List Tm
 | []=>[]
 | ⟨s,l⟩::r=>⟨s,l⟩::(Aw l++Aw r)
theorem Lw (a b:List Tm):Aw (a++b)=Aw a++Aw b:=by
 induction a with
 |nil=>simp[Aw]
 |cons t r c=>obtain⟨s,l⟩:=t; simp[Aw,c]
theorem Px (l:List Tm) (k:Nat) (h:k<l.length):Aw (l.take (k+1))=Aw (l.take k)++Aw [l[k]]:=by
 rw[CI h,Lw]
theorem Kh (l:List Tm):(Aw l).length=Ah l:=by
 induction l using Tm.indL with
 |h0=>simp[Aw,Ah]
 |h s l r a b=>simp[Aw,Ah,a,b]; omega
theorem Sl.back {l:List Tm} (h:Sl w' X a l) (hb:Below B w w') (c:∀b,X b->b<B):Sl w X a l:=
 h.kept λb hx=>(hb.block b (c b hx)).symm
theorem Fd (h:w.ownsRow base e size v n xs) (hn:0<n):
  ∃g cap,v=.slice (some (zD g 0)) n cap/\base<=g/\g<w.heap.size/\∀j u,xs[j]? = some u->w.cell? (zD g j)=some u:=by
 have h':=h;obtain⟨hl,h1⟩:=h;rcases h1 with ⟨_,h0⟩|⟨g,cap,cur,a,b,hh,_⟩
 ·omega
 ·subst a;have c:=(h'.lt g rfl).2;refine⟨g,cap,rfl,b,c,λj u d=>?_⟩;have:=h'.cells (g:=g) rfl j u d;by_cases h0:j=0
  ·subst h0; simpa [Addr.add] using this
  ·simpa [Addr.add,h0] using this
theorem IB {ops:Array Oper} {rest:List Oper} {o:Oper} {a:Act} {Q:Exit->Act->World->Prop} {u b:Value} (d:o.guard=none) (s x:Operand) (t c:TypeId)
  (ho:o.op=.call { callee:=.builtin .append,args:=#[s,x],argTypes:=#[t,c]}) (e:a.eval s=v) (hx:a.eval x=u)
  (f:(Builtin.append_ #[t,c] o.type #[v,u]).run P w=.ok b w') (h:wpList P ops Q rest (a.put o.dst b) w'):wpList P ops Q (o::rest) a w:=
 wpList_plain d λK g=>by
  unfold Oper.wp execOp;simp only[ho,resolve,invoke,builtin,Sem.run_bind,Sem.run_pure,Result.andThen_ok,List.map_toArray,CB,H4,e,hx,f];exact g _ _ h
def Ab (w:World) (b:Nat) (cs:Array Value) (T:Nat):Prop:=w.heap[b]? = some (.cells cs T (0,0))
theorem Ab.lt (h:Ab w b cs T):b<w.heap.size:=by
 apply Er;intro hn;have e:w.heap[b]? = none:=Iz (by omega);rw[Ab,e]at h; cases h
theorem Ab.cell (h:Ab w b cs T) (i:Nat):w.cell? (zD b i)=cs[i]? := by
 unfold Ab at h; simp[World.cell?,h]
theorem Ab.c0 (h:Ab w b (List.toArray (v::l)) T):w.cell? (zD b 0)=some v:=h.cell 0
theorem Ab.c1 (h:Ab w b (List.toArray (v0::v::l)) T):w.cell? (zD b 1)=some v:=h.cell 1
theorem Ab.c2 (h:Ab w b (List.toArray (v0::v1::v::l)) T):w.cell? (zD b 2)=some v:=h.cell 2
theorem Ab.c3 (h:Ab w b (List.toArray (v0::v1::v2::v::l)) T):w.cell? (zD b 3)=some v:=h.cell 3
theorem Ab.frozen (h:Ab w b cs T) (i:Nat):w.frozen? (zD b i)=false:=by
 unfold Ab at h; simp[World.frozen?,h]
theorem Ab.new (w:World) (cs:Array Value) (T:Nat):Ab (w.alloc (zp cs T)) w.heap.size cs T:=IA w _
theorem Ab.alloc (h:Ab w b cs T) (o:Obj):Ab (w.alloc o) b cs T:=by
 unfold Ab at *; rw[BL w o b (Ab.lt h)]; exact h
theorem Ab.below (h:Ab w b cs T) (hb:Below B w w') (a:b<B):Ab w' b cs T:=by
 unfold Ab at *; rw[hb.block b a]; exact h
theorem Ab.drewN (h:Ab w b cs T) (n:Nat):Ab (w.drewN n) b cs T:=h
theorem Ab.grown {row:Option Nat} (h:Ab w b cs T) (a:w.grownBy w' row) (c:some b≠row):Ab w' b cs T:=by
 unfold Ab at *; rw[a.block b (Ab.lt h) c]; exact h
theorem Ab.set (h:Ab w b cs T) (i:Nat) (v:Value):Ab (w.setCell (zD b i) v) b (cs.setIfInBounds i v) T:=by
 unfold Ab at *;simp[World.setCell,Array.getElem?_modify,h]
theorem Ab.setOther {b':Nat} (h:Ab w b cs T) (i:Nat) (v:Value) (a:b≠b'):Ab (w.setCell (zD b' i) v) b cs T:=by
 unfold Ab at *; rw[Ak _ _ _ _ (by simpa using a)]; exact h
structure Cp (w:World) (N:Nat) (T:Nat) (Y:Nat->Prop) (v:Value) (l:List Tm) (xs:List Value):Prop where
 own:w.ownsRow N T 2 v l.length xs
 row:Cc w (λb=>Y b∨(N<=b/\some b≠v.ownBlock)) l xs
theorem Cp.start (w:World) (N T:Nat) (Y:Nat->Prop):Cp w N T Y zB [] []:=⟨H5 w N T 2,rfl⟩
theorem Cp.below {l:List Tm} (h:Cp w N T Y v l xs) (hb:Below w.heap.size w w'):Cp w' N T Y v l xs:=
 ⟨h.own.kept (w' := w') (row := none) ⟨hb.os, hb.tape, hb.output, hb.size, λj b _ => hb.block j b⟩ (by rcases Je (Value.ownBlock v) with h | ⟨x, h⟩; exact Ad h; exact Ae (by rw [h]; simp)),
  h.row.imp λa l h=>h.later hb⟩
theorem Cp.ne {l:List Tm} (h:Cp w N T Y v l xs) (hb:b<N):some b≠v.ownBlock:=λe=>by
 have:=(h.own.lt b e.symm).1; omega
theorem Cp.push {l:List Tm} (h:Cp w N T Y v l xs) (hN:N<=w.heap.size) (k:∀b,Y b->b<N) (hb:Below w.heap.size w w1) {t:Tm}
  (ht:TV w1 (λb=>Y b∨w.heap.size<=b) (.agg #[.string s,.slice a n c]) t) (o:Obj) (u:w2=w1.alloc o) 
  (x:w3.ownsRow N T 2 (.slice (some (zD g 0)) (l.length+1) cap) (l.length+1) (xs++[.string s,.slice a n c])) (m:w2.grownBy w3 v.ownBlock) (d:v.ownBlock=some g∨g=w2.heap.size):
  Cp w3 N T Y (.slice (some (zD g 0)) (l.length+1) cap) (l++[t]) (xs++[.string s,.slice a n c]):=by
 subst u;have f:=h.own.lt;refine⟨by simpa using x,?_⟩;have ae:w1.heap.size<=(w1.alloc o).heap.size:=by simp
 have af:=hb.size;have ag:N<=g:=by
  rcases d with e|e
  ·exact(f g e).1
  ·simp at e; omega
 refine Cc.append (h.row.imp λq r i=>?_) ?_
 ·have h1:Sl w (λb=>(Y b∨(N<=b/\some b≠v.ownBlock))/\b<w.heap.size) q r:=i.mono λb h1 h2=>⟨h1,h2⟩;have h2:Sl w3 (λb=>(Y b∨(N<=b/\some b≠v.ownBlock))/\b<w.heap.size) q r:=h1.kept λb hx=>by
   have j:some b≠v.ownBlock:=by
    rcases hx.1 with hy|hy
    ·exact h.ne (k b hy)
    ·exact hy.2
   rw[m.block b (by simp; omega) j,BL _ _ _ (by omega),hb.block b hx.2]
  refine h2.mono λb hx _=>?_;rcases hx.1 with hy|hy
  ·exact Ad hy
  ·refine Ae ⟨hy.1,λe=>?_⟩;simp[Value.ownBlock]at e;rcases d with e'|e'
   ·exact hy.2 (by rw[e',e])
   ·simp at e'; omega
 ·obtain⟨a2,c2,e,i⟩:=ht;simp at e;obtain⟨rfl,rfl,rfl,rfl⟩:=e;refine⟨a,c,[],rfl,?_,rfl⟩;have h1:Sl w1 (λb=>(Y b∨w.heap.size<=b)/\b<w1.heap.size) a t.args:=i.mono λb h1 h2=>⟨h1,h2⟩;have h2:Sl w3 (λb=>(Y b∨w.heap.size<=b)/\b<w1.heap.size) a t.args:=h1.kept λb hx=>by
   have j:some b≠v.ownBlock:=by
    rcases hx.1 with hy|hy
    ·exact h.ne (k b hy)
    ·intro e; have:=(f b e.symm).2; omega
   rw[m.block b (by simp; omega) j,BL _ _ _ hx.2]
  refine h2.mono λb hx _=>?_;rcases hx.1 with hy|hy
  ·exact Ad hy
  ·refine Ae ⟨by omega,λe=>?_⟩;simp[Value.ownBlock]at e;rcases d with e'|e'
   ·have:=(f g e').2; omega
   ·simp at e'; omega
theorem Cp.setCell {l:List Tm} (h:Cp w N T Y v l xs) (hb:b<N) (d:¬Y b) (u:Value):Cp (w.setCell (zD b i) u) N T Y v l xs:=
 ⟨ownsRow_setCell_below h.own (by simpa using hb) u, h.row.imp λa k f => f.kept λc hc => Ak _ _ _ _ (by
  simp;rcases hc with hc|hc
  ·intro e; subst e; exact d hc
  ·omega)⟩
theorem Cp.sl {l:List Tm} (h:Cp w N T Y v l xs):∃a c,v=.slice a l.length c/\Sl w (λb=>Y b∨N<=b) a l:=by
 have d:l.length<=9223372036854775807:=by
  rcases h.own.2 with ⟨_,h0⟩|⟨g,cap,cur,_,_,_,h1,h2,_⟩
  ·omega
  ·unfold maxLen at h2; omega
 by_cases h0:0<l.length
 ·obtain⟨g,cap,rfl,i,hlt,hc⟩:=Fd h.own h0;exact⟨_,_,rfl,d,Ae ⟨g,0,rfl,Pw g (Ae i) l xs 0 h.row (λa k m=>m.mono λb hb _=>hb.imp id (λh=>h.1)) (λj u n=>by simpa using hc j u n)⟩⟩
 ·have e:l=[]:=GV.1 (by omega);subst e;rcases h.own.2 with ⟨f,_⟩|⟨g,cap,cur,f,_⟩
  ·exact⟨none,0,f,d,Ad rfl⟩
  ·exact⟨_,_,f,d,Ad rfl⟩
def CQ (x:Int) (n:Nat):Int:=if n≠0/\(n≠2∨x≠0) then 2 else if x<0∨999<x then 10 else 0
def AP:List Ty->Int
 | []=>0
 | ⟨x,l⟩::r=>if CQ x l.length=0 then (if AP l=0 then AP r else AP l) else CQ x l.length
theorem Lx (t:Ty) (r:List Ty):AP (t::r)=if AP [t]=0 then AP r else AP [t]:=by
 obtain⟨x,l⟩:=t;simp only[AP];split
 ·split<;>simp_all
 ·simp_all
theorem Py (a b:List Ty):AP (a++b)=if AP a=0 then AP b else AP a:=by
 induction a with
 |nil=>simp[AP]
 |cons t r c=>rw[Dj,Lx,Lx t r,c];by_cases h:AP [t]=0<;>simp[h]
theorem Ly (l:List Ty) (k:Nat) (h:k<l.length):AP (l.take (k+1))=if AP (l.take k)=0 then AP [l[k]] else AP (l.take k):=by
 rw[CI h,Py]
theorem Lz {l:List Ty} (h:AP (l.take k)≠0):AP l=AP (l.take k):=by
 have:=Py (l.take k) (l.drop k);rw[FH,Am h]at this;exact this
theorem ID {a:Int} {l:List Ty} (h:CQ a l.length=0):AP [⟨a,l⟩]=AP l:=by
 simp only[AP,h,if_true];by_cases h0:AP l=0<;>simp[h0]
theorem Ha {a:Int} {l:List Ty} (h:CQ a l.length≠0):AP [⟨a,l⟩]=CQ a l.length:=by
 simp[AP,h]
def CR (t:Ty):Int:=if 200<AB [t] then 3 else AP [t]
theorem Pz {l:List Ty} (h:AP [⟨x,l⟩]=0):(l=[]/\0<=x/\x<=999)∨(x=0/\∃a b,l=[a,b]/\AP [a]=0/\AP [b]=0):=by
 have hk:CQ x l.length=0:=(by apply Er;intro f;rw[Ha f]at h;exact f h);rw[ID hk]at h;unfold CQ at hk;split at hk
 ·simp at hk
 rename_i h1;split at hk
 ·simp at hk
 rename_i h2;match l,h1,h with
 | [],_,_=>exact Ad ⟨rfl,by omega,by omega⟩
 | [a],h1,_=>exact absurd h1 (by simp)
 | [a,b],h1,h=>
  rw[Lx]at h;have hx:x=0:=by
   apply Er;intro f;exact h1 ⟨by simp,Ae f⟩
  by_cases e:AP [a]=0
  ·rw[Aq e]at h;exact Ae ⟨hx,a,b,rfl,e,h⟩
  ·rw[Am e]at h;exact absurd h e
 |a::b::c::d,h1,_=>exact absurd h1 (by simp)
def LA (l:List Ty) (w:World) (o:Value) (wr:World):Prop:=∃k:Nat,k<=l.length/\o=zA k/\AP (l.take k)=0/\Below w.heap.size w wr
theorem Wk (t:Ty):∀(v:Value) (w:World) (X:Nat->Prop),YV w X v t->
  Calls prog 22 #[v] w λe w'=>e=.returned (zA (AP [t]))/\Below w.heap.size w w':=by
 induction t using Ty.ind with
 |h d l D=>
  intro v w X G;obtain⟨a,c,rfl,z⟩:=G;have E:=Aa D;clear D;have hl:=z.1;have r:Hid (Below w.heap.size w (w.alloc (zp #[zA d,.slice a l.length c] 27))):=(Ac _ _).alloc (Af _) _;have F:Hid (Ab (w.alloc (zp #[zA d,.slice a l.length c] 27)) w.heap.size #[zA d,.slice a l.length c] 27):=Ab.new _ _ _;by_cases h0:l.length=0
  ·have s:=Aa h0;have f0:((l.length:Int) !=0)=false:=(by simp[h0]);have f2:((l.length:Int)==2)=false:=(by simp[h0]);clear h0;by_cases hi:d<0
   ·have f:Hid (CQ d l.length=10):=Aa (by unfold CQ;rw[s.o];simp[hi]);have g:Hid (AP [(⟨d,l⟩:Ty)]=10):=Aa (by rw[Ha (by rw[f.o]; decide),f.o]);go_in;go_wp2_with fail;go_ret;exact⟨AM g.o.symm,r.o⟩
   by_cases H:999<d
   ·have f:Hid (CQ d l.length=10):=Aa (by unfold CQ;rw[s.o];simp[H]);have g:Hid (AP [(⟨d,l⟩:Ty)]=10):=Aa (by rw[Ha (by rw[f.o]; decide),f.o]);go_in;go_wp2_with fail;go_ret;exact⟨AM g.o.symm,r.o⟩
   have f:Hid (CQ d l.length=0):=Aa (by unfold CQ;rw[s.o,Am (by simp),Am (by omega)]);have g:=Aa (ID f.o);go_in;go_wp2_with fail;go_loopw [3] (λo wr=>LA l w o wr/\Ab wr w.heap.size #[zA d,.slice a l.length c] 27) (λo wr=>l.length-(intOf o).toNat);case atStart=>exact⟨⟨0,Bp _,rfl,by simp[AP],r.o⟩,F.o⟩
   case round=>
    obtain⟨⟨k,hk,rfl,he,hb⟩,hT⟩:=hrel;have m:=Aa he;have u:=Aa hb;have x:=Aa hT;clear he;have A:w.heap.size<=wr.heap.size:=hb.size;have t0:=hT.c0;have t1:=hT.c1;by_cases n:k<l.length
    ·obtain⟨b,o,I,c',rfl,d0,d1,hx⟩:=z.get hb (λ_ _ h=>h) k n;have HT:=Aa (Ly l k n);have J:(k:Int)<(l.length:Int):=(by omega);clear hb hT;go_wp2_with fail;refine(E.o _ (Bv n) _ _ X hx).mono ?_;rintro e w2 ⟨rfl,q⟩;have y:Hid (Below w.heap.size w w2):=u.o.trans (q.mono A);have B:=Aa (x.o.below q x.o.lt);clear q;by_cases i:AP [l[k]]=0
     ·have j:=Aa i;rw[i];clear i;go_wp2_with fail;go_roundw
      case rel=>exact⟨⟨k+1,by omega,by go_num,by rw[HT.o,m.o,j.o]; rfl,y.o⟩,B.o⟩
      case measure=>simp[intOf]; omega
     ·have h1:(AP [l[k]]==0)=false:=(by simpa using i);have h2:(AP [l[k]] !=0)=true:=(by simpa using i);have j:Hid (AP [l[k]]=AP [(⟨d,l⟩:Ty)]):=by
       have h1:AP (l.take (k+1))=AP [l[k]]:=by rw[HT.o,m.o]; rfl
       unfold Hid;rw[g.o,Lz (l:=l) (k:=k+1) (by rw[h1]; exact i),h1]
      go_wp2_with fail;go_ret;exact⟨AM j.o,y.o⟩
    ·have C:l.take k=l:=Bz (by omega);have L:¬((k:Int)<(l.length:Int)):=(by omega);have j:Hid (0=AP [(⟨d,l⟩:Ty)]):=Aa (by rw[g.o,<-C,m.o]);go_wp2_with fail;go_ret;exact⟨AM j.o,u.o⟩
  by_cases h2:l.length=2
  ·have s:=Aa h2;have f0:((l.length:Int) !=0)=true:=(by simp[h2]);have f1:((l.length:Int) !=2)=false:=(by simp[h2]);have f2:((l.length:Int)==2)=true:=(by simp[h2]);clear h2 h0;by_cases hi:d=0
   ·subst hi;have f:Hid (CQ 0 l.length=0):=Aa (by unfold CQ;rw[s.o];simp);have g:=Aa (ID f.o);go_in;go_wp2_with fail;go_loopw [3] (λo wr=>LA l w o wr/\Ab wr w.heap.size #[zA 0,.slice a l.length c] 27) (λo wr=>l.length-(intOf o).toNat);case atStart=>exact⟨⟨0,Bp _,rfl,by simp[AP],r.o⟩,F.o⟩
    case round=>
     obtain⟨⟨k,hk,rfl,he,hb⟩,hT⟩:=hrel;have m:=Aa he;have u:=Aa hb;have x:=Aa hT;clear he;have A:w.heap.size<=wr.heap.size:=hb.size;have t0:=hT.c0;have t1:=hT.c1;by_cases n:k<l.length
     ·obtain⟨b,o,I,c',rfl,d0,d1,hx⟩:=z.get hb (λ_ _ h=>h) k n;have HT:=Aa (Ly l k n);have J:(k:Int)<(l.length:Int):=(by omega);clear hb hT;go_wp2_with fail;refine(E.o _ (Bv n) _ _ X hx).mono ?_;rintro e w2 ⟨rfl,q⟩;have y:Hid (Below w.heap.size w w2):=u.o.trans (q.mono A);have B:=Aa (x.o.below q x.o.lt);clear q;by_cases i:AP [l[k]]=0
      ·have j:=Aa i;rw[i];clear i;go_wp2_with fail;go_roundw
       case rel=>exact⟨⟨k+1,by omega,by go_num,by rw[HT.o,m.o,j.o]; rfl,y.o⟩,B.o⟩
       case measure=>simp[intOf]; omega
      ·have h1:(AP [l[k]]==0)=false:=(by simpa using i);have h2:(AP [l[k]] !=0)=true:=(by simpa using i);have j:Hid (AP [l[k]]=AP [(⟨0,l⟩:Ty)]):=by
        have h1:AP (l.take (k+1))=AP [l[k]]:=by rw[HT.o,m.o]; rfl
        unfold Hid;rw[g.o,Lz (l:=l) (k:=k+1) (by rw[h1]; exact i),h1]
       go_wp2_with fail;go_ret;exact⟨AM j.o,y.o⟩
     ·have C:l.take k=l:=Bz (by omega);have L:¬((k:Int)<(l.length:Int)):=(by omega);have j:Hid (0=AP [(⟨0,l⟩:Ty)]):=Aa (by rw[g.o,<-C,m.o]);go_wp2_with fail;go_ret;exact⟨AM j.o,u.o⟩
   ·have aq:(d !=0)=true:=(by simpa using hi);have f:Hid (CQ d l.length=2):=Aa (by unfold CQ;rw[s.o];simp[hi]);have g:Hid (AP [(⟨d,l⟩:Ty)]=2):=Aa (by rw[Ha (by rw[f.o]; decide),f.o]);go_in;go_wp2_with fail;go_ret;exact⟨AM g.o.symm,r.o⟩
  have f0:((l.length:Int) !=0)=true:=by simp; exact λh=>h0 (by simp[h])
  have f1:((l.length:Int) !=2)=true:=by simp; omega
  have f2:((l.length:Int)==2)=false:=by simp; omega
  have M:=Aa h0;have N:=Aa h2;clear h0 h2;have f:Hid (CQ d l.length=2):=Aa (by unfold CQ;rw[Aq ⟨M.o,Ad N.o⟩]);have g:Hid (AP [(⟨d,l⟩:Ty)]=2):=Aa (by rw[Ha (by rw[f.o]; decide),f.o]);go_in;go_wp2_with fail;go_ret;exact⟨AM g.o.symm,r.o⟩
theorem Wl (t:Ty):∀(v:Value) (w:World) (X:Nat->Prop),YV w X v t->
  Calls prog 70 #[v] w λe w'=>e=.returned (zA (AP [t]))/\Below w.heap.size w w':=by
 induction t using Ty.ind with
 |h d l D=>
  intro v w X G;obtain⟨a,c,rfl,z⟩:=G;have E:=Aa D;clear D;have hl:=z.1;have r:Hid (Below w.heap.size w (w.alloc (zp #[zA d,.slice a l.length c] 27))):=(Ac _ _).alloc (Af _) _;have F:Hid (Ab (w.alloc (zp #[zA d,.slice a l.length c] 27)) w.heap.size #[zA d,.slice a l.length c] 27):=Ab.new _ _ _;by_cases h0:l.length=0
  ·have s:=Aa h0;have f0:((l.length:Int) !=0)=false:=(by simp[h0]);have f2:((l.length:Int)==2)=false:=(by simp[h0]);clear h0;by_cases hi:d<0
   ·have f:Hid (CQ d l.length=10):=Aa (by unfold CQ;rw[s.o];simp[hi]);have g:Hid (AP [(⟨d,l⟩:Ty)]=10):=Aa (by rw[Ha (by rw[f.o]; decide),f.o]);go_in;go_wp2_with fail;go_ret;exact⟨AM g.o.symm,r.o⟩
   by_cases H:999<d
   ·have f:Hid (CQ d l.length=10):=Aa (by unfold CQ;rw[s.o];simp[H]);have g:Hid (AP [(⟨d,l⟩:Ty)]=10):=Aa (by rw[Ha (by rw[f.o]; decide),f.o]);go_in;go_wp2_with fail;go_ret;exact⟨AM g.o.symm,r.o⟩
   have f:Hid (CQ d l.length=0):=Aa (by unfold CQ;rw[s.o,Am (by simp),Am (by omega)]);have g:=Aa (ID f.o);go_in;go_wp2_with fail;go_loopw [32] (λo wr=>LA l w o wr/\Ab wr w.heap.size #[zA d,.slice a l.length c] 27) (λo wr=>l.length-(intOf o).toNat);case atStart=>exact⟨⟨0,Bp _,rfl,by simp[AP],r.o⟩,F.o⟩
   case round=>
    obtain⟨⟨k,hk,rfl,he,hb⟩,hT⟩:=hrel;have m:=Aa he;have u:=Aa hb;have x:=Aa hT;clear he;have A:w.heap.size<=wr.heap.size:=hb.size;have t0:=hT.c0;have t1:=hT.c1;by_cases n:k<l.length
    ·obtain⟨b,o,I,c',rfl,d0,d1,hx⟩:=z.get hb (λ_ _ h=>h) k n;have HT:=Aa (Ly l k n);have J:(k:Int)<(l.length:Int):=(by omega);clear hb hT;go_wp2_with fail;refine(E.o _ (Bv n) _ _ X (hx.alloc _)).mono ?_;rintro e w2 ⟨rfl,q⟩;have y:Hid (Below w.heap.size w w2):=(u.o.alloc A _).trans (q.mono (by simp; omega));have B:=Aa ((x.o.alloc _).below q (x.o.alloc _).lt);clear q;by_cases i:AP [l[k]]=0
     ·have j:=Aa i;rw[i];clear i;go_wp2_with fail;go_roundw
      case rel=>exact⟨⟨k+1,by omega,by go_num,by rw[HT.o,m.o,j.o]; rfl,y.o⟩,B.o⟩
      case measure=>simp[intOf]; omega
     ·have h1:(AP [l[k]]==0)=false:=(by simpa using i);have h2:(AP [l[k]] !=0)=true:=(by simpa using i);have j:Hid (AP [l[k]]=AP [(⟨d,l⟩:Ty)]):=by
       have h1:AP (l.take (k+1))=AP [l[k]]:=by rw[HT.o,m.o]; rfl
       unfold Hid;rw[g.o,Lz (l:=l) (k:=k+1) (by rw[h1]; exact i),h1]
      go_wp2_with fail;go_ret;exact⟨AM j.o,y.o⟩
    ·have C:l.take k=l:=Bz (by omega);have L:¬((k:Int)<(l.length:Int)):=(by omega);have j:Hid (0=AP [(⟨d,l⟩:Ty)]):=Aa (by rw[g.o,<-C,m.o]);go_wp2_with fail;go_ret;exact⟨AM j.o,u.o⟩
  by_cases h2:l.length=2
  ·have s:=Aa h2;have f0:((l.length:Int) !=0)=true:=(by simp[h2]);have f1:((l.length:Int) !=2)=false:=(by simp[h2]);have f2:((l.length:Int)==2)=true:=(by simp[h2]);clear h2 h0;by_cases hi:d=0
   ·subst hi;have f:Hid (CQ 0 l.length=0):=Aa (by unfold CQ;rw[s.o];simp);have g:=Aa (ID f.o);go_in;go_wp2_with fail;go_loopw [32] (λo wr=>LA l w o wr/\Ab wr w.heap.size #[zA 0,.slice a l.length c] 27) (λo wr=>l.length-(intOf o).toNat);case atStart=>exact⟨⟨0,Bp _,rfl,by simp[AP],r.o⟩,F.o⟩
    case round=>
     obtain⟨⟨k,hk,rfl,he,hb⟩,hT⟩:=hrel;have m:=Aa he;have u:=Aa hb;have x:=Aa hT;clear he;have A:w.heap.size<=wr.heap.size:=hb.size;have t0:=hT.c0;have t1:=hT.c1;by_cases n:k<l.length
     ·obtain⟨b,o,I,c',rfl,d0,d1,hx⟩:=z.get hb (λ_ _ h=>h) k n;have HT:=Aa (Ly l k n);have J:(k:Int)<(l.length:Int):=(by omega);clear hb hT;go_wp2_with fail;refine(E.o _ (Bv n) _ _ X (hx.alloc _)).mono ?_;rintro e w2 ⟨rfl,q⟩;have y:Hid (Below w.heap.size w w2):=(u.o.alloc A _).trans (q.mono (by simp; omega));have B:=Aa ((x.o.alloc _).below q (x.o.alloc _).lt);clear q;by_cases i:AP [l[k]]=0
      ·have j:=Aa i;rw[i];clear i;go_wp2_with fail;go_roundw
       case rel=>exact⟨⟨k+1,by omega,by go_num,by rw[HT.o,m.o,j.o]; rfl,y.o⟩,B.o⟩
       case measure=>simp[intOf]; omega
      ·have h1:(AP [l[k]]==0)=false:=(by simpa using i);have h2:(AP [l[k]] !=0)=true:=(by simpa using i);have j:Hid (AP [l[k]]=AP [(⟨0,l⟩:Ty)]):=by
        have h1:AP (l.take (k+1))=AP [l[k]]:=by rw[HT.o,m.o]; rfl
        unfold Hid;rw[g.o,Lz (l:=l) (k:=k+1) (by rw[h1]; exact i),h1]
       go_wp2_with fail;go_ret;exact⟨AM j.o,y.o⟩
     ·have C:l.take k=l:=Bz (by omega);have L:¬((k:Int)<(l.length:Int)):=(by omega);have j:Hid (0=AP [(⟨0,l⟩:Ty)]):=Aa (by rw[g.o,<-C,m.o]);go_wp2_with fail;go_ret;exact⟨AM j.o,u.o⟩
   ·have aq:(d !=0)=true:=(by simpa using hi);have f:Hid (CQ d l.length=2):=Aa (by unfold CQ;rw[s.o];simp[hi]);have g:Hid (AP [(⟨d,l⟩:Ty)]=2):=Aa (by rw[Ha (by rw[f.o]; decide),f.o]);go_in;go_wp2_with fail;go_ret;exact⟨AM g.o.symm,r.o⟩
  have f0:((l.length:Int) !=0)=true:=by simp; exact λh=>h0 (by simp[h])
  have f1:((l.length:Int) !=2)=true:=by simp; omega
  have f2:((l.length:Int)==2)=false:=by simp; omega
  have M:=Aa h0;have N:=Aa h2;clear h0 h2;have f:Hid (CQ d l.length=2):=Aa (by unfold CQ;rw[Aq ⟨M.o,Ad N.o⟩]);have g:Hid (AP [(⟨d,l⟩:Ty)]=2):=Aa (by rw[Ha (by rw[f.o]; decide),f.o]);go_in;go_wp2_with fail;go_ret;exact⟨AM g.o.symm,r.o⟩
theorem Wm (t:Ty) (v:Value) (w:World) (X:Nat->Prop) (b:YV w X v t):
  Calls prog 7 #[v] w λe w'=>e=.returned (zA (CR t))/\Below w.heap.size w w':=by
 obtain⟨a,c,rfl,k⟩:=b;have b:YV w X (.agg (zH t a c)) t:=⟨a,c,rfl,k⟩;have i:Hid (Below w.heap.size w (w.alloc (zn t a c))):=(Ac _ _).alloc (Af _) _;have f:=Ab.new w (zH t a c) 27;go_in;go_wp2_with fail;refine(Pt t _ _ _ X (b.alloc _) (by omega) (by omega)).mono ?_;rintro e w1 ⟨rfl,g⟩;have d:=Aa (i.o.trans (g.mono (by simp)));have j:=Aa (f.below g f.lt);have t0:=j.o.c0;have t1:=j.o.c1;clear g f i;by_cases h3:200<AB [t]
 ·have h:Hid (CR t=3):=Aa (by unfold CR;rw[Aq h3]);have e:min (AB [t]:Int) (200+1)=201:=by omega
  rw[e];go_wp2_with fail;go_ret;exact⟨AM h.o.symm,d.o⟩
 ·have h:Hid (CR t=AP [t]):=Aa (by unfold CR;rw[Am h3]);have e:min (AB [t]:Int) (200+1)=AB [t]:=by omega
  rw[e];have hle:¬(200:Int)<(AB [t]:Int):=by omega
  go_wp2_with fail;refine(Wk t _ _ X (b.later d.o)).mono ?_;rintro e w2 ⟨rfl,l⟩;go_wp2_with fail;go_ret;exact⟨AM h.o.symm,d.o.trans (l.mono d.o.size)⟩
theorem PC (t:Ty) (v:Value) (w:World) (X:Nat->Prop) (b:YV w X v t):
  Calls prog 54 #[v] w λe w'=>e=.returned (zA (CR t))/\Below w.heap.size w w':=by
 obtain⟨a,c,rfl,k⟩:=b;have b:YV w X (.agg (zH t a c)) t:=⟨a,c,rfl,k⟩;have i:Hid (Below w.heap.size w (w.alloc (zn t a c))):=(Ac _ _).alloc (Af _) _;have f:=Ab.new w (zH t a c) 27;go_in;go_wp2_with fail;refine(Wj 200 (by omega) (by omega) t _ _ X (b.alloc _)).mono ?_;rintro e w1 ⟨rfl,g⟩;have d:=Aa (i.o.trans (g.mono (by simp)));have j:=Aa (f.below g f.lt);have t0:=j.o.c0;have t1:=j.o.c1;clear g f i;by_cases h3:200<AB [t]
 ·have h:Hid (CR t=3):=Aa (by unfold CR;rw[Aq h3]);have e:min (AB [t]:Int) (200+1)=201:=by omega
  rw[e];go_wp2_with fail;go_ret;exact⟨AM h.o.symm,d.o⟩
 ·have h:Hid (CR t=AP [t]):=Aa (by unfold CR;rw[Am h3]);have e:min (AB [t]:Int) (200+1)=AB [t]:=by omega
  rw[e];have hle:¬(200:Int)<(AB [t]:Int):=by omega
  go_wp2_with fail;refine(Wl t _ _ X (b.later d.o)).mono ?_;rintro e w2 ⟨rfl,l⟩;go_wp2_with fail;go_ret;exact⟨AM h.o.symm,d.o.trans (l.mono d.o.size)⟩
structure Lm where
 kind:Int
 idx:Int
 subs:List Lm
abbrev zE (t:Lm) (a:Option Addr) (c:Nat):Array Value:=#[zA t.kind,zA t.idx,.slice a t.subs.length c]
abbrev zm (t:Lm) (a:Option Addr) (c:Nat):Obj:=.cells (zE t a c) 24
theorem Lm.ind {P:Lm->Prop} (h:∀k x l,(∀y∈l,P y)->P ⟨k,x,l⟩) (t:Lm):P t:=
 Lm.rec (motive_1:=P) (motive_2:=λl=>∀x∈l,P x) (λk x l b=>h k x l b) (λx hx=>by cases hx)
  (λa l c d x hx=>by
   rcases Ct.1 hx with e|e
   ·subst e; exact c
   ·exact d x e) t
theorem Lm.indL {P:List Lm->Prop} (h0:P []) (h:∀k x l r,P l->P r->P (⟨k,x,l⟩::r)) (l:List Lm):P l:=
 Lm.rec_1 (motive_1:=λt=>P t.subs) (motive_2:=P) (λ_ _ _ b=>b) h0 (λa l c d=>by obtain⟨k,x,m⟩:=a; exact h k x m l c d) l
def Ai:List Lm->Nat
 | []=>0
 | ⟨_,_,l⟩::r=>1+Ai l+Ai r
theorem Ki (a b:List Lm):Ai (a++b)=Ai a+Ai b:=by
 induction a with
 |nil=>simp[Ai]
 |cons t r c=>obtain⟨k,x,l⟩:=t; simp only[Dj,Ai,c]; omega
theorem Df (l:List Lm) (k:Nat) (h:k<l.length):Ai (l.take (k+1))=Ai (l.take k)+Ai [l[k]]:=by
 rw[CI h,Ki]
theorem DJ (l:List Lm) (k:Nat):Ai (l.take k)<=Ai l:=by
 have h:=Ki (l.take k) (l.drop k);rw[FH]at h;omega
theorem Jj (l:List Lm):l.length<=Ai l:=by
 induction l with
 |nil=>simp
 |cons t r ih=>obtain⟨k,x,m⟩:=t; simp only[Cl,Ai]; omega
def Dc (w:World) (X:Nat->Prop):Nat->Nat->List Lm->Prop
 |_,_,[]=>True
 |b,o,⟨k,x,l⟩::r=>X b/\w.cell? (zD b o)=some (zA k)/\w.cell? ⟨b,o+1,none⟩=some (zA x)/\
   (∃a c,w.cell? ⟨b,o+2,none⟩=some (.slice a l.length c)/\l.length<=9223372036854775807/\(l=[]∨∃b' o',a=some (zD b' o')/\Dc w X b' o' l))/\Dc w X b (o+3) r
def Ap (w:World) (X:Nat->Prop) (a:Option Addr) (l:List Lm):Prop:=l.length<=9223372036854775807/\(l=[]∨∃b o,a=some (zD b o)/\Dc w X b o l)
def MV (w:World) (X:Nat->Prop) (v:Value) (t:Lm):Prop:=∃a c,v=.agg (zE t a c)/\Ap w X a t.subs
theorem Wn (h:∀b,X b->w'.heap[b]? = w.heap[b]?) (l:List Lm):∀b o,Dc w X b o l->Dc w' X b o l:=by
 induction l using Lm.indL with
 |h0=>intro b o _; simp[Dc]
 |h k x l r e f=>
  intro b o d;simp only[Dc] at d ⊢;obtain⟨hx,h1,g,⟨a,c,h2,i,h3⟩,j⟩:=d;refine⟨hx,by rw[DI (h b hx)]; exact h1,by rw[DI (h b hx)]; exact g,⟨a,c,by rw[DI (h b hx)]; exact h2,i,?_⟩,f _ _ j⟩;rcases h3 with h3|⟨b',o',h3,h5⟩
  ·exact Ad h3
  ·exact Ae ⟨b',o',h3,e _ _ h5⟩
theorem Wo (h:∀b,X b->b<w.heap.size->Y b) (l:List Lm):∀b o,Dc w X b o l->Dc w Y b o l:=by
 induction l using Lm.indL with
 |h0=>intro b o _; simp[Dc]
 |h k x l r f g=>
  intro b o d;simp only[Dc] at d ⊢;obtain⟨hx,h1,i,⟨a,c,h2,j,h3⟩,m⟩:=d;have hb:b<w.heap.size:=by
   apply Er;intro hn;have e:w.heap[b]? = none:=Iz (by omega);simp[World.cell?,e]at h1
  refine⟨h b hx hb,h1,i,⟨a,c,h2,j,?_⟩,g _ _ m⟩;rcases h3 with h3|⟨b',o',h3,h5⟩
  ·exact Ad h3
  ·exact Ae ⟨b',o',h3,f _ _ h5⟩
theorem Ap.kept {l:List Lm} (h:Ap w X a l) (hk:∀b,X b->w'.heap[b]? = w.heap[b]?):Ap w' X a l:=by
 obtain⟨c,h⟩:=h;refine⟨c,?_⟩;rcases h with h|⟨b,o,e,h⟩
 ·exact Ad h
 ·exact Ae ⟨b,o,e,Wn hk _ _ _ h⟩
theorem Ap.mono {l:List Lm} (h:Ap w X a l) (hk:∀b,X b->b<w.heap.size->Y b):Ap w Y a l:=by
 obtain⟨c,h⟩:=h;refine⟨c,?_⟩;rcases h with h|⟨b,o,e,h⟩
 ·exact Ad h
 ·exact Ae ⟨b,o,e,Wo hk _ _ _ h⟩
theorem Ap.below {l:List Lm} (h:Ap w X a l) (hb:Below B w w') (c:∀b,X b->b<w.heap.size->b<B):Ap w' X a l:=by
 have h1:Ap w (λb=>X b/\b<B) a l:=h.mono λb hx d=>⟨hx,c b hx d⟩;have h2:Ap w' (λb=>X b/\b<B) a l:=h1.kept λb hx=>hb.block b hx.2;exact h2.mono λb hx _=>hx.1
theorem MV.kept {t:Lm} (h:MV w X v t) (hk:∀b,X b->w'.heap[b]? = w.heap[b]?):MV w' X v t:=by
 obtain⟨a,c,e,h⟩:=h;exact⟨a,c,e,h.kept hk⟩
theorem MV.mono {t:Lm} (h:MV w X v t) (hk:∀b,X b->b<w.heap.size->Y b):MV w Y v t:=by
 obtain⟨a,c,e,h⟩:=h;exact⟨a,c,e,h.mono hk⟩
theorem MV.below {t:Lm} (h:MV w X v t) (hb:Below B w w') (d:∀b,X b->b<w.heap.size->b<B):MV w' X v t:=by
 obtain⟨a,c,e,h⟩:=h;exact⟨a,c,e,h.below hb d⟩
theorem MV.alloc {t:Lm} (h:MV w X v t) (o:Obj):MV (w.alloc o) X v t:=
 h.below ((Ac _ _).alloc (Af _) o) (λ_ _ h=>h)
theorem MV.later {t:Lm} (h:MV w X v t) (hb:Below w.heap.size w w'):MV w' X v t:=h.below hb (λ_ _ h=>h)
theorem Ap.later {l:List Lm} (h:Ap w X a l) (hb:Below w.heap.size w w'):Ap w' X a l:=h.below hb (λ_ _ h=>h)
theorem Fe:∀(l:List Lm) (b o:Nat),Dc w X b o l->∀i (h:i<l.length),
  X b/\w.cell? ⟨b,o+i*3,none⟩=some (zA l[i].kind)/\w.cell? ⟨b,o+i*3+1,none⟩=some (zA l[i].idx)/\∃a c,w.cell? ⟨b,o+i*3+2,none⟩=some (.slice a l[i].subs.length c)/\Ap w X a l[i].subs:=by
 intro l;induction l with
 |nil=>intro b o _ i h; simp at h
 |cons t r e=>
  intro b o d i h;obtain⟨s,x,k⟩:=t;simp only[Dc] at d;obtain⟨hx,h1,f,⟨a,c,h2,h3⟩,g⟩:=d;cases i with
  |zero=>exact⟨hx,h1,f,a,c,h2,h3⟩
  |succ i=>have:=e b (o+3) g i (by simpa using h);simp only[FG];rw[show o+(i+1)*3=o+3+i*3 by omega];exact this
theorem Ap.get {l:List Lm} (h:Ap w X a l) (hb:Below B w wr) (d:∀b,X b->b<w.heap.size->b<B) (k:Nat) (hk:k<l.length):
  ∃b o c c',a=some (zD b o)/\wr.cell? ⟨b,o+k*3,none⟩=some (zA l[k].kind)/\wr.cell? ⟨b,o+k*3+1,none⟩=some (zA l[k].idx)/\wr.cell? ⟨b,o+k*3+2,none⟩=some (.slice c l[k].subs.length c')/\MV wr X (.agg (zE l[k] c c')) l[k]:=by
 have h':=h.below hb d;obtain⟨_,h1⟩:=h';rcases h1 with h1|⟨b,o,e,h1⟩
 ·subst h1; simp at hk
 ·obtain⟨_,h2,f,c,c',h3,g⟩:=Fe _ _ _ h1 k hk;exact⟨b,o,c,c',e,h2,f,h3,c,c',rfl,g⟩
theorem Jk (t:Lm):∀(v:Value) (most:Int) (w:World) (X:Nat->Prop),MV w X v t->0<=most->most<=1000000->
  Calls prog 10 #[v,zA most] w λe w'=>e=.returned (zA (min (Ai [t]) (most+1)))/\Below w.heap.size w w':=by
 induction t using Lm.ind with
 |h d f l m=>
  intro v most w X s ah ai;obtain⟨a,c,rfl,q⟩:=s;have u:=Aa m;clear m;go_in;go_wp2_with fail;go_loopw [5,6] (λn i wr=>∃k:Nat,k<=l.length/\i=zA k/\n=zA (min (1+Ai (l.take k)) (most+1))/\Below (w.heap.size+1) (w.alloc (Obj.cells #[Value.int .i64 d,Value.int .i64 f,Value.slice a l.length c] 24)) wr) (λn i wr=>l.length-(intOf i).toNat);case atStart=>exact⟨0,Bp _,rfl,by simp[Ai]; omega,Ac _ _⟩
  case round=>
   obtain⟨k,hk,rfl,rfl,hb⟩:=hrel;have hc:=Lv hb;have c0:wr.cell? (zD w.heap.size 0)=some (zA d):=by rw[hc.1 _ _ (by omega)]; simp
   have aj:wr.cell? (zD w.heap.size 1)=some (zA f):=by rw[hc.1 _ _ (by omega)]; simp
   have c1:wr.cell? (zD w.heap.size 2)=some (.slice a l.length c):=by rw[hc.1 _ _ (by omega)]; simp
   have hl:=q.1;have hn:0<=((1:Int)+Ai (l.take k)):=(by omega);by_cases g:k<l.length
   ·obtain⟨b,o,a',c',rfl,d0,ak,d1,hx⟩:=q.get (((Ac _ _).alloc (Af _) _).trans (hb.mono (Jd _))) (λ_ _ h=>h) k g;by_cases hle:1+(Ai (l.take k):Int)<=most
    ·have j:min (1+(Ai (l.take k):Int)) (most+1)=1+(Ai (l.take k):Int):=(by omega);rw[j];go_wp2_with fail;refine(u.o _ (Bv g) _ _ _ X hx (by omega) (by omega)).mono ?_;rintro e w1 ⟨rfl,x⟩;have y:w.heap.size+1<=wr.heap.size:=by have:=hb.size; simpa using this
     have z:=Aa (Df l k g);have al:0<=min ((Ai [l[k]]:Int)) (most-(1+(Ai (l.take k):Int))+1):=(by omega);have an:min ((Ai [l[k]]:Int)) (most-(1+(Ai (l.take k):Int))+1)<=1000001:=(by omega);go_wp2_with fail;go_roundw
     case rel=>exact⟨k+1,by omega,by go_num,by rw[z.o]; congr 1; omega,hb.trans (x.mono y)⟩
     case measure=>simp[intOf]; omega
    ·have j:min (1+(Ai (l.take k):Int)) (most+1)=most+1:=(by omega);rw[j];have hz:(Ai [(⟨d,f,l⟩:Lm)]:Int)=1+Ai l:=(by simp[Ai]);have af:Ai (l.take k)<=Ai l:=DJ l k;have A:=Aa (show(most+1:Int)=min (Ai [(⟨d,f,l⟩:Lm)]:Int) (most+1) by omega);clear hz;go_wp2_with fail;go_ret;exact⟨AM A.o,FK hb⟩
   ·have B:l.take k=l:=Bz (by omega);rw[B];have hz:(Ai [(⟨d,f,l⟩:Lm)]:Int)=1+Ai l:=(by simp[Ai]);have r:=Aa hz;clear hz;go_wp2_with fail
    ·go_ret;exact⟨AM (by have:=r.o; omega),FK hb⟩
    ·go_ret;exact⟨AM (by have:=r.o; omega),FK hb⟩
theorem Wp (t:Lm) (v:Value) (w:World) (X:Nat->Prop) (b:MV w X v t):
  Calls prog 5 #[v] w λe w'=>e=.returned (.bool (decide (3000<Ai [t])))/\Below w.heap.size w w':=by
 obtain⟨a,c,rfl,f⟩:=b;have b:MV w X (.agg (zE t a c)) t:=⟨a,c,rfl,f⟩;go_in;go_wp2_with fail;refine(Jk t _ _ _ X (b.alloc _) (by omega) (by omega)).mono ?_;rintro e w1 ⟨rfl,d⟩;by_cases h:3000<Ai [t]
 ·have e:min (Ai [t]:Int) (3000+1)=3001:=by omega
  rw[e];go_wp2_with fail;go_ret;exact⟨by simp[h],((Ac _ _).alloc (Af _) _).trans (d.mono (by simp))⟩
 ·have e:min (Ai [t]:Int) (3000+1)=Ai [t]:=by omega
  rw[e];go_wp2_with fail;go_ret;exact⟨by simp[h]<;>omega,((Ac _ _).alloc (Af _) _).trans (d.mono (by simp))⟩
theorem Wq (b d:Int) (a:Option Addr) (n c:Nat) (w:World):
  Calls prog 61 #[.agg #[zA b,zA d,.slice a n c]] w λe w'=>e=.returned (.slice a n c)/\w'=w.alloc (zp #[zA b,zA d,.slice a n c] 24):=by
 go_in;go_wp2_with fail;go_ret;exact⟨rfl,rfl⟩
theorem Wr (M:Int) (ai:0<=M) (aj:M<=1000000) (t:Lm):∀(v:Value) (n:Int) (w:World) (X:Nat->Prop),MV w X v t->0<=n->n<=M->
  Calls prog 125 #[v,.func (.func 61) #[] #[],zA M,zA n] w λe w'=>e=.returned (zA (min (n+Ai [t]) (M+1)))/\Below w.heap.size w w':=by
 induction t using Lm.ind with
 |h d f l q=>
  intro v n w X s ak al;obtain⟨a,c,rfl,r⟩:=s;have u:=Aa q;clear q;have hz:Hid ((Ai [(⟨d,f,l⟩:Lm)]:Int)=1+Ai l):=by simp[Hid,Ai]
  go_in;go_wp2_with (go_at_call 61; refine(Wq _ _ _ _ _ _).mono ?_; rintro e w' ⟨rfl,rfl⟩);have x:Hid (Below w.heap.size w ((w.alloc (Obj.cells #[Value.int .i64 d,Value.int .i64 f,Value.slice a l.length c] 24)).alloc (Obj.cells #[Value.int .i64 d,Value.int .i64 f,Value.slice a l.length c] 24))):=((Ac _ _).alloc (Af _) _).alloc (by simp) _;have an:Hid (w.heap.size+2<=((w.alloc (Obj.cells #[Value.int .i64 d,Value.int .i64 f,Value.slice a l.length c] 24)).alloc (Obj.cells #[Value.int .i64 d,Value.int .i64 f,Value.slice a l.length c] 24)).heap.size):=by simp[Hid]
  generalize ((w.alloc (Obj.cells #[Value.int .i64 d,Value.int .i64 f,Value.slice a l.length c] 24)).alloc (Obj.cells #[Value.int .i64 d,Value.int .i64 f,Value.slice a l.length c] 24))=w0 at *;go_loopw [9,18] (λm i wr=>∃k:Nat,k<=l.length/\i=zA k/\m=zA (min (n+1+Ai (l.take k)) (M+1))/\Below w.heap.size w wr) (λm i wr=>l.length-(intOf i).toNat);case atStart=>exact⟨0,Bp _,rfl,by rw[show Ai (l.take 0)=0 by simp[Ai]]; congr 1; omega,x.o⟩
  case round=>
   obtain⟨k,hk,rfl,rfl,hb⟩:=hrel;have hl:=r.1;have y:w.heap.size<=wr.heap.size:=hb.size;by_cases g:k<l.length
   ·obtain⟨b,o,a',c',rfl,d0,ao,d1,hx⟩:=r.get hb (λ_ _ h=>h) k g;by_cases hle:n+1+(Ai (l.take k):Int)<=M
    ·have j:min (n+1+(Ai (l.take k):Int)) (M+1)=n+1+(Ai (l.take k):Int):=(by omega);rw[j];go_wp2_with fail;refine(u.o _ (Bv g) _ _ _ X (hx.alloc _) (by omega) (by omega)).mono ?_;rintro e w1 ⟨rfl,z⟩;have A:=Aa (Df l k g);go_wp2_with fail;go_roundw
     case rel=>exact⟨k+1,by omega,by go_num,by rw[A.o]; congr 1; omega,(hb.alloc y _).trans (z.mono (by simp; omega))⟩
     case measure=>simp[intOf]; omega
    ·have j:min (n+1+(Ai (l.take k):Int)) (M+1)=M+1:=(by omega);rw[j];have ag:Ai (l.take k)<=Ai l:=DJ l k;go_wp2_with fail;go_ret;refine⟨AM (by have:=hz.o; omega),?_⟩;exact hb.alloc (by omega) _
   ·have B:l.take k=l:=Bz (by omega);rw[B];go_wp2_with fail;go_ret;exact⟨AM (by have:=hz.o; omega),hb⟩
theorem Ws (M:Int) (d:0<=M) (f:M<=1000000) (t:Lm) (v:Value) (w:World) (X:Nat->Prop) (b:MV w X v t):
  Calls prog 110 #[v,.func (.func 61) #[] #[],zA M] w λe w'=>e=.returned (zA (min (Ai [t]:Int) (M+1)))/\Below w.heap.size w w':=by
 obtain⟨a,c,rfl,g⟩:=b;have b:MV w X (.agg (zE t a c)) t:=⟨a,c,rfl,g⟩;go_in;go_wp2_with fail;refine(Wr M d f t _ _ _ X (b.alloc _) (by omega) (by omega)).mono ?_;rintro e w1 ⟨rfl,h⟩;go_wp2_with fail;go_ret;exact⟨AM (by omega),((Ac _ _).alloc (Af _) _).trans (h.mono (by simp))⟩
theorem PD (M:Int) (d:0<=M) (f:M<=1000000) (t:Lm) (v:Value) (w:World) (X:Nat->Prop) (b:MV w X v t):
  Calls prog 95 #[v,zA M] w λe w'=>e=.returned (zA (min (Ai [t]:Int) (M+1)))/\Below w.heap.size w w':=by
 obtain⟨a,c,rfl,g⟩:=b;have b:MV w X (.agg (zE t a c)) t:=⟨a,c,rfl,g⟩;go_in;go_wp2_with fail;refine(Ws M d f t _ _ X (b.alloc _)).mono ?_;rintro e w1 ⟨rfl,h⟩;go_wp2_with fail;go_ret;exact⟨AM (by omega),((Ac _ _).alloc (Af _) _).trans (h.mono (by simp))⟩
theorem Dk (o o':Obj):Below w.heap.size w ((w.alloc o).alloc o'):=((Ac _ _).alloc (Af _) o).alloc (by simp) o'
theorem Wt {b c e g i j:Addr} {k l:Value} (hb:Below (w.drewN n).heap.size (w.drewN n) w1)
  (h:w.cell? b=some v1/\w.cell? c=some v2/\w.cell? d=some v3/\w.cell? e=some v4/\w.cell? f=some v5/\w.cell? g=some v6/\w.cell? i=some k/\w.cell? j=some l):
  w1.cell? b=some v1/\w1.cell? c=some v2/\w1.cell? d=some v3/\w1.cell? e=some v4/\w1.cell? f=some v5/\w1.cell? g=some v6/\w1.cell? i=some k/\w1.cell? j=some l:=by
 have a:Below w.heap.size w w1:=(below_drewN (Ac _ _) n).trans (hb.mono (by simp));obtain⟨h1,h2,h3,m,h5,h6,o,h8⟩:=h;exact⟨cell_later a h1,cell_later a h2,cell_later a h3,cell_later a m,cell_later a h5,cell_later a h6,cell_later a o,cell_later a h8⟩
theorem Wu (t:Lm):∀(v u:Value) (w:World) (X Y:Nat->Prop),MV w X v t->MV w Y u t->
  Calls prog 41 #[v,u] w λe w'=>e=.returned (.bool true)/\Below w.heap.size w w':=by
 induction t using Lm.ind with
 |h kd ix l q=>
  intro v u w X Y y hu;have z:=Aa q;clear q;obtain⟨a,c,rfl,r⟩:=y;obtain⟨a2,c2,rfl,A⟩:=hu;have hl:=r.1;go_in;go_wp2_with fail;go_loopw [5] (λi wr=>∃(k:Nat),k<=l.length/\i=zA k/\Below w.heap.size w wr/\wr.cell? (zD w.heap.size 2)=some (.slice a l.length c)/\wr.cell? (zD (w.heap.size+1) 2)=some (.slice a2 l.length c2)/\w.heap.size+2<=wr.heap.size) (λi wr=>l.length-(intOf i).toNat);case atStart=>exact⟨0,Bp _,rfl,Dk _ _,by simp,by simp,by simp⟩
  case round=>
   obtain⟨k,hk,rfl,hb,B,C,ao⟩:=hrel;by_cases g:k<l.length
   ·obtain⟨b,o,D,c',rfl,d0,E,d1,hx⟩:=r.get hb (λ_ _ h=>h) k g;obtain⟨d,f,F,G,rfl,H,I,e1,s⟩:=A.get hb (λ_ _ h=>h) k g;have J:=Aa hx;have L:=Aa s;have M:=Aa hb;have x:=Aa (And.intro B (And.intro C (And.intro d0 (And.intro E (And.intro d1 (And.intro H (And.intro I e1)))))));clear hx s hb;go_wp2_with fail;go_region_held3 (λw'=>w'.cell? (zD w.heap.size 2)=some (.slice (some (zD b o)) l.length c)/\w'.cell? (zD (w.heap.size+1) 2)=some (.slice (some (zD d f)) l.length c2)/\w'.cell? ⟨b,o+k*3,none⟩=some (zA l[k].kind)/\w'.cell? ⟨b,o+k*3+1,none⟩=some (zA l[k].idx)/\w'.cell? ⟨b,o+k*3+2,none⟩=some (.slice D l[k].subs.length c')/\w'.cell? ⟨d,f+k*3,none⟩=some (zA l[k].kind)/\w'.cell? ⟨d,f+k*3+1,none⟩=some (zA l[k].idx)/\w'.cell? ⟨d,f+k*3+2,none⟩=some (.slice F l[k].subs.length G)) (first|exact x.o|exact j)
     ((go_at_call 41; refine(z.o _ (Bv g) _ _ _ X Y (by exact J.o.later (below_drewN (Ac _ _) 1)) (by exact L.o.later (below_drewN (Ac _ _) 1))).mono ?_; rintro e w1 ⟨rfl,m⟩; have j:=Wt (n:=1) m x.o))
    go_wp2_with fail;go_roundw
    case rel=>exact⟨k+1,by omega,by go_num,(M.o.trans (below_drewN (Ac _ _) 1)).trans (m.mono (by simp; omega)),j.1,j.2.1,by have:=m.size; simp at this; omega⟩
    case measure=>simp[intOf]; omega
   ·go_wp2_with fail;go_ret;exact⟨rfl,hb⟩
def PE:Value:=.agg zJ
theorem Wv (t:Lm) (v u:Value) (w:World) (X Y:Nat->Prop) (f:MV w X v t) (hu:MV w Y u t):
  Calls prog 17 #[v,zA 0,u,zA 0] w λe w'=>e=.returned (.bool true)/\Below w.heap.size w w':=by
 obtain⟨a,c,rfl,b⟩:=f;obtain⟨a2,c2,rfl,d⟩:=hu;have g:=Aa (show MV w X (.agg (zE t a c)) t from ⟨a,c,rfl,b⟩);have h:=Aa (show MV w Y (.agg (zE t a2 c2)) t from ⟨a2,c2,rfl,d⟩);clear b d;go_in;go_wp2_with fail;refine(Wu t _ _ _ X Y (by exact g.o.later (Dk _ _)) (by exact h.o.later (Dk _ _))).mono ?_;rintro e w1 ⟨rfl,i⟩;go_wp2_with fail;go_ret;exact⟨rfl,(Dk _ _).trans (i.mono (by simp; omega))⟩
theorem Ww (f:Int) (u:Value) (a b:Int) (a2:Option Addr) (c c2:Nat) (hu:u=.agg #[zA a,zA b,.slice a2 c c2]) (w:World) (d:f≠0):
  Calls prog 17 #[PE,zA f,u,zA f] w λe w'=>e=.returned (.bool true)/\Below w.heap.size w w':=by
 subst hu;unfold PE;have aa:(f==0)=false:=by simpa using d
 go_in;go_wp2_with fail;go_ret;exact⟨rfl,Dk _ _⟩
def Nv (n:Int):Bool:=decide (48<=n)&&decide (n<=57)
def Ig (n:Int):Bool:=decide (65<=n)&&decide (n<=90)
def PG (n:Int):Bool:=decide (97<=n)&&decide (n<=122)
def PH (n:Int):Bool:=PG n||Ig n
def PI (n:Int):Bool:=PH n||Nv n
theorem El {a b:Bool} (h:a=b):Ending.returned (.bool a)=.returned (.bool b):=by rw[h]
theorem Wx (n:Int) (w:World):Calls prog 124 #[.int .u8 n] w λe w'=>e=.returned (.bool (Ig n))/\w'=w:=by
 go_in;go_wp2_with fail;all_goals (go_ret; refine⟨El ?_,rfl⟩; rw[Bool.eq_iff_iff]; simp[PI,PH,PG,Ig,Nv]<;>omega)
def Ih (s:ByteArray) (i:Nat):Int:=if h:i<s.size then (s[i].toNat:Int) else 0
theorem PJ (h:i<s.size):(s[i].toNat:Int)=Ih s i:=by simp[Ih,h]
def Av (s:ByteArray):Bool:=Ig (Ih s 0)
def Wy (s:ByteArray) (k:Nat):Bool:=(List.range k).all λi=>PI (Ih s i)
def Ff (s:ByteArray):Bool:=decide (1<=s.size)&&decide (s.size<=8)&&!Nv (Ih s 0)&&Wy s s.size
theorem PL (h:0<s.size):s.toList.isEmpty=false:=by
 rw[GW,List.isEmpty_eq_false_iff,<-GY];simpa using h
theorem PM (h:¬0<s.size):s.toList.isEmpty=true:=by
 rw[GW,List.isEmpty_iff,<-GV];have:s.size=0:=by omega
 simpa using this
theorem Hb (s:ByteArray) (w:World):Calls prog 46 #[.string s] w λe w'=>e=.returned (.bool (Av s))/\w'=w:=by
 by_cases h:0<s.size
 ·have hb:=Aa (PJ h);have he:=PL h;go_in;go_wp2_with fail;all_goals (go_ret; refine⟨El ?_,rfl⟩; have aa:=hb.o; rw[Bool.eq_iff_iff]; simp[Av,Ig]<;>omega)
 ·have he:=PM h;have a:Hid (false=Av s):=by simp[Hid,Av,Ih,h,Ig]
  go_in;go_wp2_with fail;go_ret;exact⟨El a.o,rfl⟩
theorem DU (s:ByteArray) (w:World):Calls prog 109 #[.string s] w λe w'=>e=.returned (.bool (Av s))/\w'=w:=by
 by_cases h:0<s.size
 ·have hb:=Aa (PJ h);have he:=PL h;go_in;go_wp2_with (go_at_call 124; refine(Wx _ _).mono ?_; rintro e w' ⟨rfl,rfl⟩);go_ret;refine⟨El ?_,rfl⟩;rw[hb.o]; rfl
 ·have he:=PM h;have a:Hid (false=Av s):=by simp[Hid,Av,Ih,h,Ig]
  go_in;go_wp2_with fail;go_ret;exact⟨El a.o,rfl⟩
def As:List Tm->Int
 | []=>0
 | ⟨s,l⟩::r=>if Ff s=true then (if (Av s&&decide (0<l.length))=true then 2 else if As l=0 then As r else As l) else 1
theorem Nw (t:Tm) (r:List Tm):As (t::r)=if As [t]=0 then As r else As [t]:=by
 obtain⟨s,l⟩:=t;simp only[As];split
 ·split
  ·simp
  ·split<;>simp_all
 ·simp
def FL (t:Tm):Int:=if 200<Ah [t] then 3 else As [t]
theorem Tryz.infoTerm:(prog.info? 61).map (λi=>(i.zero,i.size,i.bytes))=some (some (.agg #[.string ByteArray.empty,zB]),2,40):=by kernel_rfl
theorem Wz {a:Nat} (h:w.ownsRow base e size v n xs) (hb:a<=base):w.ownsRow a e size v n xs:=by
 obtain⟨h0,h1⟩:=h;refine⟨h0,?_⟩;rcases h1 with h1|⟨g,cap,cur,b,c,r⟩
 ·exact Ad h1
 ·exact Ae ⟨g,cap,cur,b,AJ hb c,r⟩
theorem WA (t:Tm):∀(v:Value) (w:World) (X:Nat->Prop),TV w X v t->Ah [t]<=1000000->
  Calls prog 51 #[v] w λe w'=>∃B xs,e=.returned B/\w'.ownsRow w.heap.size 61 2 B (Ah [t]) xs/\Cc w X (Aw [t]) xs/\Below w.heap.size w w':=by
 induction t using Tm.ind with
 |h s l C=>
  intro v w m D R;obtain⟨X,T,U,V⟩:∃X:Nat->Prop,(∀b,X b->b<w.heap.size)/\(∀b,X b->m b)/\TV w X v ⟨s,l⟩:=⟨λb=>m b/\b<w.heap.size,λ_ h=>h.2,λ_ h=>h.1,D.mono λb h1 h2=>⟨h1,h2⟩⟩;clear D;obtain⟨a,c,rfl,r⟩:=V;have W:=Aa C;clear C;have hl:=r.1;have hz:Ah [(⟨s,l⟩:Tm)]=1+Ah l:=by simp[Ah]
  rw[hz]at R ⊢;clear hz;obtain⟨i0,hi,Y,Z,aB⟩:=Dw Tryz.infoTerm;go_in;go_wp2_with fail;go_loopw [3,4] (λv i wr=>∃(k:Nat) (xs:List Value),k<=l.length/\i=zA k/\wr.ownsRow (w.heap.size+1) 61 2 v (1+Ah (l.take k)) xs/\Cc w X (⟨s,l⟩::Aw (l.take k)) xs/\Below (w.heap.size+1) (w.alloc (Obj.cells #[Value.string s,Value.slice a l.length c] 61)) wr) (λv i wr=>l.length-(intOf i).toNat);case atStart=>
   refine⟨0,[.string s,.slice a l.length c],Bp _,rfl,⟨by simp[Ah],Ae ⟨w.heap.size+1,1,#[.string s,.slice a l.length c],by simp[Ah],Af _,?_,by simp[Ah],by decide,by simp,by simp[Ah]⟩⟩,⟨a,c,[],rfl,r,by simp[Aw,Cc]⟩,(Ac _ _).alloc (by simp) _⟩;have:=IA (w.alloc (Obj.cells #[Value.string s,Value.slice a l.length c] 61)) (Obj.cells #[Value.string s,Value.slice a l.length c] 61);simpa using this
  case round=>
   obtain⟨k,xs,hk,rfl,n,E,hb⟩:=hrel;have F:=Aa E;clear E;have hc:=Lv hb;have c0:wr.cell? (zD w.heap.size 0)=some (.string s):=by rw[hc.1 _ _ (by omega)]; simp
   have c1:wr.cell? (zD w.heap.size 1)=some (.slice a l.length c):=by rw[hc.1 _ _ (by omega)]; simp
   clear hc;have aC:w.heap.size+1<=wr.heap.size:=by have:=hb.size; simpa using this
   by_cases q:k<l.length
   ·obtain⟨b,o,a',c',rfl,d0,d1,hx⟩:=r.get (FK hb) (λ_ _ h=>h) k q;have G:=Aa (Id l k q);have hle:=Ji l (k+1);have aD:Ah (l.take k)+Ah [l[k]]<=Ah l:=by rw[<-G.o]; exact hle
    have au:0<Ah [l[k]]:=by generalize l[k]=t; obtain⟨s',l'⟩:=t; simp[Ah]; omega
    clear hle;go_wp2_with fail;refine(W.o _ (Bv q) _ _ X hx (by omega)).mono ?_;rintro e w1 ⟨v1,f,rfl,y,al,d⟩;have H:Hid (Cc w X (Aw [l[k]]) f):=al.imp λa l h=>h.back (FK hb) T;have an:=Aa y.1;have ai:=Aa (Fd y au);obtain⟨g1,av,rfl,aI,aE,I⟩:=ai.o;have z:w1.ownsRow (w.heap.size+1) 61 2 _ (1+Ah (l.take k)) xs:=n.kept (w':=w1) (row:=none) ⟨d.os,d.tape,d.output,d.size,λj g _=>d.block j g⟩ (by rcases Je (Value.ownBlock _) with h|⟨x,h⟩; exact Ad h; exact Ae (by rw[h]; simp));have J:f.length=Ah [l[k]]*2:=an.o;obtain⟨v2,w2,L,M,N,ar⟩:=run_append_own (P:=prog) w1 (w.heap.size+1) 59 59 61 i0 _ 2 40 underlying59 hi Y Z aB rfl (by decide) _ _ xs z
     (zD g1 0) (Ah [l[k]]) av f J (λj u g=>by
      have:=I j u g;by_cases h0:j=0
      ·subst h0; simpa [Addr.add] using this
      ·simpa [Addr.add,h0] using this) H.o.one (by unfold maxLen; omega) (by omega) (by have:=d.size; omega)
    clear ar;have aF:Hid (Below (w.heap.size+1) (w.alloc (Obj.cells #[Value.string s,Value.slice (some (zD b o)) l.length c] 61)) w2):=
     (hb.trans (d.mono aC)).grown N (by have:=d.size; omega) (λj g=>(z.lt j g).1)
    have aG:Hid (Cc w X (⟨s,l⟩::Aw (l.take (k+1))) (xs++f)):=Aa (by have:=F.o.append H.o;rw[Px l k q];simpa using this);have A:=Aa M;clear y z M N I J;have HA:=Aa L;clear L;go_wp2_with (at_builtin; refine IB rfl _ _ _ _ rfl rfl rfl HA.o ?_);go_roundw
    case rel=>exact⟨k+1,xs++f,by omega,by go_num,by have:=A.o; rw[G.o,<-Nat.add_assoc]; exact this,aG.o,aF.o⟩
    case measure=>simp[intOf]; omega
   ·have O:l.take k=l:=Bz (by omega);rw[O]at n;have A:=Aa n;have aH:Hid (Cc w m (Aw [(⟨s,l⟩:Tm)]) xs):=Aa (by have:=F.o;rw[O]at this;have h2:Cc w m (⟨s,l⟩::Aw l) xs:=this.imp λa l h=>h.mono λb hb _=>U b hb;simpa [Aw] using h2);clear n;go_wp2_with fail;go_ret;exact⟨_,xs,rfl,Wz A.o (by omega),aH.o,FK hb⟩
def LB (t x:Tm):Int:=if FL t=0 then FL x else FL t
def PV (w:World) (X:Nat->Prop) (v:Value) (zs:List Int):Prop:=
 ∃a c,v=.slice a zs.length c/\(zs.length<=9223372036854775807/\zs.length<=c)/\(zs=[]∨∃b o,a=some (zD b o)/\X b/\∀i (h:i<zs.length),w.cell? ⟨b,o+i,none⟩=some (zA zs[i]))
theorem PV.kept {d:List Int} (h:PV w X v d) (hk:∀b,X b->w'.heap[b]? = w.heap[b]?):PV w' X v d:=by
 obtain⟨a,c,e,f,h⟩:=h;refine⟨a,c,e,f,?_⟩;rcases h with h|⟨b,o,e,hx,h⟩
 ·exact Ad h
 ·exact Ae ⟨b,o,e,hx,λi hi=>by rw[DI (hk b hx)]; exact h i hi⟩
theorem PV.mono {d:List Int} (h:PV w X v d) (hk:∀b,X b->b<w.heap.size->Y b):PV w Y v d:=by
 obtain⟨a,c,e,f,h⟩:=h;refine⟨a,c,e,f,?_⟩;rcases h with h|⟨b,o,e,hx,h⟩
 ·exact Ad h
 ·by_cases h0:d=[]
  ·exact Ad h0
  ·have hp:0<d.length:=GY.2 h0;exact Ae ⟨b,o,e,hk b hx (World.block_lt_of_cell? w _ (h 0 hp)),h⟩
theorem PV.below {a:List Int} (h:PV w X v a) (hb:Below B w w') (c:∀b,X b->b<w.heap.size->b<B):PV w' X v a:=by
 have h1:PV w (λb=>X b/\b<B) v a:=h.mono λb hx d=>⟨hx,c b hx d⟩;have h2:PV w' (λb=>X b/\b<B) v a:=h1.kept λb hx=>hb.block b hx.2;exact h2.mono λb hx _=>hx.1
theorem PV.later {a:List Int} (h:PV w X v a) (hb:Below w.heap.size w w'):PV w' X v a:=h.below hb (λ_ _ h=>h)
theorem PV.alloc {a:List Int} (h:PV w X v a) (o:Obj):PV (w.alloc o) X v a:=h.later ((Ac _ _).alloc (Af _) o)
theorem EJ (a b:Obj):Below w.heap.size w ((w.alloc a).alloc b):=((Ac _ _).alloc (Af _) _).alloc (by simp) _
theorem PV.tail {z:Int} {a:List Int} (hl:a.length+1<=9223372036854775807/\a.length+1<=c) (hx:X b) (h:∀i (h:i<(z::a).length),w.cell? ⟨b,o+i,none⟩=some (zA (z::a)[i])):
  PV w X (.slice (some ⟨b,o+1,none⟩) a.length (c-1)) a:=by
 refine⟨_,_,rfl,by omega,Ae ⟨b,o+1,rfl,hx,λi hi=>?_⟩⟩;have:=h (i+1) (by simpa using hi);rw[show o+1+i=o+(i+1) by omega];simpa using this
theorem TV.back {t:Tm} (h:TV w' X v t) (hb:Below B w w') (d:∀b,X b->b<B):TV w X v t:=by
 obtain⟨a,c,e,h⟩:=h;exact⟨a,c,e,h.back hb d⟩
theorem WB (a b c:Obj):Below w.heap.size w (((w.alloc a).alloc b).alloc c):=(EJ a b).alloc (by simp; omega) c
theorem PN (a b c d:Obj):Below w.heap.size w ((((w.alloc a).alloc b).alloc c).alloc d):=(WB a b c).alloc (by simp; omega) d
theorem Nx (hx:0<=x) (hn:0<n):∃k:Nat,x % (n:Int)=k/\k<n:=by
 have h1:=Int.emod_nonneg x (b:=(n:Int)) (by omega);have h2:=Int.emod_lt_of_pos x (b:=(n:Int)) (by omega);exact⟨(x % (n:Int)).toNat,by omega,by omega⟩
theorem GK (c:Int) (n:Nat) (b:0<n) (ab:n<=2000000) (hc:-9223372036854775808<=c/\c<=9223372036854775807) (w:World):
  Calls prog 19 #[zA c,zA n] w λe w'=>∃k:Nat,e=.returned (zA k)/\k<n/\w'=w:=by
 go_in;by_cases h:c<0
 ·go_wp2_with fail;go_ret;obtain⟨k,hk,a⟩:=Nx (x:=-(c+1)) (by omega) b;refine⟨k,?_,a,rfl⟩;have h1:-(c+1).tmod (n:Int)=k:=by rw[<-Int.neg_tmod,Int.tmod_eq_emod_of_nonneg (by omega)]; exact hk
  simp[h1]
 ·go_wp2_with fail;go_ret;obtain⟨k,hk,a⟩:=Nx (x:=c) (by omega) b;exact⟨k,by simp[hk],a,rfl⟩
theorem Ny (x:Int) (h:-9223372036854775808<=x/\x<=9223372036854775807):IntKind.i64.wrap x=x:=by
 rw[Ck]; omega
def EK (z:Int):Prop:=-9223372036854775808<=z/\z<=9223372036854775807
theorem LC (f:List Int) (u:Value) (w:World) (X:Nat->Prop) (hu:PV w X u f) (g:∀z∈f,EK z) (i:Nat) (hi:i<=1000000) (ae:f.length<=1000000):
  Calls prog 42 #[u,zA i] w λe w'=>∃k:Nat,e=.returned (zA k)/\k<=100000000000/\Below w.heap.size w w':=by
 obtain⟨a,c,rfl,hl,h⟩:=hu;by_cases h0:f.length=0
 ·go_in;go_wp2_with fail;go_ret;exact⟨i*31,by simp,by omega,Ac _ _⟩
 ·rcases h with h|⟨b,o,rfl,hX,hc⟩
  ·subst h; simp at h0
  ·have l:0<f.length:=(by omega);obtain⟨m,hm,j⟩:=Nx (x:=(i:Int)) (by omega) l;obtain⟨d,hd,af⟩:∃d:Nat,(i:Int) / (f.length:Int)=d/\d<=i:=⟨i / f.length,by simp,Nat.div_le_self _ _⟩;have ag:(i:Int).tmod (f.length:Int)=m:=by rw[Int.tmod_eq_emod_of_nonneg (by omega)]; exact hm
   have ah:(i:Int).tdiv (f.length:Int)=d:=by rw[Int.tdiv_eq_ediv_of_nonneg (by omega)]; exact hd
   have n:=hc m j;have q:=g _ (Bv j);generalize f[m]=z at *;have ai:(0:Int)<=(m:Int):=(by omega);have aj:(m:Int)<(f.length:Int):=(by omega);clear hc g;go_in;go_wp2_with fail;go_region_held3 (λw'=>w'.cell? ⟨b,o+m,none⟩=some (zA z)) (first|exact n|go_keep)
    ((go_at_call 19; refine(GK z 1000003 (by decide) (by decide) q _).mono ?_; rintro e w1 ⟨k,rfl,hk,rfl⟩))
   go_wp2_with fail;go_ret;refine⟨k+d*7919,by simp[Ny (d:Int) (by omega),Ny ((d:Int)*7919) (by omega),Ny ((k:Int)+(d:Int)*7919) (by omega)],by omega,?_⟩;exact(Ac _ _).drew
theorem WC (x:Int) (w:World):Calls prog 34 #[zA x] w λe w'=>e=.returned (.agg #[zA 1,zA x,zB])/\Below w.heap.size w w':=by
 go_in;go_wp2_with fail;refine Ao (v:=.agg #[zA 1,zA x,zB]) (by simp[results,results34,go_sem,AL,AE]) rfl ?_;exact⟨rfl,by first|exact Ac _ _|exact(Ac _ _).alloc (Af _) _⟩
theorem PO (f x:Lm) (n q:Value) (w:World) (X:Nat->Prop) (t:MV w X n f) (hx:MV w X q x):
  Calls prog 32 #[n,q] w λe w'=>∃a c,e=.returned (.agg #[zA 3,zA 0,.slice a 2 c])/\Ap w' (λb=>X b∨w.heap.size<=b) a [f,x]/\Below w.heap.size w w':=by
 obtain⟨d,i,rfl,r⟩:=t;obtain⟨g,j,rfl,s⟩:=hx;have u:=Aa r;have y:=Aa s;clear r s;have m:Hid (Below w.heap.size w ((((w.alloc (zm f d i)).alloc (zm x g j)).alloc (zp #[zA 3,zA 0,.slice (some (zD (w.heap.size+1+1+1) 0)) 2 2] 24)).alloc (zp #[zA f.kind,zA f.idx,.slice d f.subs.length i,zA x.kind,zA x.idx,.slice g x.subs.length j] 24))):=(((Dk _ _).alloc (by simp; omega) _).alloc (by simp; omega) _);have l:Ab ((((w.alloc (zm f d i)).alloc (zm x g j)).alloc (zp #[zA 3,zA 0,.slice (some (zD (w.heap.size+1+1+1) 0)) 2 2] 24)).alloc (zp #[zA f.kind,zA f.idx,.slice d f.subs.length i,zA x.kind,zA x.idx,.slice g x.subs.length j] 24)) (w.heap.size+1+1) #[zA 3,zA 0,.slice (some (zD (w.heap.size+1+1+1) 0)) 2 2] 24:=by
  have h:=(Ab.new ((w.alloc (zm f d i)).alloc (zm x g j)) #[zA 3,zA 0,.slice (some (zD (w.heap.size+1+1+1) 0)) 2 2] 24).alloc (zp #[zA f.kind,zA f.idx,.slice d f.subs.length i,zA x.kind,zA x.idx,.slice g x.subs.length j] 24);simpa using h
 have k:Hid (Ab ((((w.alloc (zm f d i)).alloc (zm x g j)).alloc (zp #[zA 3,zA 0,.slice (some (zD (w.heap.size+1+1+1) 0)) 2 2] 24)).alloc (zp #[zA f.kind,zA f.idx,.slice d f.subs.length i,zA x.kind,zA x.idx,.slice g x.subs.length j] 24)) (w.heap.size+1+1+1) #[zA f.kind,zA f.idx,.slice d f.subs.length i,zA x.kind,zA x.idx,.slice g x.subs.length j] 24):=Aa (by have h:=Ab.new (((w.alloc (zm f d i)).alloc (zm x g j)).alloc (zp #[zA 3,zA 0,.slice (some (zD (w.heap.size+1+1+1) 0)) 2 2] 24)) #[zA f.kind,zA f.idx,.slice d f.subs.length i,zA x.kind,zA x.idx,.slice g x.subs.length j] 24;simpa using h);have c0:=l.cell 0;have c1:=l.cell 1;have c2:=l.cell 2;simp only[BP,BQ,BU] at c0 c1 c2;clear l;go_in;go_wp2_with fail;refine Ao (v:=.agg #[zA 3,zA 0,.slice (some (zD (w.heap.size+1+1+1) 0)) 2 2]) (by simp[results,results32,go_sem,c0,c1,c2]) rfl ?_;refine⟨_,_,rfl,⟨by simp,Ae ⟨_,_,rfl,?_⟩⟩,m.o⟩;have h1:Ap ((((w.alloc (zm f d i)).alloc (zm x g j)).alloc (zp #[zA 3,zA 0,.slice (some (zD (w.heap.size+1+1+1) 0)) 2 2] 24)).alloc (zp #[zA f.kind,zA f.idx,.slice d f.subs.length i,zA x.kind,zA x.idx,.slice g x.subs.length j] 24)) (λb=>X b∨w.heap.size<=b) d f.subs:=(u.o.later m.o).mono λb h _=>Ad h;have h2:Ap ((((w.alloc (zm f d i)).alloc (zm x g j)).alloc (zp #[zA 3,zA 0,.slice (some (zD (w.heap.size+1+1+1) 0)) 2 2] 24)).alloc (zp #[zA f.kind,zA f.idx,.slice d f.subs.length i,zA x.kind,zA x.idx,.slice g x.subs.length j] 24)) (λb=>X b∨w.heap.size<=b) g x.subs:=(y.o.later m.o).mono λb h _=>Ad h;obtain⟨kf,xf,lf⟩:=f;obtain⟨kx,xx,lx⟩:=x;simp only[Dc];exact⟨Ae (by omega),k.o.cell 0,k.o.cell 1,⟨d,i,k.o.cell 2,h1⟩,Ae (by omega),k.o.cell 3,k.o.cell 4,⟨g,j,k.o.cell 5,h2⟩,trivial⟩
theorem WD (x:Lm) (j:Value) (w:World) (X:Nat->Prop) (hx:MV w X j x):
  Calls prog 35 #[j] w λe w'=>∃a c,e=.returned (.agg #[zA 2,zA 0,.slice a 1 c])/\Ap w' (λb=>X b∨w.heap.size<=b) a [x]/\Below w.heap.size w w':=by
 obtain⟨d,f,rfl,k⟩:=hx;have m:=Aa k;clear k;have l:Hid (Below w.heap.size w (((w.alloc (zm x d f)).alloc (zp #[zA 2,zA 0,.slice (some (zD (w.heap.size+1+1) 0)) 1 1] 24)).alloc (zm x d f))):=(Dk _ _).alloc (by simp; omega) _;have g:Ab (((w.alloc (zm x d f)).alloc (zp #[zA 2,zA 0,.slice (some (zD (w.heap.size+1+1) 0)) 1 1] 24)).alloc (zm x d f)) (w.heap.size+1) #[zA 2,zA 0,.slice (some (zD (w.heap.size+1+1) 0)) 1 1] 24:=by
  have h:=(Ab.new (w.alloc (zm x d f)) #[zA 2,zA 0,.slice (some (zD (w.heap.size+1+1) 0)) 1 1] 24).alloc (zm x d f);simpa using h
 have i:Hid (Ab (((w.alloc (zm x d f)).alloc (zp #[zA 2,zA 0,.slice (some (zD (w.heap.size+1+1) 0)) 1 1] 24)).alloc (zm x d f)) (w.heap.size+1+1) (zE x d f) 24):=Aa (by have h:=Ab.new ((w.alloc (zm x d f)).alloc (zp #[zA 2,zA 0,.slice (some (zD (w.heap.size+1+1) 0)) 1 1] 24)) (zE x d f) 24;simpa using h);have c0:=g.cell 0;have c1:=g.cell 1;have c2:=g.cell 2;simp only[BP,BQ,BU] at c0 c1 c2;clear g;go_in;go_wp2_with fail;refine Ao (v:=.agg #[zA 2,zA 0,.slice (some (zD (w.heap.size+1+1) 0)) 1 1]) (by simp[results,results35,go_sem,c0,c1,c2]) rfl ?_;refine⟨_,_,rfl,⟨by simp,Ae ⟨_,_,rfl,?_⟩⟩,l.o⟩;have h2:Ap (((w.alloc (zm x d f)).alloc (zp #[zA 2,zA 0,.slice (some (zD (w.heap.size+1+1) 0)) 1 1] 24)).alloc (zm x d f)) (λb=>X b∨w.heap.size<=b) d x.subs:=(m.o.later l.o).mono λb h _=>Ad h;obtain⟨kx,xx,lx⟩:=x;simp only[Dc];exact⟨Ae (by omega),i.o.cell 0,i.o.cell 1,⟨d,f,i.o.cell 2,h2⟩,trivial⟩
def Fs (m:Nat):Nat:=if m<3 then 1 else 2*m-1
theorem WE (m:Nat):1<=Fs m:=by unfold Fs; split<;>omega
theorem WF (h:3<=m):2*Fs (m / 2)+1<=Fs m:=by unfold Fs; split<;>split<;>omega
theorem WG (h:1<=m):Fs m+1<=2*m:=by unfold Fs; split<;>omega
def PP (i m:Nat) (w:World) (e:Ending) (w':World):Prop:=
 ∃(y:Ty) (k:Nat) (a:Option Addr) (c:Nat),e=.returned (.tuple #[.agg (zH y a c),zA k])/\i<=k/\k<=i+Fs m/\AC w' (λb=>w.heap.size<=b) a y.subs/\Below w.heap.size w w'/\AP [y]=0/\AB [y]<=Fs m
theorem PQ {wz:World} {R:Nat} {y:Ty} (d:w.heap.size<=R) (h1:i<=k) (h2:k<=i+Fs m) (hb:Below w.heap.size w wz) (f:AC wz (λb=>w.heap.size<=b/\b≠R) a y.subs) (v0 v1:Value) {e:Int} (hk:e=(k:Int)) (hq:AP [y]=0/\AB [y]<=Fs m):
  PP i m w (.returned (.tuple #[.agg (zH y a c),zA e])) ((wz.setCell (zD R 0) v0).setCell (zD R 1) v1):=by
 subst hk;refine⟨y,k,a,c,rfl,h1,h2,(f.kept λq hq=>?_).mono λb h _=>h.1,(hb.setCell (p:=(zD R 0)) (by simpa using d) _).setCell (p:=(zD R 1)) (by simpa using d) _,hq⟩;rw[Ak _ _ _ _ (by simpa using hq.2),Ak _ _ _ _ (by simpa using hq.2)]
theorem WH {q:Nat} (h:q<3):AP [⟨(q:Int),[]⟩]=0:=by
 rw[ID (by simp[CQ]; omega)];simp[AP]
theorem PR {a b:Ty} (c:AP [a]=0) (hb:AP [b]=0):AP [⟨0,[a,b]⟩]=0:=by
 rw[ID (by simp[CQ]),Lx,Aq c];exact hb
theorem Nz (x:Int) (a b:Ty):AB [⟨x,[a,b]⟩]=1+(AB [a]+AB [b]):=by
 have h:=Nu [a] [b];simp only[Dj,Gy] at h;rw[<-h];simp[AB]
theorem PS {c2:Nat} {a2:Option Addr} {f x:Ty} (b:Ab w g #[zA f.base,.slice a f.subs.length c,zA x.base,.slice a2 x.subs.length c2] T) (d:Y g) (h1:AC w Y a f.subs) (h2:AC w Y a2 x.subs):AC w Y (some (zD g 0)) [f,x]:=by
 obtain⟨s,l⟩:=f;obtain⟨s2,l2⟩:=x;refine⟨by simp,Ae ⟨g,0,rfl,?_⟩⟩;simp only[DH];exact⟨d,b.cell 0,⟨a,c,b.cell 1,h1⟩,d,b.cell 2,⟨a2,c2,b.cell 3,h2⟩,trivial⟩
theorem PU (j:List Int) (u:Value) (N:∀z∈j,EK z) (ax:j.length<=1000000) (n:Nat):∀(m i:Nat),m<n->i+2*m<=900000->∀(w:World) (X:Nat->Prop),PV w X u j->
  Calls prog 18 #[u,zA i,zA m] w λe w'=>PP i m w e w':=by
 induction n with
 |zero=>intro m i h1; omega
 |succ n O=>
  intro m i hm h2 w X hu;have P:=Aa O;have D:Hid (PV w (λb=>X b/\b<w.heap.size) u j):=hu.mono λb h h'=>⟨h,h'⟩;have R:Hid (Ab (w.alloc zj) w.heap.size #[zA 0,zB] 27):=Ab.new _ _ _;have E:Hid (Below w.heap.size w (w.alloc zj)):=(Ac _ _).alloc (Af _) _;have ag:=Aa N;obtain⟨T,U,rfl⟩:∃T U,u=.slice T j.length U:=by
   obtain⟨a,c,h,_⟩:=hu;exact⟨a,c,h⟩
  clear O hu N;go_in;go_wp2_with fail;refine(LC j _ _ _ (D.o.later E.o) ag.o i (by omega) ax).mono ?_;rintro e w1 ⟨V,rfl,aD,r⟩;have W:=r.size;have s:=Aa (E.o.trans (r.mono (by simp)));have x:=Aa (R.o.below r (by simp));have aE:w.heap.size+1<=w1.heap.size:=by simp at W; omega
  clear r W E R;have Y:((i+1:Nat):Int)=(i:Int)+1:=by omega
  have Z:=Aa Y;clear Y;have aF:=WE m;go_upto_region 3 with fail;go_cut [23] (λo wd=>∃b:Bool,o=.bool b/\(b=false->3<=m)/\wd=w1);case first=>
   by_cases h4:(m:Int)<3
   ·have g1:decide ((m:Int)<3)=true:=J4 h4;go_wp2_with fail;go_meet;exact⟨true,rfl,by simp,rfl⟩
   ·have g1:decide ((m:Int)<3)=false:=G1 h4;go_wp2_with fail;refine(GK (V:Int) 3 (by omega) (by omega) (by omega) _).mono ?_;rintro e w2 ⟨q,rfl,hq,rfl⟩;go_wp2_with fail;go_meet;exact⟨_,rfl,λ_=>by omega,rfl⟩
  obtain⟨b1,rfl,g,rfl⟩:=hcut;have r0:=x.o.c0;have r1:=x.o.c1;have rf:=x.o.frozen;cases b1 with
  |true=>clear g;go_wp2_with fail;refine(GK ((V:Int) / 3) 3 (by omega) (by omega) (by omega) _).mono ?_;rintro e aG ⟨q,rfl,hq,rfl⟩;go_wp2_with fail;refine Ao (v:=.tuple #[.agg #[zA q,zB],zA ((i:Int)+1)]) (by simp[results,results18,go_sem,AL,AE,r0,r1]) rfl ?_;exact PQ (y:=⟨(q:Int),[]⟩) (k:=i+1) (Af _) (by omega) (by omega) s.o ⟨by simp,Ad rfl⟩ _ _ Z.o.symm ⟨WH hq,by simp[AB]; omega⟩
  |false=>
   have ay:=g rfl;clear g;have F:=P.o (m / 2) (i+1) (by omega) (by omega) wc _ (D.o.later s.o);have e1:((m / 2:Nat):Int)=(m:Int) / 2:=(by omega);rw[e1,Z.o]at F;have HI:=Aa F;have az:=Aa e1;have HT:=Aa (WF ay);have a1:=Aa (WG (m:=m / 2) (by omega));clear F e1;go_wp2_with fail;refine HI.o.mono ?_;rintro e w3 ⟨t,k,a,c,rfl,aH,aI,aq,g,ab⟩;have ar:=Aa ab;clear ab;have H:Hid (Below w3.heap.size w3 (w3.alloc (zn t a c))):=(Ac _ _).alloc (Af _) _;have a6:=g.size;have A:=Aa (g.trans (H.o.mono a6));have a7:=Aa (aq.later H.o);have KA:Hid (Ab (w3.alloc (zn t a c)) w3.heap.size (zH t a c) 27):=Ab.new _ _ _;have I:=P.o (m / 2) k (by omega) (by have:=a1.o; omega) (w3.alloc (zn t a c)) _ ((D.o.later s.o).later A.o);rw[az.o]at I;have HJ:=Aa I;have au:Hid ((w3.alloc (zn t a c)).heap.size=w3.heap.size+1):=Aa (by simp);clear g aq I H;go_wp2_with fail;generalize (w3.alloc (zn t a c))=wA at *;refine HJ.o.mono ?_;rintro e f ⟨t5,k5,a5,c5,rfl,aJ,aK,av,J,ad⟩;have aw:=Aa ad;clear ad;have a8:=J.size;have aA:=au.o;have BC:Hid (Below f.heap.size f (f.alloc (zn t5 a5 c5))):=(Ac _ _).alloc (Af _) _;have L:=Aa (J.trans (BC.o.mono a8));have KB:=Aa (KA.o.below L.o (by omega));have KC:Hid (Ab (f.alloc (zn t5 a5 c5)) f.heap.size (zH t5 a5 c5) 27):=Ab.new _ _ _;have ST:Hid (AC (f.alloc (zn t5 a5 c5)) (λb=>wc.heap.size<=b) a t.subs):=a7.o.later L.o;have aB:Hid (AC (f.alloc (zn t5 a5 c5)) (λb=>wc.heap.size<=b) a5 t5.subs):=(av.later BC.o).mono λb h _=>by have:=A.o.size; omega
   have B:=Aa (A.o.trans (L.o.mono A.o.size));clear J av aA;go_upto_region 7 with fail;have gP:Hid (w3.heap.size≠f.heap.size):=Aa (by have:=au.o;omega);generalize f.heap.size=P5 at *;generalize (f.alloc (zn t5 a5 c5))=d at *;have q0:=KB.o.cell 0;have q1:=KB.o.cell 1;have p0:=KC.o.cell 0;have p1:=KC.o.cell 1;have l:=Aa (x.o.below B.o (by omega));have s0:=l.o.c0;have s1:=l.o.c1;have sf:=l.o.frozen;simp only[BP,BQ,BU] at q0 q1 p0 p1;have C:Hid (Below d.heap.size d (d.alloc (zp #[zA t.base,.slice a t.subs.length c,zA t5.base,.slice a5 t5.subs.length c5] 27))):=(Ac _ _).alloc (Af _) _;have C7:Hid (Ab (d.alloc (zp #[zA t.base,.slice a t.subs.length c,zA t5.base,.slice a5 t5.subs.length c5] 27)) d.heap.size #[zA t.base,.slice a t.subs.length c,zA t5.base,.slice a5 t5.subs.length c5] 27):=Ab.new _ _ _;have E7:=Aa (s.o.trans ((B.o.trans (C.o.mono B.o.size)).mono (by omega)));have M:=Aa (l.o.below C.o l.o.lt);have aC:=Aa (ST.o.later C.o);have ai:=Aa (aB.o.later C.o);have z0:(d.alloc (zp #[zA t.base,.slice a t.subs.length c,zA t5.base,.slice a5 t5.subs.length c5] 27)).cell? (zD w.heap.size 0)=some (zA 0):=M.o.cell 0;have z1:(d.alloc (zp #[zA t.base,.slice a t.subs.length c,zA t5.base,.slice a5 t5.subs.length c5] 27)).cell? (zD w.heap.size 1)=some (zB):=M.o.cell 1;have zf:=M.o.frozen;have gG:Hid (w.heap.size<d.heap.size/\wc.heap.size<=d.heap.size):=⟨l.o.lt,B.o.size⟩;clear r0 r1 rf;go_wp2_with fail;generalize d.heap.size=G at *;generalize (d.alloc (zp #[zA t.base,.slice a t.subs.length c,zA t5.base,.slice a5 t5.subs.length c5] 27))=w7 at *;refine Ao (v:=.tuple #[.agg #[zA 0,.slice (some (zD G 0)) 2 2],zA k5]) (by simp[results,results18,go_sem,AL,AE,z0,z1]) rfl ?_;exact PQ (y:=⟨0,[t,t5]⟩) (k:=k5) (Af _) (by omega) (by have:=HT.o; omega) E7.o (PS C7.o (by have h1:=gG.o; omega) (aC.o.mono λb hb _=>by omega) (ai.o.mono λb hb _=>by omega)) _ _ rfl ⟨PR ar.o.1 aw.o.1,by have h1:=ar.o.2; have h2:=aw.o.2; have h3:=HT.o; rw[Nz]; omega⟩
theorem PW {b c e g:Addr} (hb:Below (w.drewN n).heap.size (w.drewN n) w1)
  (h:w.cell? b=some v1/\w.cell? c=some v2/\w.cell? d=some v3/\w.cell? e=some v4/\w.cell? f=some v5/\w.cell? g=some v6):
  w1.cell? b=some v1/\w1.cell? c=some v2/\w1.cell? d=some v3/\w1.cell? e=some v4/\w1.cell? f=some v5/\w1.cell? g=some v6:=by
 have a:Below w.heap.size w w1:=(below_drewN (Ac _ _) n).trans (hb.mono (by simp));exact⟨cell_later a h.1,cell_later a h.2.1,cell_later a h.2.2.1,cell_later a h.2.2.2.1,cell_later a h.2.2.2.2.1,cell_later a h.2.2.2.2.2⟩
def Dy:List Ty->List Ty->Bool
 | [],[]=>true
 | ⟨s,a⟩::r,t::ts=>((s==t.base)&&((a.length==t.subs.length)&&Dy a t.subs))&&Dy r ts
 |_,_=>false
def CY (a b:Ty):Bool:=(a.base==b.base)&&((a.subs.length==b.subs.length)&&Dy a.subs b.subs)
theorem Kj (x t:Ty) (r b:List Ty):Dy (x::r) (t::b)=(CY x t&&Dy r b):=by obtain⟨s,a⟩:=x; simp only[Dy,CY]
theorem NA:∀(a b c d:List Ty),a.length=b.length->Dy (a++c) (b++d)=(Dy a b&&Dy c d)
 | [],[],c,d,_=>by simp[Dy]
 | [],_::_,_,_,h=>by simp at h
 |_::_,[],_,_,h=>by simp at h
 |x::r,t::e,c,d,h=>by rw[Dj,Dj,Kj,Kj,NA r e c d (by simpa using h),Bool.and_assoc]
theorem NB {l m:List Ty} (h:k<l.length) (h2:k<m.length):Dy (l.take (k+1)) (m.take (k+1))=(Dy (l.take k) (m.take k)&&CY l[k] m[k]):=by
 rw[CI h,CI h2,NA _ _ _ _ (by simp; omega),Kj];simp[Dy]
theorem PZ {l m:List Ty} (h:k<l.length) (aa:l.length=m.length) (h0:CY l[k] (m[k]'(by omega))=false):Dy l m=false:=by
 have e1:l=l.take (k+1)++l.drop (k+1):=(FH _ _).symm;have e2:m=m.take (k+1)++m.drop (k+1):=(FH _ _).symm;rw[e1,e2,NA _ _ _ _ (by simp; omega),NB h (by omega),h0];simp
def WI (w:World) (l m:List Ty) (a a2:Option Addr) (c c2:Nat) (i:Value) (wr:World):Prop:=
 ∃(k:Nat),k<=l.length/\i=zA k/\Dy (l.take k) (m.take k)=true/\Below w.heap.size w wr/\wr.cell? (zD w.heap.size 1)=some (.slice a l.length c)/\wr.cell? (zD (w.heap.size+1) 1)=some (.slice a2 l.length c2)/\w.heap.size+2<=wr.heap.size
theorem NC (t:Ty):∀(x:Ty) (v u:Value) (w:World) (X Y:Nat->Prop),YV w X v t->YV w Y u x->
  Calls prog 43 #[v,u] w λe w'=>e=.returned (.bool (CY t x))/\Below w.heap.size w w':=by
 induction t using Ty.ind with
 |h s l L=>
  intro x v u w X Y V hu;obtain⟨s2,m⟩:=x;have W:=Aa L;clear L;obtain⟨a,c,rfl,M⟩:=V;obtain⟨a2,c2,rfl,N⟩:=hu;have hl:=M.1;have ar:=N.1;(try dsimp only[zG]);(try dsimp only[zH]);(try dsimp only[zE]);(try dsimp only);by_cases E:s=s2;case neg=>
   have r:(s==s2)=false:=Dx.2 E;have au:(s !=s2)=true:=(by simpa using E);have d:Hid (false=CY ⟨s,l⟩ ⟨s2,m⟩):=Aa (by unfold CY;rw[r];rfl);go_in;go_wp2_with fail;go_ret;exact⟨El d.o,EJ _ _⟩
  case pos=>
   subst E;have r:(s==s)=true:=(by simp);by_cases hm:l.length=m.length
   ·have d:Hid (Dy l m=CY ⟨s,l⟩ ⟨s,m⟩):=Aa (by unfold CY;simp[r,hm]);have A:=Aa hm;rw[<-hm];clear hm;go_in;go_wp2_with fail;go_loopw [5] (λi wr=>WI w l m a a2 c c2 i wr) (λi wr=>l.length-(intOf i).toNat);case atStart=>exact⟨0,Bp _,rfl,by simp[Dy],EJ _ _,by simp,by simp,by simp⟩
    case round=>
     obtain⟨k,hk,rfl,hq,hb,Z,ao,av⟩:=hrel;have O:=Aa hq;clear hq;by_cases B:k<l.length
     ·obtain⟨b,o,F,c',rfl,d0,d1,hx⟩:=M.get hb (λ_ _ h=>h) k B;obtain⟨f,g,G,H,rfl,e0,e1,P⟩:=N.get hb (λ_ _ h=>h) k (by have:=A.o; omega);have ah:k<m.length:=by have:=A.o; omega
      have R:=Aa hx;have T:=Aa P;have U:=Aa hb;have C:=Aa (And.intro Z (And.intro ao (And.intro d0 (And.intro d1 (And.intro e0 e1)))));have D:=Aa (λ(w':World)=>W.o l[k] (Bv B) m[k] (.agg (zH l[k] F c')) (.agg (zH m[k] G H)) w' X Y);have HT:=Aa (NB B ah);have aq:=Aa (PZ B A.o);clear hx P hb;generalize l[k]=y at *;generalize m[k]=z at *;go_wp2_with fail;cases I:CY y z with
      |true=>
       rw[I]at D HT;go_region_held3 (λw'=>w'.cell? (zD w.heap.size 1)=some (.slice (some (zD b o)) l.length c)/\w'.cell? (zD (w.heap.size+1) 1)=some (.slice (some (zD f g)) l.length c2)/\w'.cell? ⟨b,o+k*2,none⟩=some (zA y.base)/\w'.cell? ⟨b,o+k*2+1,none⟩=some (.slice F y.subs.length c')/\w'.cell? ⟨f,g+k*2,none⟩=some (zA z.base)/\w'.cell? ⟨f,g+k*2+1,none⟩=some (.slice G z.subs.length H)) (first|exact C.o|exact q|go_keep)
        ((go_at_call 43; refine(D.o _ (by exact R.o.later (below_drewN (Ac _ _) 1)) (by exact T.o.later (below_drewN (Ac _ _) 1))).mono ?_; rintro e w1 ⟨rfl,j⟩; have q:=PW (n:=1) j C.o))
       go_wp2_with fail;go_roundw
       case rel=>exact⟨k+1,by omega,by go_num,by rw[HT.o,O.o]; rfl,(U.o.trans (below_drewN (Ac _ _) 1)).trans (j.mono (by simp; omega)),q.1,q.2.1,by have:=j.size; simp at this; omega⟩
       case measure=>simp[intOf]; omega
      |false=>
       have J:Hid (false=CY ⟨s,l⟩ ⟨s,m⟩):=Aa (by rw[<-d.o,aq.o I]);rw[I]at D;go_region_held3 (λw'=>w'.cell? (zD w.heap.size 1)=some (.slice (some (zD b o)) l.length c)/\w'.cell? (zD (w.heap.size+1) 1)=some (.slice (some (zD f g)) l.length c2)/\w'.cell? ⟨b,o+k*2,none⟩=some (zA y.base)/\w'.cell? ⟨b,o+k*2+1,none⟩=some (.slice F y.subs.length c')/\w'.cell? ⟨f,g+k*2,none⟩=some (zA z.base)/\w'.cell? ⟨f,g+k*2+1,none⟩=some (.slice G z.subs.length H)) (first|exact C.o|exact q|go_keep)
        ((go_at_call 43; refine(D.o _ (by exact R.o.later (below_drewN (Ac _ _) 1)) (by exact T.o.later (below_drewN (Ac _ _) 1))).mono ?_; rintro e w1 ⟨rfl,j⟩; have q:=PW (n:=1) j C.o))
       go_wp2_with fail;go_ret;exact⟨El J.o,(U.o.trans (below_drewN (Ac _ _) 1)).trans (j.mono (by simp; omega))⟩
     ·have J:Hid (true=CY ⟨s,l⟩ ⟨s,m⟩):=Aa (by rw[<-d.o,<-O.o,Bz (by omega),Bz (by have:=A.o; omega)]);go_wp2_with fail;go_ret;exact⟨El J.o,hb⟩
   ·have d:Hid (false=CY ⟨s,l⟩ ⟨s,m⟩):=Aa (by unfold CY;simp[r,hm]);have aw:((l.length:Int)==(m.length:Int))=false:=Dx.2 (by omega);clear hm;go_in;go_wp2_with fail;go_ret;exact⟨El d.o,EJ _ _⟩
theorem WJ (l:List Ty):∀m,Dy l m=true↔l=m:=by
 induction l using Ty.indL with
 |h0=>
  intro m;cases m with
  |nil=>simp[Dy]
  |cons t r=>simp[Dy]
 |h x l r a b=>
  intro m;cases m with
  |nil=>simp[Dy]
  |cons t q=>
   obtain⟨y,k⟩:=t;rw[Kj];unfold CY;simp only[Bool.and_eq_true,beq_iff_eq,a,b];constructor
   ·rintro⟨⟨rfl,_,rfl⟩,rfl⟩; rfl
   ·intro h;injection h with h1 h2
    injection h1 with h3 c
    subst h2; subst h3; subst c;exact⟨⟨rfl,rfl,rfl⟩,rfl⟩
theorem WK {a b:Ty}:CY a b=true↔a=b:=by
 have h:=WJ [a] [b];rw[Kj]at h;simpa [Dy] using h
theorem Qe (b:Int) (a:Option Addr) (n c:Nat) (w:World):
  Calls prog 69 #[.agg #[zA b,.slice a n c]] w λe w'=>e=.returned (.slice a n c)/\Below w.heap.size w w':=
 (Pu b a n c w).mono λe w' h=>⟨h.1,by rw[h.2]; exact(Ac _ _).alloc (Af _) _⟩
theorem Qf (x y:Int) (a b:Option Addr) (n c m d:Nat) (w:World):
  Calls prog 92 #[.agg #[zA x,.slice a n c],.agg #[zA y,.slice b m d]] w λe w'=>e=.returned (.bool (x==y))/\Below w.heap.size w w':=by
 go_in;go_wp2_with fail;go_ret;exact⟨rfl,EJ _ _⟩
def WL (w w5:World) (l m:List Ty) (i:Value) (wr:World):Prop:=
 ∃(k:Nat),k<=l.length/\i=zA k/\Dy (l.take k) (m.take k)=true/\Below w.heap.size w wr
theorem WM (t:Ty):∀(x:Ty) (v u:Value) (w:World) (X Y:Nat->Prop),YV w X v t->YV w Y u x->
  Calls prog 91 #[v,u,.func (.func 69) #[] #[],.func (.func 92) #[] #[]] w λe w'=>e=.returned (.bool (CY t x))/\Below w.heap.size w w':=by
 induction t using Ty.ind with
 |h s l T=>
  intro x v u w X Y hv hu;obtain⟨s2,m⟩:=x;have IH:=Aa T;clear T;obtain⟨a,c,rfl,U⟩:=hv;obtain⟨a2,c2,rfl,V⟩:=hu;have hl:=U.1;have ax:=V.1;(try dsimp only[zG]);(try dsimp only[zH]);(try dsimp only[zE]);(try dsimp only);have H:Hid (Ab ((w.alloc (zp #[zA s,.slice a l.length c] 27)).alloc (zp #[zA s2,.slice a2 m.length c2] 27)) w.heap.size #[zA s,.slice a l.length c] 27):=(Ab.new _ _ _).alloc _;have I:Hid (Ab ((w.alloc (zp #[zA s,.slice a l.length c] 27)).alloc (zp #[zA s2,.slice a2 m.length c2] 27)) (w.heap.size+1) #[zA s2,.slice a2 m.length c2] 27):=by
   have h:=Ab.new (w.alloc (zp #[zA s,.slice a l.length c] 27)) #[zA s2,.slice a2 m.length c2] 27;rw[Ca]at h;exact h
  have J:Hid (Below w.heap.size w ((w.alloc (zp #[zA s,.slice a l.length c] 27)).alloc (zp #[zA s2,.slice a2 m.length c2] 27))):=EJ _ _;go_in;go_upto_region 1 with fail;generalize (w.alloc (zp #[zA s,.slice a l.length c] 27)).alloc (zp #[zA s2,.slice a2 m.length c2] 27)=d at *;have q:Hid (∀w',Below d.heap.size d w'->w'.cell? (zD w.heap.size 0)=some (zA s)/\w'.cell? (zD w.heap.size 1)=some (.slice a l.length c)/\w'.cell? (zD (w.heap.size+1) 0)=some (zA s2)/\w'.cell? (zD (w.heap.size+1) 1)=some (.slice a2 m.length c2)):=λw' hb=>by
   have h1:=H.o.below hb H.o.lt;have h2:=I.o.below hb I.o.lt;exact⟨h1.cell 0,h1.cell 1,h2.cell 0,h2.cell 1⟩
  have W:=Aa (q.o d (Ac _ _));go_region_held3 (λw'=>w'.cell? (zD w.heap.size 0)=some (zA s)/\w'.cell? (zD w.heap.size 1)=some (.slice a l.length c)/\w'.cell? (zD (w.heap.size+1) 0)=some (zA s2)/\w'.cell? (zD (w.heap.size+1) 1)=some (.slice a2 m.length c2)) (first|exact W.o|exact z5|exact z4|go_keep)
   (first
    | (go_at_call 69; refine(Qe _ _ _ _ _).mono ?_; rintro e w4 ⟨rfl,g⟩; have r:Below d.heap.size d w4:=(by first|exact((Ac d.heap.size d).drew).trans g|exact(((Ac d.heap.size d).drew).drew).trans g|exact(below_drewN (Ac d.heap.size d) 2).trans g|exact(below_drewN (Ac d.heap.size d) 1).trans (g.mono (by simp))); have z4:=q.o _ r; clear g)
    | (go_at_call 69; refine(Qe _ _ _ _ _).mono ?_; rintro e w5 ⟨rfl,Z⟩; have L:=r.trans (Z.mono r.size); have z5:=q.o _ L; clear Z))
  have j:=Aa (J.o.trans (L.mono J.o.size));clear z4 W q H I J r;obtain⟨al,z51,an,z53⟩:=z5;by_cases hm:l.length=m.length
  ·have A:=Aa hm;rw[<-hm]at z53;rw[<-hm];by_cases B:s=s2;case neg=>
    have n:(s==s2)=false:=Dx.2 B;clear B;have f:Hid (false=CY ⟨s,l⟩ ⟨s2,m⟩):=Aa (by unfold CY;rw[n];rfl);clear hm;go_wp2_with fail;refine(Qf s s2 _ _ _ _ _ _ _).mono ?_;rintro e w6 ⟨rfl,C⟩;rw[n];go_wp2_with fail;go_ret;exact⟨El f.o,j.o.trans (C.mono j.o.size)⟩
   case pos=>
    have n:(s==s2)=true:=(by simp[B]);clear B;have f:Hid (Dy l m=CY ⟨s,l⟩ ⟨s2,m⟩):=Aa (by unfold CY;simp[n,hm]);clear hm;go_wp2_with fail;refine(Qf s s2 _ _ _ _ _ _ _).mono ?_;rintro e w6 ⟨rfl,C⟩;rw[n];have B6:=Aa (j.o.trans (C.mono j.o.size));clear C L al z51 an z53;go_wp2_with fail;go_loopw [32] (λi wr=>WL w w5 l m i wr) (λi wr=>l.length-(intOf i).toNat);case atStart=>exact⟨0,Bp _,rfl,by simp[Dy],B6.o⟩
    case round=>
     obtain⟨k,hk,rfl,hq,hb⟩:=hrel;have HQ:=Aa hq;clear hq;by_cases D:k<l.length
     ·obtain⟨b,o,M,c',rfl,d0,d1,hx⟩:=U.get hb (λ_ _ h=>h) k D;obtain⟨E,F,N,O,rfl,e0,e1,aj⟩:=V.get hb (λ_ _ h=>h) k (by have:=A.o; omega);have af:k<m.length:=by have:=A.o; omega
      have HX:=Aa hx;have ao:=Aa aj;have G:=Aa hb;have aq:=Aa (λ(w':World)=>IH.o l[k] (Bv D) m[k] (.agg (zH l[k] M c')) (.agg (zH m[k] N O)) w' X Y);have HT:=Aa (NB D af);have ar:=Aa (PZ D A.o);have KQ:Hid (∀w',Below wr.heap.size wr w'->w'.cell? ⟨b,o+k*2,none⟩=some (zA l[k].base)/\w'.cell? ⟨b,o+k*2+1,none⟩=some (.slice M l[k].subs.length c')/\w'.cell? ⟨E,F+k*2,none⟩=some (zA m[k].base)/\w'.cell? ⟨E,F+k*2+1,none⟩=some (.slice N m[k].subs.length O)):=λw' hb=>⟨cell_later hb d0,cell_later hb d1,cell_later hb e0,cell_later hb e1⟩;have au:=Aa (KQ.o wr (Ac _ _));clear hx aj hb d0 d1 e0 e1;generalize l[k]=y at *;generalize m[k]=z at *;go_wp2_with fail;go_region_held3 (λw'=>w'.cell? ⟨b,o+k*2,none⟩=some (zA y.base)/\w'.cell? ⟨b,o+k*2+1,none⟩=some (.slice M y.subs.length c')/\w'.cell? ⟨E,F+k*2,none⟩=some (zA z.base)/\w'.cell? ⟨E,F+k*2+1,none⟩=some (.slice N z.subs.length O)) (first|exact au.o|exact av|go_keep)
       ((go_at_call 91; refine(aq.o _ (by exact HX.o.later (below_drewN (Ac _ _) 1)) (by exact ao.o.later (below_drewN (Ac _ _) 1))).mono ?_; rintro e w1 ⟨rfl,aw⟩; have P:Below wr.heap.size wr w1:=(below_drewN (Ac _ _) 1).trans (aw.mono (by simp)); have av:=KQ.o _ P))
      cases ak:CY y z with
      |true=>
       rw[ak]at HT;go_wp2_with fail;go_roundw
       case rel=>exact⟨k+1,by omega,by go_num,by rw[HT.o,HQ.o]; rfl,G.o.trans (P.mono G.o.size)⟩
       case measure=>simp[intOf]; omega
      |false=>have R:Hid (false=CY ⟨s,l⟩ ⟨s2,m⟩):=Aa (by rw[<-f.o,ar.o ak]);go_wp2_with fail;go_ret;exact⟨El R.o,G.o.trans (P.mono G.o.size)⟩
     ·have R:Hid (true=CY ⟨s,l⟩ ⟨s2,m⟩):=Aa (by rw[<-f.o,<-HQ.o,Bz (by omega),Bz (by have:=A.o; omega)]);go_wp2_with fail;go_ret;exact⟨El R.o,hb⟩
  ·have f:Hid (false=CY ⟨s,l⟩ ⟨s2,m⟩):=Aa (by unfold CY;simp[hm]);have ay:((l.length:Int)==(m.length:Int))=false:=Dx.2 (by omega);have az:((l.length:Int) !=(m.length:Int))=true:=by simp; omega
   clear hm;go_wp2_with fail;go_ret;exact⟨El f.o,j.o⟩
theorem WN (t x:Ty) (v u:Value) (w:World) (X Y:Nat->Prop) (b:YV w X v t) (hu:YV w Y u x):
  Calls prog 75 #[v,u] w λe w'=>e=.returned (.bool (CY t x))/\Below w.heap.size w w':=by
 have d:=Aa b;have f:=Aa hu;obtain⟨a,c,rfl,-⟩:=b;obtain⟨a2,c2,rfl,-⟩:=hu;go_in;go_wp2_with fail;refine(WM t x _ _ _ X Y (d.o.later (EJ _ _)) (f.o.later (EJ _ _))).mono ?_;rintro e w1 ⟨rfl,g⟩;go_wp2_with fail;go_ret;exact⟨rfl,(EJ _ _).trans (g.mono (by simp; omega))⟩
structure Bd where
 nm:ByteArray
 t:Tm
def BV (w:World) (X:Nat->Prop) (v:Value) (l:List Bd):Prop:=
 ∃a c,v=.slice a l.length c/\(l.length<=9223372036854775807/\l.length<=c)/\(l=[]∨∃b o,a=some (zD b o)/\X b/\∀i (h:i<l.length),w.cell? ⟨b,o+i*3,none⟩=some (.string l[i].nm)/\w.cell? ⟨b,o+i*3+1,none⟩=some (.string l[i].t.name)/\∃a' c',w.cell? ⟨b,o+i*3+2,none⟩=some (.slice a' l[i].t.args.length c')/\Sl w X a' l[i].t.args)
theorem BV.kept {l:List Bd} (h:BV w X v l) (hk:∀b,X b->w'.heap[b]? = w.heap[b]?):BV w' X v l:=by
 obtain⟨a,c,e,f,h⟩:=h;refine⟨a,c,e,f,?_⟩;rcases h with h|⟨b,o,g,d,h⟩
 ·exact Ad h
 ·refine Ae ⟨b,o,g,d,λi hi=>?_⟩;obtain⟨h1,h2,j,c',h3,k⟩:=h i hi;have hb:=hk b d;exact⟨by simpa [World.cell?,hb] using h1,by simpa [World.cell?,hb] using h2,j,c',by simpa [World.cell?,hb] using h3,k.kept hk⟩
theorem Es (h:w.cell? (zD b o)=some v):b<w.heap.size:=by
 rcases Nat.lt_or_ge b w.heap.size with h'|h'
 ·exact h'
 ·simp[World.cell?,Iz h']at h
theorem BV.mono {l:List Bd} (h:BV w X v l) (hk:∀b,X b->b<w.heap.size->Y b):BV w Y v l:=by
 obtain⟨a,c,e,d,h⟩:=h;refine⟨a,c,e,d,?_⟩;rcases h with h|⟨b,o,f,g,h⟩
 ·exact Ad h
 ·by_cases h0:l=[]
  ·exact Ad h0
  ·have hp:0<l.length:=GY.2 h0;refine Ae ⟨b,o,f,hk b g (Es (h 0 hp).1),λi hi=>?_⟩;obtain⟨h1,h2,j,c',h3,k⟩:=h i hi;exact⟨h1,h2,j,c',h3,k.mono hk⟩
theorem BV.later {l:List Bd} (h:BV w X v l) (hb:Below w.heap.size w w'):BV w' X v l:=
 ((h.mono (Y:=λb=>X b/\b<w.heap.size) λb h1 h2=>⟨h1,h2⟩).kept λb hx=>hb.block b hx.2).mono λb hx _=>hx.1
theorem BV.alloc {l:List Bd} (h:BV w X v l) (o:Obj):BV (w.alloc o) X v l:=h.later ((Ac _ _).alloc (Af _) o)
theorem BV.get {l:List Bd} (h:BV w X (.slice a n c) l) (i:Nat) (hi:i<l.length):
  ∃b o d c',a=some (zD b o)/\w.cell? ⟨b,o+i*3,none⟩=some (.string l[i].nm)/\w.cell? ⟨b,o+i*3+1,none⟩=some (.string l[i].t.name)/\w.cell? ⟨b,o+i*3+2,none⟩=some (.slice d l[i].t.args.length c')/\Sl w X d l[i].t.args:=by
 obtain⟨a2,c2,e,hl,h⟩:=h;simp at e;obtain⟨rfl,rfl,rfl⟩:=e;rcases h with h|⟨b,o,f,hX,h⟩
 ·subst h; simp at hi
 ·obtain⟨h1,h2,d,c',h3,g⟩:=h i hi;exact⟨b,o,d,c',f,h1,h2,h3,g⟩
theorem Gg {a b:ByteArray} (h:a.toList=b.toList):a=b:=by
 rw[GW,GW]at h;cases a with
 |mk x=>
  cases b with
  |mk y=>congr 1; exact Array.toList_inj.1 h
theorem IE {a b:ByteArray} (h:a=b):(a.toList==b.toList)=true:=by rw[h]; simp
theorem Kk {a b:ByteArray} (h:a≠b):(a.toList==b.toList)=false:=Dx.2 λe=>h (Gg e)
def AF:List Bd->ByteArray->Option Tm
 | [],_=>none
 |d::r,n=>if d.nm=n then some d.t else AF r n
theorem WP {l:List Bd} {n:ByteArray} (hk:k<l.length) (h:AF (l.take k) n=none):(l[k].nm=n->AF l n=some l[k].t)/\(l[k].nm≠n->AF (l.take (k+1)) n=none):=by
 induction l generalizing k with
 |nil=>simp at hk
 |cons d r a=>
  cases k with
  |zero=>
   refine⟨λe=>?_,λe=>?_⟩
   ·simp only[Gc] at e; simp[AF,e]
   ·simp only[Gc] at e; simp[AF,e]
  |succ k=>
   simp only[J5,AF] at h;by_cases hd:d.nm=n
   ·rw[Aq hd]at h; cases h
   ·rw[Am hd]at h;obtain⟨h1,h2⟩:=a (by simpa using hk) h;refine⟨λe=>?_,λe=>?_⟩
    ·rw[AF,Am hd]; exact h1 (by simpa using e)
    ·rw[J5,AF,Am hd]; exact h2 (by simpa using e)
def BK:List (ByteArray×Value)->ByteArray->Option Value
 | [],_=>none
 |p::r,n=>if p.1=n then some p.2 else BK r n
def Gh (es:Array MapEntry) (clk:Nat):Prop:=(∀x∈es.toList,x.born<clk)/\(es.toList.map (·.born)).Nodup
def BI (w:World) (r:Nat) (L:List (ByteArray×Value)):Prop:=
 ∃es clk,w.heap[r]? = some (.map es clk)/\es.toList.map (λe=>(e.key,e.val))=L.map (λp=>(Value.string p.1,p.2))/\Gh es clk
theorem Gh.push {es:Array MapEntry} (h:Gh es c) (k v:Value):Gh (es.push { key:=k,val:=v,born:=c}) (c+1):=by
 obtain⟨h1,h2⟩:=h;refine⟨λx hx=>?_,?_⟩
 ·rw[Array.toList_push,BN]at hx;rcases hx with hx|hx
  ·have:=h1 x hx; omega
  ·have e:x={ key:=k,val:=v,born:=c}:=(by simpa using hx);subst e; exact DC _
 ·rw[Array.toList_push,Db,List.nodup_append];refine⟨h2,by simp,λa d b hb=>?_⟩;obtain⟨x,hx,rfl⟩:=Cx.1 d;have:=h1 x hx;have e:b=c:=by simpa using hb
  omega
theorem WQ (j:Nat) (k v:Value):∀l:List MapEntry,(l.modify j λe=>{ e with key:=k,val:=v}).map (·.born)=l.map (·.born):=by
 induction j with
 |zero=>intro l; cases l<;>simp
 |succ j b=>intro l; cases l with
  |nil=>simp
  |cons a r=>simp[List.modify_succ_cons,b r]
theorem Gh.modify {es:Array MapEntry} {a:Nat} (h:Gh es a) (j:Nat) (k v:Value):Gh (es.modify j λe=>{ e with key:=k,val:=v}) a:=by
 obtain⟨h1,h2⟩:=h;have e:=WQ j k v es.toList;refine⟨λx hx=>?_,by rw[Array.toList_modify,e]; exact h2⟩;rw[Array.toList_modify]at hx;have:x.born∈es.toList.map (·.born):=by rw[<-e]; exact Cx.2 ⟨x,hx,rfl⟩
 obtain⟨y,hy,hb⟩:=Cx.1 this;rw[<-hb]; exact h1 y hy
theorem BI.new (w:World):BI (w.alloc (.map #[] 0)) w.heap.size []:=⟨#[],0,IA w _,rfl,by simp[Gh]⟩
theorem BI.lt (h:BI w r L):r<w.heap.size:=by
 obtain⟨es,aa,h,_⟩:=h;exact(Fp.1 h).1
theorem BI.kept (h:BI w r L) (hk:w'.heap[r]? = w.heap[r]?):BI w' r L:=by
 obtain⟨es,a,h1,h2⟩:=h;exact⟨es,a,hk.trans h1,h2⟩
theorem BI.below (h:BI w r L) (hb:Below B w w') (a:r<B):BI w' r L:=h.kept (hb.block r a)
theorem LD (n:ByteArray):∀(l:List MapEntry) (L:List (ByteArray×Value)) (i:Nat),l.map (λe=>(e.key,e.val))=L.map (λp=>(Value.string p.1,p.2))->
  (BK L n=none->Instr.findNow .string (.string n) l i=some none)/\(∀v,BK L n=some v->∃j,Instr.findNow .string (.string n) l i=some (some (j,v)))
 | [],[],i,h=>⟨λ_=>rfl,λv h=>by simp[BK] at h⟩
 | [],p::L,i,h=>by simp at h
 |e::l,[],i,h=>by simp at h
 |e::l,p::L,i,h=>by
  simp only[CB,Gd,Fq] at h;obtain⟨⟨hk,c⟩,ht⟩:=h;obtain⟨d,f⟩:=LD n l L (i+1) ht;by_cases a:p.1=n
  ·have b:Instr.sameNow .string (.string n) e.key=some true:=(by rw[hk,a];show some (n==n)=some true;rw[show(n==n)=true from (Ln _ _).2 rfl]);refine⟨λh=>by simp[BK,a] at h,λv h=>⟨i,?_⟩⟩;simp only[BK,a,if_true,Jf] at h;simp[Instr.findNow,b,c,h]
  ·have b:Instr.sameNow .string (.string n) e.key=some false:=by
    rw[hk];show some (n==p.1)=some false;have hb:(n==p.1)=false:=by
     cases g:(n==p.1) with
     |false=>rfl
     |true=>exact absurd ((Ln _ _).1 g).symm a
    rw[hb]
   refine⟨λh=>?_,λv h=>?_⟩
   ·rw[BK,Am a]at h;simp[Instr.findNow,b,d h]
   ·rw[BK,Am a]at h;obtain⟨j,k⟩:=f v h;exact⟨j,by simp[Instr.findNow,b,k]⟩
theorem Ii {T a c:TypeId} (hm:P.underlying T=some (.map a c)) (hk:P.underlying a=some .string) (hz:(zeroValue c).run P w=.ok z w) (h:BI w r L) (n:ByteArray):
  (Instr.lookup T (.map (some r)) (.string n) true).run P w=.ok (.tuple #[(BK L n).getD z,.bool (BK L n).isSome]) w:=by
 obtain⟨es,aa,hb,he,ab⟩:=h;obtain⟨h1,h2⟩:=LD n es.toList L 0 he;have hc:∀b,(Instr.checkKey b 10000 a (.string n)).run P w=.ok () w:=λb=>J6 (k:=.string n) hk (by simp[MapKept.IsKey]) b 9999;cases d:BK L n with
 |none=>simp[Instr.lookup,Fr hm,Gz hb,hc,H6 hk (h1 d),Result.andThen,hz]
 |some v=>obtain⟨j,e⟩:=h2 v d;simp[Instr.lookup,Fr hm,Gz hb,hc,H6 hk e,Result.andThen]
theorem LE {T a d:TypeId} (hm:P.underlying T=some (.map a d)) (hk:P.underlying a=some .string) (h:BI w r L) (n:ByteArray) (v:Value) (e:BK L n=none):
  ∃w',(Instr.mapUpdate T (.map (some r)) (.string n) v).run P w=.ok () w'/\BI w' r (L++[(n,v)])/\w'.heap.size=w.heap.size/\w'.os=w.os/\w'.tape=w.tape/\w'.output=w.output/\(∀b,b≠r->w'.heap[b]? = w.heap[b]?):=by
 obtain⟨es,c,hb,he,f⟩:=h;obtain⟨h1,h2⟩:=LD n es.toList L 0 he;have hc:(Instr.checkKey false 10000 a (.string n)).run P w=.ok () w:=J6 (k:=.string n) hk (by simp[MapKept.IsKey]) false 9999;have hlt:r<w.heap.size:=(Fp.1 hb).1;refine⟨{ w with heap:=w.heap.setIfInBounds r (.map (es.push { key:=.string n,val:=v,born:=c}) (c+1))},?_,⟨_,_,(H9 hb).1,by simp[he],f.push _ _⟩,by simp,rfl,rfl,rfl,λb g=>(H9 hb).2 b g⟩;simp[Instr.mapUpdate,Fr hm,Gz hb,hc,H6 hk (h1 e),MapKept.run_setObj_map _ hb,Result.andThen]
def ET:List (Int×Value)->Int->Option Value
 | [],_=>none
 |p::r,n=>if p.1=n then some p.2 else ET r n
def Et (w:World) (r:Nat) (L:List (Int×Value)):Prop:=
 ∃es clk,w.heap[r]? = some (.map es clk)/\es.toList.map (λe=>(e.key,e.val))=L.map (λp=>(Value.int .i64 p.1,p.2))/\Gh es clk
theorem Et.new (w:World):Et (w.alloc (.map #[] 0)) w.heap.size []:=⟨#[],0,IA w _,rfl,by simp[Gh]⟩
theorem Et.lt {L:List (Int×Value)} (h:Et w r L):r<w.heap.size:=by
 obtain⟨es,aa,h,_⟩:=h;exact(Fp.1 h).1
theorem Et.kept {L:List (Int×Value)} (h:Et w r L) (hk:w'.heap[r]? = w.heap[r]?):Et w' r L:=by
 obtain⟨es,a,h1,h2⟩:=h;exact⟨es,a,hk.trans h1,h2⟩
theorem Et.below {L:List (Int×Value)} (h:Et w r L) (hb:Below B w w') (a:r<B):Et w' r L:=h.kept (hb.block r a)
theorem ND (n:Int):∀(l:List MapEntry) (L:List (Int×Value)) (i:Nat),l.map (λe=>(e.key,e.val))=L.map (λp=>(Value.int .i64 p.1,p.2))->
  (ET L n=none->Instr.findNow (.int .i64) (zA n) l i=some none)/\(∀v,ET L n=some v->∃j,Instr.findNow (.int .i64) (zA n) l i=some (some (j,v)))
 | [],[],i,h=>⟨λ_=>rfl,λv h=>by simp[ET] at h⟩
 | [],p::L,i,h=>by simp at h
 |e::l,[],i,h=>by simp at h
 |e::l,p::L,i,h=>by
  simp only[CB,Gd,Fq] at h;obtain⟨⟨hk,c⟩,ht⟩:=h;obtain⟨d,f⟩:=ND n l L (i+1) ht;by_cases a:p.1=n
  ·have b:Instr.sameNow (.int .i64) (zA n) e.key=some true:=(by rw[hk,a];simp[Instr.sameNow]);refine⟨λh=>by simp[ET,a] at h,λv h=>⟨i,?_⟩⟩;simp only[ET,a,if_true,Jf] at h;simp[Instr.findNow,b,c,h]
  ·have b:Instr.sameNow (.int .i64) (zA n) e.key=some false:=(by rw[hk];simp[Instr.sameNow];exact λe=>a e.symm);refine⟨λh=>?_,λv h=>?_⟩
   ·rw[ET,Am a]at h;simp[Instr.findNow,b,d h]
   ·rw[ET,Am a]at h;obtain⟨j,g⟩:=f v h;exact⟨j,by simp[Instr.findNow,b,g]⟩
theorem Qg {T a c:TypeId} {L:List (Int×Value)} (hm:P.underlying T=some (.map a c)) (hk:P.underlying a=some (.int .i64)) (hz:(zeroValue c).run P w=.ok z w) (h:Et w r L) (n:Int):
  (Instr.lookup T (.map (some r)) (zA n) true).run P w=.ok (.tuple #[(ET L n).getD z,.bool (ET L n).isSome]) w:=by
 obtain⟨es,aa,hb,he,ab⟩:=h;obtain⟨h1,h2⟩:=ND n es.toList L 0 he;have hc:∀b,(Instr.checkKey b 10000 a (zA n)).run P w=.ok () w:=λb=>J6 (k:=zA n) hk (by simp[MapKept.IsKey]) b 9999;cases d:ET L n with
 |none=>simp[Instr.lookup,Fr hm,Gz hb,hc,H6 hk (h1 d),Result.andThen,hz]
 |some v=>obtain⟨j,e⟩:=h2 v d;simp[Instr.lookup,Fr hm,Gz hb,hc,H6 hk e,Result.andThen]
theorem WR {T a d:TypeId} {L:List (Int×Value)} (hm:P.underlying T=some (.map a d)) (hk:P.underlying a=some (.int .i64)) (h:Et w r L) (n:Int) (v:Value) (e:ET L n=none):
  ∃w',(Instr.mapUpdate T (.map (some r)) (zA n) v).run P w=.ok () w'/\Et w' r (L++[(n,v)])/\w'.heap.size=w.heap.size/\w'.os=w.os/\w'.tape=w.tape/\w'.output=w.output/\(∀b,b≠r->w'.heap[b]? = w.heap[b]?):=by
 obtain⟨es,c,hb,he,f⟩:=h;obtain⟨h1,h2⟩:=ND n es.toList L 0 he;have hc:(Instr.checkKey false 10000 a (zA n)).run P w=.ok () w:=J6 (k:=zA n) hk (by simp[MapKept.IsKey]) false 9999;have hlt:r<w.heap.size:=(Fp.1 hb).1;refine⟨{ w with heap:=w.heap.setIfInBounds r (.map (es.push { key:=zA n,val:=v,born:=c}) (c+1))},?_,⟨_,_,(H9 hb).1,by simp[he],f.push _ _⟩,by simp,rfl,rfl,rfl,λb g=>(H9 hb).2 b g⟩;simp[Instr.mapUpdate,Fr hm,Gz hb,hc,H6 hk (h1 e),MapKept.run_setObj_map _ hb,Result.andThen]
def DD:List (Int×Ty)->Int->Option Ty
 | [],_=>none
 |p::r,n=>if p.1=n then some p.2 else DD r n
theorem Kl (n m:Int) (t:Ty):∀σ:List (Int×Ty),DD σ n=none->DD (σ++[(n,t)]) m=if n=m then some t else DD σ m
 | [],_=>by
  simp only[Gy,DD]
 |p::r,h=>by
  simp only[Dj,DD] at h ⊢;by_cases hp:p.1=n
  ·rw[Aq hp]at h; cases h
  ·rw[Am hp]at h;have a:=Kl n m t r h;rw[a];by_cases hm:p.1=m
   ·rw[Aq hm,Am (λe=>hp (by rw[hm,e]))];rw[Aq hm]
   ·rw[Am hm,Am hm]
def Ij (x:Int) (l:List Ty) (t:Ty) (σ:List (Int×Ty)) (b:List Ty->List (Int×Ty)->Bool×List (Int×Ty)):Bool×List (Int×Ty):=
 if l.length=0 then (match DD σ x with|some y=>(CY y t,σ)|none=>(true,σ++[(x,t)]))
 else if t.subs.length=2 then b t.subs σ else (false,σ)
def Gi:List Ty->List Ty->List (Int×Ty)->Bool×List (Int×Ty)
 | [],_,σ=>(true,σ)
 | ⟨x,l⟩::r,ts,σ=>match ts with
  | []=>(false,σ)
  |t::q=>if (Ij x l t σ (λu τ=>Gi l u τ)).1=true then Gi r q (Ij x l t σ (λu τ=>Gi l u τ)).2 else Ij x l t σ (λu τ=>Gi l u τ)
def CV (p t:Ty) (σ:List (Int×Ty)):Bool×List (Int×Ty):=Ij p.base p.subs t σ (λu τ=>Gi p.subs u τ)
theorem Qh (p:Ty) (r:List Ty) (t:Ty) (q:List Ty) (σ:List (Int×Ty)):Gi (p::r) (t::q) σ=if (CV p t σ).1=true then Gi r q (CV p t σ).2 else CV p t σ:=by
 obtain⟨x,l⟩:=p;simp only[Gi,CV];rfl
theorem WT (q:List Ty) (σ:List (Int×Ty)):Gi [] q σ=(true,σ):=by simp[Gi]
theorem NE {t y:Ty} {σ:List (Int×Ty)} (h:DD σ x=some y):CV ⟨x,[]⟩ t σ=(CY y t,σ):=by simp[CV,Ij,h]
theorem NG {t:Ty} {σ:List (Int×Ty)} (h:DD σ x=none):CV ⟨x,[]⟩ t σ=(true,σ++[(x,t)]):=by simp[CV,Ij,h]
theorem NH {p q t:Ty} {σ:List (Int×Ty)} (h:t.subs.length≠2) (x:Int):CV ⟨x,[p,q]⟩ t σ=(false,σ):=by simp[CV,Ij,h]
theorem NI {p q u v:Ty} (x y:Int) (σ:List (Int×Ty)):CV ⟨x,[p,q]⟩ ⟨y,[u,v]⟩ σ=if (CV p u σ).1=true then CV q v (CV p u σ).2 else CV p u σ:=by
 have h:CV ⟨x,[p,q]⟩ ⟨y,[u,v]⟩ σ=Gi [p,q] [u,v] σ:=by simp[CV,Ij]
 rw[h,Qh];split
 ·rw[Qh,WT];cases hq:(CV q v (CV p u σ).2) with
  |mk b τ=>cases b<;>simp
 ·rfl
def FM (p t:Ty):Bool:=(CV p t []).1
structure Pr where
 l:Tm
 r:Tm
def QV (w:World) (X:Nat->Prop) (v:Value) (l:List Pr):Prop:=
 ∃a c,v=.slice a l.length c/\(l.length<=9223372036854775807/\l.length<=c)/\(l=[]∨∃b o,a=some (zD b o)/\X b/\∀i (h:i<l.length),∃a1 c1 a2 c2,w.cell? ⟨b,o+i*4,none⟩=some (.string l[i].l.name)/\w.cell? ⟨b,o+i*4+1,none⟩=some (.slice a1 l[i].l.args.length c1)/\w.cell? ⟨b,o+i*4+2,none⟩=some (.string l[i].r.name)/\w.cell? ⟨b,o+i*4+3,none⟩=some (.slice a2 l[i].r.args.length c2)/\Sl w X a1 l[i].l.args/\Sl w X a2 l[i].r.args)
theorem QV.kept {l:List Pr} (h:QV w X v l) (hk:∀b,X b->w'.heap[b]? = w.heap[b]?):QV w' X v l:=by
 obtain⟨a,c,e,f,h⟩:=h;refine⟨a,c,e,f,?_⟩;rcases h with h|⟨b,o,g,d,h⟩
 ·exact Ad h
 ·refine Ae ⟨b,o,g,d,λi hi=>?_⟩;obtain⟨j,c1,a2,c2,h1,h2,h3,k,h5,h6⟩:=h i hi;have hb:=hk b d;exact⟨j,c1,a2,c2,by simpa [World.cell?,hb] using h1,by simpa [World.cell?,hb] using h2,by simpa [World.cell?,hb] using h3,by simpa [World.cell?,hb] using k,h5.kept hk,h6.kept hk⟩
theorem QV.mono {l:List Pr} (h:QV w X v l) (hk:∀b,X b->b<w.heap.size->Y b):QV w Y v l:=by
 obtain⟨a,c,e,d,h⟩:=h;refine⟨a,c,e,d,?_⟩;rcases h with h|⟨b,o,f,j,h⟩
 ·exact Ad h
 ·by_cases h0:l=[]
  ·exact Ad h0
  ·have hp:0<l.length:=GY.2 h0;obtain⟨_,_,_,_,g,_⟩:=h 0 hp;refine Ae ⟨b,o,f,hk b j (Es g),λi hi=>?_⟩;obtain⟨k,c1,a2,c2,h1,h2,h3,m,h5,h6⟩:=h i hi;exact⟨k,c1,a2,c2,h1,h2,h3,m,h5.mono hk,h6.mono hk⟩
theorem QV.later {l:List Pr} (h:QV w X v l) (hb:Below w.heap.size w w'):QV w' X v l:=
 ((h.mono (Y:=λb=>X b/\b<w.heap.size) λb h1 h2=>⟨h1,h2⟩).kept λb hx=>hb.block b hx.2).mono λb hx _=>hx.1
theorem QV.alloc {l:List Pr} (h:QV w X v l) (o:Obj):QV (w.alloc o) X v l:=h.later ((Ac _ _).alloc (Af _) o)
theorem QV.get {l:List Pr} (h:QV w X (.slice a n c) l) (i:Nat) (hi:i<l.length):
  ∃b o d c1 a2 c2,a=some (zD b o)/\w.cell? ⟨b,o+i*4,none⟩=some (.string l[i].l.name)/\w.cell? ⟨b,o+i*4+1,none⟩=some (.slice d l[i].l.args.length c1)/\w.cell? ⟨b,o+i*4+2,none⟩=some (.string l[i].r.name)/\w.cell? ⟨b,o+i*4+3,none⟩=some (.slice a2 l[i].r.args.length c2)/\Sl w X d l[i].l.args/\Sl w X a2 l[i].r.args:=by
 obtain⟨a2,c2,e,hl,h⟩:=h;simp at e;obtain⟨rfl,rfl,rfl⟩:=e;rcases h with h|⟨b,o,f,hX,h⟩
 ·subst h; simp at hi
 ·obtain⟨d,c1,a2,c2,h1,h2,h3,g,h5,h6⟩:=h i hi;exact⟨b,o,d,c1,a2,c2,f,h1,h2,h3,g,h5,h6⟩
def Fg (ls:List Pr):Nat->Int
 |0=>0
 |k+1=>if Fg ls k=0 then (match ls[k]? with|some p=>LB p.l p.r|none=>0) else Fg ls k
def Gj (ls:List Pr):Int:=if 40<ls.length then 3 else Fg ls ls.length
theorem Qi {ls:List Pr} {k:Nat} (h:Fg ls k≠0):∀n,k<=n->Fg ls n=Fg ls k
 |0,b=>by
  have:k=0:=by omega
  subst this; rfl
 |n+1,b=>by
  by_cases e:k=n+1
  ·subst e; rfl
  ·have a:=Qi h n (by omega);rw[Fg,Am (by rw[a]; exact h)];exact a
theorem WU {ls:List Pr} (hk:k<ls.length) (h0:Fg ls k=0):Fg ls (k+1)=LB ls[k].l ls[k].r:=by rw[Fg,Aq h0,GA hk]
theorem Qj {ls:List Pr} (h:Gj ls=0):ls.length<=40:=by
 unfold Gj at h;split at h
 ·cases h
 ·omega
theorem WV {ls:List Pr} (h:Gj ls=0):∀p∈ls,FL p.l=0/\FL p.r=0:=by
 intro p hp;obtain⟨k,hk,rfl⟩:=Jg hp;have aa:=Qj h;unfold Gj at h;rw[Am (by omega)]at h;have h0:∀n,n<=ls.length->Fg ls n=0:=λn a=>by
  by_cases e:Fg ls n=0
  ·exact e
  ·have:=Qi e _ a;rw[this]at h;exact absurd h e
 have h1:=WU hk (h0 k (by omega));rw[h0 (k+1) (by omega)]at h1;have h2:=h1.symm;unfold LB at h2;by_cases e:FL ls[k].l=0
 ·rw[Aq e]at h2; exact⟨e,h2⟩
 ·rw[Am e]at h2; exact absurd h2 e
def Gk (l:List Bd) (s:ByteArray) (es0 bs:List Tm):Tm:=
 match AF l s with
 |some x=>if es0.isEmpty=true then x else ⟨s,bs⟩
 |none=>⟨s,bs⟩
def An (l:List Bd):List Tm->List Tm
 | []=>[]
 | ⟨s,es0⟩::r=>Gk l s es0 (An l es0)::An l r
def Ag (l:List Bd) (t:Tm):Tm:=Gk l t.name t.args (An l t.args)
theorem Bs (l:List Bd) (t:Tm) (r:List Tm):An l (t::r)=Ag l t::An l r:=by
 obtain⟨s,aa⟩:=t;simp only[An,Ag]
theorem Jl (l:List Bd):∀a,(An l a).length=a.length
 | []=>by simp[An]
 |t::r=>by rw[Bs]; simp[Jl l r]
theorem IG (l:List Bd) (b:List Tm):∀a,An l (a++b)=An l a++An l b
 | []=>by simp[An]
 |t::r=>by rw[Dj,Bs,Bs,IG l b r]; rfl
theorem II (l:List Bd) (a:List Tm) (k:Nat) (h:k<a.length):An l (a.take (k+1))=An l (a.take k)++[Ag l a[k]]:=by
 rw[CI h,IG,Bs];simp[An]
theorem IJ {l:List Bd} {x:Tm} (h:AF l s=some x):Ag l ⟨s,[]⟩=x:=by simp[Ag,Gk,h]
theorem Hc {l:List Bd} {a:List Tm} (h:a≠[]∨AF l s=none):Ag l ⟨s,a⟩=⟨s,An l a⟩:=by
 unfold Ag Gk;rcases h with h|h
 ·cases AF l s with
  |none=>rfl
  |some x=>simp[h]
 ·rw[h]
theorem Qk (l:List Bd) (a:List Tm) (k:Nat) (h:k<a.length):Ah (An l (a.take (k+1)))=Ah (An l (a.take k))+Ah [Ag l a[k]]:=by rw[II l a k h,Gf]
theorem Ql (l:List Bd) (a:List Tm) (k:Nat):Ah (An l (a.take k))<=Ah (An l a):=by
 have:=Gf (An l (a.take k)) (An l (a.drop k));rw[<-IG,FH]at this;omega
abbrev Bc:=Bd×Option Addr×Nat
instance:Inhabited Bc:=⟨(⟨⟨#[]⟩,⟨⟨#[]⟩,[]⟩⟩,none,0)⟩
def D5 (x:Bc):List Value:=[.string x.1.nm,.string x.1.t.name,.slice x.2.1 x.1.t.args.length x.2.2]
def DE:List Bc->List Value
 | []=>[]
 |x::r=>D5 x++DE r
theorem Qm (b:List Bc):∀a,DE (a++b)=DE a++DE b
 | []=>rfl
 |x::r=>by rw[Dj,DE,DE,Qm b r,Jh]
theorem Qn:∀a:List Bc,(DE a).length=a.length*3
 | []=>rfl
 |x::r=>by rw[DE,Ej,Qn r]; simp[D5]; omega
theorem Km:∀(a:List Bc) (i:Nat) (h:i<a.length) (j:Nat),j<3->(DE a)[i*3+j]? = (D5 a[i])[j]?
 | [],i,h,j,b=>by simp at h
 |x::r,0,h,j,b=>by
  rw[DE,Nq (by simp[D5]; omega)]; simp
 |x::r,i+1,h,j,b=>by
  rw[DE,Po (by simp[D5]; omega)];have e:(i+1)*3+j-(D5 x).length=i*3+j:=by simp[D5]; omega
  rw[e,Km r i (by simpa using h) j b];simp
structure Cs (w:World) (N:Nat) (Y:Nat->Prop) (v:Value) (cs:List Bc):Prop where
 own:w.ownsRow N 93 3 v cs.length (DE cs)
 row:∀x∈cs,Sl w (λb=>Y b∨(N<=b/\some b≠v.ownBlock)) x.2.1 x.1.t.args
theorem Cs.start (w:World) (N:Nat) (Y:Nat->Prop):Cs w N Y zB []:=⟨H5 w N _ 3,by simp⟩
theorem Cs.below {cs:List Bc} (h:Cs w N Y v cs) (hb:Below w.heap.size w w'):Cs w' N Y v cs:=
 ⟨h.own.kept (w' := w') (row := none) ⟨hb.os, hb.tape, hb.output, hb.size, λj a _ => hb.block j a⟩ (by rcases Je (Value.ownBlock v) with h | ⟨x, h⟩; exact Ad h; exact Ae (by rw [h]; simp)),
  λx hx=>(h.row x hx).later hb⟩
theorem Cs.ne {cs:List Bc} (h:Cs w N Y v cs) (hb:b<N):some b≠v.ownBlock:=λe=>by
 have:=(h.own.lt b e.symm).1; omega
theorem Cs.kept {cs:List Bc} (h:Cs w N Y v cs) (a:r<N) (c:¬Y r) (ho:w'.os=w.os) (ht:w'.tape=w.tape) (hu:w'.output=w.output) (hz:w.heap.size<=w'.heap.size) (hk:∀j,j≠r->j<w.heap.size->w'.heap[j]? = w.heap[j]?):Cs w' N Y v cs:=
 ⟨h.own.kept (w' := w') (row := some r) ⟨ho, ht, hu, hz, λj d f => hk j (λe => f (by rw [e])) d⟩ (Ae (λe => h.ne a e.symm)),
  λx hx=>by
  have h1:=(h.row x hx).mono (Y:=λb=>(Y b∨(N<=b/\some b≠v.ownBlock))/\b<w.heap.size) λb h1 h2=>⟨h1,h2⟩;refine(h1.kept λb hb=>hk b (λe=>?_) hb.2).mono λb hb _=>hb.1;rcases hb.1 with h2|h2
  ·exact c (e▸h2)
  ·omega⟩
theorem Cs.push {cs:List Bc} (h:Cs w N Y v cs) (hN:N<=w.heap.size) (f:∀b,Y b->b<N) (hb:Below w.heap.size w w1) {x:Bc}
  (ht:Sl w1 (λb=>Y b∨w.heap.size<=b) x.2.1 x.1.t.args) (o:Obj) (j:w2=w1.alloc o) 
  (k:w3.ownsRow N 93 3 (.slice (some (zD g 0)) (cs.length+1) cap) (cs.length+1) (DE cs++D5 x)) (i:w2.grownBy w3 v.ownBlock) (a:v.ownBlock=some g∨g=w2.heap.size):
  Cs w3 N Y (.slice (some (zD g 0)) (cs.length+1) cap) (cs++[x]):=by
 subst j;have c:=h.own.lt;refine⟨by rw[Qm]; simpa [DE] using k,λy hy=>?_⟩;have ae:w1.heap.size<=(w1.alloc o).heap.size:=by simp
 have af:=hb.size;have ag:N<=g:=by
  rcases a with e|e
  ·exact(c g e).1
  ·simp at e; omega
 rcases BN.1 hy with hy|hy
 ·have h1:Sl w (λb=>(Y b∨(N<=b/\some b≠v.ownBlock))/\b<w.heap.size) y.2.1 y.1.t.args:=(h.row y hy).mono λb h1 h2=>⟨h1,h2⟩;have h2:Sl w3 (λb=>(Y b∨(N<=b/\some b≠v.ownBlock))/\b<w.heap.size) y.2.1 y.1.t.args:=h1.kept λb hx=>by
   have d:some b≠v.ownBlock:=by
    rcases hx.1 with hy|hy
    ·exact h.ne (f b hy)
    ·exact hy.2
   rw[i.block b (by simp; omega) d,BL _ _ _ (by omega),hb.block b hx.2]
  refine h2.mono λb hx _=>?_;rcases hx.1 with hy|hy
  ·exact Ad hy
  ·refine Ae ⟨hy.1,λe=>?_⟩;simp[Value.ownBlock]at e;rcases a with e'|e'
   ·exact hy.2 (by rw[e',e])
   ·simp at e'; omega
 ·have e:y=x:=by simpa using hy
  subst e;have h1:Sl w1 (λb=>(Y b∨w.heap.size<=b)/\b<w1.heap.size) y.2.1 y.1.t.args:=ht.mono λb h1 h2=>⟨h1,h2⟩;have h2:Sl w3 (λb=>(Y b∨w.heap.size<=b)/\b<w1.heap.size) y.2.1 y.1.t.args:=h1.kept λb hx=>by
   have d:some b≠v.ownBlock:=by
    rcases hx.1 with hy|hy
    ·exact h.ne (f b hy)
    ·intro e; have:=(c b e.symm).2; omega
   rw[i.block b (by simp; omega) d,BL _ _ _ hx.2]
  refine h2.mono λb hx _=>?_;rcases hx.1 with hy|hy
  ·exact Ad hy
  ·refine Ae ⟨by omega,λe=>?_⟩;simp[Value.ownBlock]at e;rcases a with e'|e'
   ·have:=(c g e').2; omega
   ·simp at e'; omega
theorem Cs.bv {cs:List Bc} (h:Cs w N Y v cs):BV w (λb=>Y b∨N<=b) v (cs.map (·.1)):=by
 have d:cs.length<=9223372036854775807:=by
  rcases h.own.2 with ⟨_,h0⟩|⟨g,cap,cur,_,_,_,h1,h2,_⟩
  ·omega
  ·unfold maxLen at h2; omega
 by_cases h0:0<cs.length
 ·obtain⟨g,cap,rfl,f,hlt,hc⟩:=Fd h.own h0;have j:cs.length<=cap:=by
   rcases h.own.2 with ⟨e,_⟩|⟨g',ae,cur,e,_,_,h1,_⟩
   ·cases e
   ·simp at e; omega
  refine⟨_,cap,by simp,⟨by simpa using d,by simpa using j⟩,Ae ⟨g,0,rfl,Ae f,λi hi=>?_⟩⟩;have a:i<cs.length:=by simpa using hi
  have g0:=hc (i*3+0) (.string cs[i].1.nm) (by rw[Km cs i a 0 (by decide)]; rfl);have g1:=hc (i*3+1) (.string cs[i].1.t.name) (by rw[Km cs i a 1 (by decide)]; rfl);have g2:=hc (i*3+2) (.slice cs[i].2.1 cs[i].1.t.args.length cs[i].2.2) (by rw[Km cs i a 2 (by decide)]; rfl);simp only[List.getElem_map,Ia];exact⟨g0,g1,_,_,g2,(h.row cs[i] (Bv a)).mono λb hb _=>hb.imp id (λh=>h.1)⟩
 ·have e:cs=[]:=GV.1 (by omega);subst e;rcases h.own.2 with ⟨c,_⟩|⟨g,cap,cur,c,_⟩
  ·exact⟨none,0,c,by simp,Ad rfl⟩
  ·exact⟨_,_,c,by simp,Ad rfl⟩
def CC (a b:ByteArray):Bool:=Op.bytesLess a.toList b.toList
theorem Qo:∀a:List UInt8,Op.bytesLess a a=false
 | []=>rfl
 |x::r=>by simp[Op.bytesLess,Qo r]
theorem Qp:∀a b c:List UInt8,Op.bytesLess a b=true->Op.bytesLess b c=true->Op.bytesLess a c=true
 |_,[],_,h,_=>by simp[Op.bytesLess] at h
 |_,_::_,[],_,h=>by simp[Op.bytesLess] at h
 | [],_::_,_::_,_,_=>by simp[Op.bytesLess]
 |x::a,y::b,z::c,h1,h2=>by
  simp only[Op.bytesLess,Bool.or_eq_true,Bool.and_eq_true,Lo,beq_iff_eq] at h1 h2 ⊢;rw[UInt8.lt_iff_toNat_lt]at h1 h2 ⊢;rcases h1 with h1|⟨rfl,h1⟩<;>rcases h2 with h2|⟨rfl,h2⟩
  ·left; omega
  ·left; exact h1
  ·left; exact h2
  ·right; exact⟨rfl,Qp a b c h1 h2⟩
theorem Qq:∀a b:List UInt8,Op.bytesLess a b=false->Op.bytesLess b a=false->a=b
 | [],[],_,_=>rfl
 | [],_::_,h,_=>by simp[Op.bytesLess] at h
 |_::_,[],_,h=>by simp[Op.bytesLess] at h
 |x::a,y::b,h1,h2=>by
  simp only[Op.bytesLess,Nr,decide_eq_false_iff_not] at h1 h2;obtain⟨h1,h3⟩:=h1;obtain⟨h2,c⟩:=h2;rw[UInt8.lt_iff_toNat_lt]at h1 h2;have e:x=y:=UInt8.toNat_inj.mp (by omega);subst e;simp only[BEq.rfl,Bool.true_and] at h3 c;rw[Qq a b h3 c]
theorem Qr (a:ByteArray):CC a a=false:=Qo _
theorem NJ {a b c:ByteArray} (h1:CC a b=true) (h2:CC b c=true):CC a c=true:=Qp _ _ _ h1 h2
theorem NK {a b:ByteArray} (h1:CC a b=false) (h2:CC b a=false):a=b:=Gg (Qq _ _ h1 h2)
theorem Qs {a b:ByteArray} (h:CC a b=true):CC b a=false:=by
 cases hb:CC b a with
 |false=>rfl
 |true=>have:=NJ h hb; rw[Qr] at this; cases this
theorem WX {a b c:ByteArray} (h1:CC a b=false) (h2:CC b c=false):CC a c=false:=by
 cases h:CC a c with
 |false=>rfl
 |true=>
  cases h3:CC b a with
  |true=>rw[NJ h3 h] at h2; cases h2
  |false=>have e:=NK h1 h3;subst e;rw[h]at h2; cases h2
def Fu (l:List Bd):Prop:=l.Pairwise λa b=>CC a.nm b.nm=true
def Eu (l:List Bd):Prop:=l.Pairwise λa b=>a.nm≠b.nm
theorem Fu.apart {l:List Bd} (h:Fu l):Eu l:=h.imp fun {a b} h e=>by rw[e,Qr] at h; cases h
theorem Eu.perm {l k:List Bd} (h:Eu l) (hp:k.Perm l):Eu k:=(hp.pairwise_iff (fun {_ _} a=>Ne.symm a)).2 h
theorem NL {l k:List Bd} (hp:l.Perm k) (h1:Fu l) (h2:Fu k):l=k:=
 List.Perm.eq_of_pairwise (le:=λa b:Bd=>CC a.nm b.nm=true) (λa b _ _ h3 c=>by rw[Qs h3] at c; cases c) h1 h2 hp
theorem NM {l:List Bd} (c:Eu l) (h:l.Pairwise λa b=>CC b.nm a.nm=false):Fu l:=by
 unfold Fu Eu at *;refine(List.pairwise_and_iff.2 ⟨c,h⟩).imp fun {a b} ⟨h1,h2⟩=>?_;cases h3:CC a.nm b.nm with
 |true=>rfl
 |false=>exact absurd (NK h3 h2) h1
def LV {α:Type} (f:α->Value) (w:World) (X:Nat->Prop) (v:Value) (l:List α):Prop:=
 ∃a c,v=.slice a l.length c/\(l.length<=9223372036854775807/\l.length<=c)/\(l=[]∨∃b o,a=some (zD b o)/\X b/\∀i (h:i<l.length),w.cell? ⟨b,o+i,none⟩=some (f l[i]))
theorem LV.kept {f:α->Value} {l:List α} (h:LV f w X v l) (hk:∀b,X b->w'.heap[b]? = w.heap[b]?):LV f w' X v l:=by
 obtain⟨a,c,e,d,h⟩:=h;refine⟨a,c,e,d,?_⟩;rcases h with h|⟨b,o,e,hx,h⟩
 ·exact Ad h
 ·exact Ae ⟨b,o,e,hx,λi hi=>by rw[DI (hk b hx)]; exact h i hi⟩
theorem LV.mono {f:α->Value} {l:List α} (h:LV f w X v l) (hk:∀b,X b->b<w.heap.size->Y b):LV f w Y v l:=by
 obtain⟨a,c,e,d,h⟩:=h;refine⟨a,c,e,d,?_⟩;rcases h with h|⟨b,o,e,hx,h⟩
 ·exact Ad h
 ·by_cases h0:l=[]
  ·exact Ad h0
  ·have hp:0<l.length:=GY.2 h0;exact Ae ⟨b,o,e,hk b hx (World.block_lt_of_cell? w _ (h 0 hp)),h⟩
theorem LV.below {f:α->Value} {l:List α} (h:LV f w X v l) (hb:Below B w w') (a:∀b,X b->b<w.heap.size->b<B):LV f w' X v l:=by
 have h1:LV f w (λb=>X b/\b<B) v l:=h.mono λb hx c=>⟨hx,a b hx c⟩;have h2:LV f w' (λb=>X b/\b<B) v l:=h1.kept λb hx=>hb.block b hx.2;exact h2.mono λb hx _=>hx.1
theorem LV.later {f:α->Value} {l:List α} (h:LV f w X v l) (hb:Below w.heap.size w w'):LV f w' X v l:=h.below hb (λ_ _ h=>h)
theorem LV.alloc {f:α->Value} {l:List α} (h:LV f w X v l) (o:Obj):LV f (w.alloc o) X v l:=h.later ((Ac _ _).alloc (Af _) o)
theorem LV.of_own {f:α->Value} {l:List α} (h:w.ownsRow N T 1 v l.length (l.map f)):LV f w (λb=>N<=b) v l:=by
 have h':=h;obtain⟨_,h1⟩:=h;rcases h1 with ⟨rfl,h0⟩|⟨g,cap,cur,c,d,hh,j,k,_⟩
 ·have e:l=[]:=GV.1 h0;subst e;exact⟨none,0,rfl,by simp,Ad rfl⟩
 ·unfold maxLen at k;refine⟨some (zD g 0),cap,c,⟨by omega,j⟩,?_⟩;by_cases h0:l=[]
  ·exact Ad h0
  ·have hp:0<l.length:=GY.2 h0;obtain⟨g2,ae,a,_,_,hc⟩:=Fd h' hp;rw[c]at a;simp at a;obtain⟨rfl,rfl⟩:=a;exact Ae ⟨g,0,rfl,d,λi hi=>by rw[Ia]; exact hc i _ (by simp[hi])⟩
def Ch (x:ByteArray) (l:List ByteArray):Bool:=l.any λy=>y.toList==x.toList
theorem WY {x:ByteArray} {l:List ByteArray} (h:k<l.length) (h0:Ch x (l.take k)=false) (h1:(l[k].toList==x.toList)=false):Ch x (l.take (k+1))=false:=by
 unfold Ch at *;rw[CI h,List.any_append,h0];simpa using h1
theorem WZ {x:ByteArray} {l:List ByteArray} (h:k<l.length) (h1:(l[k].toList==x.toList)=true):Ch x l=true:=by
 unfold Ch;rw[Fc];exact⟨l[k],Bv h,h1⟩
theorem LF (x:ByteArray) (l:List ByteArray) (v:Value) (w:World) (X:Nat->Prop) (m:LV Value.string w X v l):
  Calls prog 47 #[.string x,v] w λe w'=>e=.returned (.bool (Ch x l))/\w'=w:=by
 obtain⟨a,c,rfl,⟨hl,_⟩,h1⟩:=m;go_in;go_wp2_with fail;go_loop [5] (λi=>∃k:Nat,k<=l.length/\i=zA k/\Ch x (l.take k)=false) (λi=>l.length-(intOf i).toNat)
 case atStart=>exact⟨0,Bp _,rfl,by simp[Ch]⟩
 case round=>
  obtain⟨k,hk,rfl,g⟩:=hrel;have j:=Aa g;clear g;by_cases d:k<l.length
  ·obtain⟨b,o,rfl,_,hc⟩:=h1.resolve_left (λh=>by rw[h] at d; simp at d);have d1:=hc k d;clear hc h1;cases hq:(l[k].toList==x.toList) with
   |true=>have f:=Aa (WZ d hq);go_wp2_with fail;go_ret;exact⟨El f.o.symm,rfl⟩
   |false=>
    have f:=Aa (WY d j.o hq);go_wp2_with fail;go_round
    case rel=>exact⟨k+1,by omega,by go_num,f.o⟩
    case measure=>simp[intOf]; omega
  ·have n:l.take k=l:=Bz (by omega);have q:Hid (false=Ch x l):=Aa (by rw[<-j.o,n]);go_wp2_with fail;go_ret;exact⟨El q.o,rfl⟩
theorem Tryz.infoStr:(prog.info? 9).map (λi=>(i.zero,i.size,i.bytes))=some (some (.string ByteArray.empty),1,16):=by kernel_rfl
def CO (acc:List ByteArray) (s:ByteArray):List ByteArray:=if (Av s&&!Ch s acc)=true then acc++[s] else acc
def AU (acc:List ByteArray) (ks:List Tm):List ByteArray:=ks.foldl (λacc k=>CO acc k.name) acc
theorem Kn (h:Av s=true) (h2:Ch s acc=false):CO acc s=acc++[s]:=by simp[CO,h,h2]
theorem Ko (h:Av s=true) (h2:Ch s acc=true):CO acc s=acc:=by simp[CO,h,h2]
theorem LH (h:Av s=false):CO acc s=acc:=by simp[CO,h]
theorem W6 (acc:List ByteArray) (s:ByteArray):(CO acc s).length<=acc.length+1:=by
 unfold CO; split<;>simp
theorem Qt (acc:List ByteArray) (a b:List Tm):AU acc (a++b)=AU (AU acc a) b:=by simp[AU,List.foldl_append]
theorem LI (a:List Tm):∀acc,(AU acc a).length<=acc.length+a.length:=by
 induction a with
 |nil=>intro acc; simp[AU]
 |cons k r b=>intro acc; have:=b (CO acc k.name); have h2:=W6 acc k.name; simp only[AU,List.foldl_cons,Cl] at *; omega
theorem W8 (acc:List ByteArray) (a:List Tm) (k:Nat) (h:k<a.length):AU acc (a.take (k+1))=CO (AU acc (a.take k)) a[k].name:=by
 rw[CI h,Qt]; rfl
theorem NN (t:Tm) (v:Value) (w:World) (X:Nat->Prop) (T:TV w X v t) (z:Ah [t]<=1000000):
  Calls prog 28 #[v] w λe w'=>∃A,e=.returned A/\LV Value.string w' (λb=>w.heap.size<=b) A (AU [] (Aw [t]))/\Below w.heap.size w w':=by
 obtain⟨a,c,rfl,B⟩:=T;have U:=Aa (show TV w X (.agg (zG t a c)) t from ⟨a,c,rfl,B⟩);clear B;obtain⟨i0,hi,V,W,Y⟩:=Dw Tryz.infoStr;go_in;go_wp2_with fail;refine(WA t _ _ X (by exact U.o.alloc _) z).mono ?_;rintro e w2 ⟨v2,xs,rfl,f,C,D⟩;have E:0<Ah [t]:=by obtain⟨s',l'⟩:=t; simp[Ah]; omega
 obtain⟨g,cap,rfl,hg,aE,F⟩:=Fd f E;have u:=Aa (((Ac w.heap.size w).alloc (Af _) (zh t a c)).trans (D.mono (by simp)));have Z:=Aa C;have ar:=Aa F;have G:=Kh [t];generalize H:Aw [t]=d at *;have au:=Aa H;clear H;have aF:d.length<=1000000:=by omega
 rw[<-G];clear f C F D G E z;go_wp2_with fail;go_loopw [4,5] (λq i wr=>∃k:Nat,k<=d.length/\i=zA k/\wr.ownsRow w2.heap.size 9 1 q (AU [] (d.take k)).length ((AU [] (d.take k)).map Value.string)/\Below w2.heap.size w2 wr) (λq i wr=>d.length-(intOf i).toNat);case atStart=>exact⟨0,Bp _,rfl,by simpa [AU] using H5 w2 w2.heap.size 9 1,Ac _ _⟩
 case round=>
  obtain⟨k,hk,rfl,f,hb⟩:=hrel;have m:=Aa f;have l:=Aa hb;by_cases I:k<d.length
  ·obtain⟨J,a',c',x1,a8⟩:=Z.o.get k I;have d0:=cell_later hb (ar.o _ _ J);have HT:=Aa (W8 [] d k I);have L:=LI (d.take k) [];have hlen:(AU [] (d.take k)).length<=1000000:=by
    have:(d.take k).length<=k:=List.length_take_le _ _;simp at L; omega
   clear J x1 a8 f hb L;generalize M:AU [] (d.take k)=acc at *;have aA:=Aa M;clear M;cases h:Av d[k].name with
   |false=>
    have r:=Aa (LH (acc:=acc) h);have s:=Aa h;clear h;go_wp2_with (go_at_call 46; refine(Hb _ _).mono ?_; rintro e w' ⟨rfl,rfl⟩; rw[s.o]);go_roundw
    case rel=>exact⟨k+1,by omega,by go_num,by rw[HT.o,r.o]; exact m.o,l.o⟩
    case measure=>simp[intOf]; omega
   |true=>
    have s:=Aa h;cases n:Ch d[k].name acc with
    |true=>
     have r:=Aa (Ko h n);have y:=Aa n;clear h n;go_wp2_with (first|(go_at_call 46; refine(Hb _ _).mono ?_; rintro e w' ⟨rfl,rfl⟩; rw[s.o])|(go_at_call 47; refine(LF _ _ _ _ _ (LV.of_own m.o)).mono ?_; rintro e w' ⟨rfl,rfl⟩; rw[y.o]));go_roundw
     case rel=>exact⟨k+1,by omega,by go_num,by rw[HT.o,r.o]; exact m.o,l.o⟩
     case measure=>simp[intOf]; omega
    |false=>
     have r:=Aa (Kn h n);have y:=Aa n;clear h n;obtain⟨q2,w3,N,O,R,_⟩:=run_append_own (P:=prog) (wr.alloc (zp #[.string d[k].name] 9)) w2.heap.size 69 69 9 i0 _ 1 16 underlying69 hi V W Y rfl (by decide) _ acc.length (acc.map Value.string) (m.o.alloc _)
      (zD wr.heap.size 0) 1 1 [.string d[k].name] rfl (cell_one_new _ _ _) (λx hx=>by simp at hx; subst hx; rfl) (by unfold maxLen; omega) (by omega) (by have:=l.o.size; simp; omega)
     have HR:=Aa N;have aB:=Aa O;have aC:=Aa ((l.o.alloc l.o.size _).grown R (by have:=l.o.size; simp; omega) (λj hj=>(m.o.lt j hj).1));clear N O R;go_wp2_with (first|(go_at_call 46; refine(Hb _ _).mono ?_; rintro e w' ⟨rfl,rfl⟩; rw[s.o])|(go_at_call 47; refine(LF _ _ _ _ _ (LV.of_own m.o)).mono ?_; rintro e w' ⟨rfl,rfl⟩; rw[y.o])|(at_builtin; refine IB rfl _ _ _ _ rfl rfl rfl HR.o ?_));go_roundw
     case rel=>exact⟨k+1,by omega,by go_num,by rw[HT.o,r.o]; simpa using aB.o,aC.o⟩
     case measure=>simp[intOf]; omega
  ·have aD:d.take k=d:=Bz (by omega);rw[aD]at f;have HO:=Aa f;clear f hb;go_wp2_with fail;go_ret;exact⟨_,rfl,by rw[au.o]; exact(LV.of_own HO.o).mono λb hb _=>AJ u.o.size hb,u.o.trans (l.o.mono u.o.size)⟩
theorem LJ {r a:Option Nat} (h:w.grownBy w1 r) (h1:w1.grownBy w2 a) (c:∀k,a=some k->r=some k∨w.heap.size<=k):w.grownBy w2 r:=
 ⟨h1.os.trans h.os,h1.tape.trans h.tape,h1.output.trans h.output,AJ h.size h1.size,λk hk b=>(h1.block k (Ce hk h.size) (λe=>by
  rcases c k e.symm with h2|h2
  ·exact b h2.symm
  ·omega)).trans (h.block k hk b)⟩
theorem LK (hb:Below w.heap.size w w') (r:Option Nat):w.grownBy w' r:=⟨hb.os,hb.tape,hb.output,hb.size,λk hk _=>hb.block k hk⟩
theorem TV.grown {t:Tm} {r:Option Nat} (h:TV w X v t) (a:w.grownBy w' r) (c:∀b,X b->some b≠r):TV w' X v t:=by
 have h1:TV w (λb=>X b/\b<w.heap.size) v t:=h.mono λb h1 h2=>⟨h1,h2⟩;have h2:TV w' (λb=>X b/\b<w.heap.size) v t:=h1.kept λb hx=>a.block b hx.2 (c b hx.1);exact h2.mono λb hx _=>hx.1
def Gl (w0:World) (B:Nat) (q0:Value) (acc:List ByteArray) (q:Value) (wr:World):Prop:=
 wr.ownsRow B 9 1 q acc.length (acc.map Value.string)/\w0.grownBy wr q0.ownBlock/\(∀k,q.ownBlock=some k->q0.ownBlock=some k∨w0.heap.size<=k)
theorem Gl.step {a:World} {b c d:Value} {f e:List ByteArray} (h1:Gl a B b f c w1) (h2:Gl w1 B c e d w2):Gl a B b e d w2:=by
 refine⟨h2.1,LJ h1.2.1 h2.2.1 h1.2.2,λk hk=>?_⟩;rcases h2.2.2 k hk with h|h
 ·exact h1.2.2 k h
 ·exact Ae (AJ h1.2.1.size h)
theorem Gl.below {b:World} {c a:Value} {d:List ByteArray} (h1:Gl b B c d a w1) (hb:Below w1.heap.size w1 w2):Gl b B c d a w2:=
 ⟨h1.1.kept (w' := w2) (row := none) ⟨hb.os, hb.tape, hb.output, hb.size, λj e _ => hb.block j e⟩ (by rcases Je (Value.ownBlock a) with h | ⟨x, h⟩; exact Ad h; exact Ae (by rw [h]; simp)),
  LJ h1.2.1 (LK hb a.ownBlock) h1.2.2,h1.2.2⟩
