/- Several texts in one. -/
import Derived.Test.YtacmmcnnhfmepaaGreatDoorSq
import Derived.WalkKit
import Derived.WalkSpells
import Derived.WalkLawsBesides
import Derived.Test.YtacmmcnnhfmepaaGreatDoorRows
import Derived.BigQuiet
import Derived.Deep.RegionHeld
import Derived.Deep.RegionHeld3
import Derived.Deep.AppendLies
import Derived.Deep.DeepCutAuto
import Derived.WideMake
namespace Go.Proofs.YtacmmcnnhfmepaaGreatDoor
set_option linter.all false
set_option maxRecDepth 20000
set_option maxHeartbeats 8000000
open Go.RowKit Go.Proofs.Tryz
theorem Aa {p:Prop} (h:p):Hid p:=h
structure Tm where
 name:ByteArray
 args:List Tm
abbrev zG (t:Tm) (a:Option Addr) (c:Nat):Array Value:=#[.string t.name,.slice a t.args.length c]
theorem Tm.ind {P:Tm->Prop} (h:∀s l,(∀x∈l,P x)->P ⟨s,l⟩) (t:Tm):P t:=
 Tm.rec (motive_1:=P) (motive_2:=λl=>∀x∈l,P x) (λs l b=>h s l b) (λx hx=>by cases hx)
  (λa l c d x hx=>by
   rcases Cn.1 hx with e|e
   ·subst e; exact c
   ·exact d x e) t
theorem Tm.indL {P:List Tm->Prop} (h0:P []) (h:∀s l r,P l->P r->P (⟨s,l⟩::r)) (l:List Tm):P l:=
 Tm.rec_1 (motive_1:=λt=>P t.args) (motive_2:=P) (λ_ _ b=>b) h0 (λa l c d=>by obtain⟨s,k⟩:=a; exact h s k l c d) l
def Ah:List Tm->Nat
 | []=>0
 | ⟨_,l⟩::r=>1+Ah l+Ah r
theorem FW (a b:List Tm):Ah (a++b)=Ah a+Ah b:=by
 induction a with
 |nil=>simp[Ah]
 |cons t r c=>obtain⟨s,l⟩:=t; simp only[Di,Ah,c]; omega
def DN (w:World) (X:Nat->Prop):Nat->Nat->List Tm->Prop
 |_,_,[]=>True
 |b,o,⟨s,l⟩::r=>X b/\w.cell? (zD b o)=some (.string s)/\
   (∃a c,w.cell? ⟨b,o+1,none⟩=some (.slice a l.length c)/\l.length<=9223372036854775807/\(l=[]∨∃b' o',a=some (zD b' o')/\DN w X b' o' l))/\DN w X b (o+2) r
def Sl (w:World) (X:Nat->Prop) (a:Option Addr) (l:List Tm):Prop:=l.length<=9223372036854775807/\(l=[]∨∃b o,a=some (zD b o)/\DN w X b o l)
def TV (w:World) (X:Nat->Prop) (v:Value) (t:Tm):Prop:=∃a c,v=.agg (zG t a c)/\Sl w X a t.args
theorem U8 {w w':World} {X:Nat->Prop} (h:∀b,X b->w'.heap[b]? = w.heap[b]?) (l:List Tm):∀b o,DN w X b o l->DN w' X b o l:=by
 induction l using Tm.indL with
 |h0=>intro b o _; simp[DN]
 |h s l r e f=>
  intro b o d;simp only[DN] at d ⊢;obtain⟨hx,h1,⟨a,c,h2,g,h3⟩,i⟩:=d;refine⟨hx,by rw[DC (h b hx)]; exact h1,⟨a,c,by rw[DC (h b hx)]; exact h2,g,?_⟩,f _ _ i⟩;rcases h3 with h3|⟨b',o',h3,h5⟩
  ·exact Ad h3
  ·exact Ae ⟨b',o',h3,e _ _ h5⟩
theorem U9 {w:World} {X Y:Nat->Prop} (h:∀b,X b->b<w.heap.size->Y b) (l:List Tm):∀b o,DN w X b o l->DN w Y b o l:=by
 induction l using Tm.indL with
 |h0=>intro b o _; simp[DN]
 |h s l r f g=>
  intro b o d;simp only[DN] at d ⊢;obtain⟨hx,h1,⟨a,c,h2,i,h3⟩,j⟩:=d;have hb:b<w.heap.size:=by
   apply El;intro hn;have e:w.heap[b]? = none:=Ij (by omega);simp[World.cell?,e]at h1
  refine⟨h b hx hb,h1,⟨a,c,h2,i,?_⟩,g _ _ j⟩;rcases h3 with h3|⟨b',o',h3,h5⟩
  ·exact Ad h3
  ·exact Ae ⟨b',o',h3,f _ _ h5⟩
theorem Sl.kept {w w':World} {X:Nat->Prop} {a:Option Addr} {l:List Tm} (h:Sl w X a l) (hk:∀b,X b->w'.heap[b]? = w.heap[b]?):Sl w' X a l:=by
 obtain⟨c,h⟩:=h;refine⟨c,?_⟩;rcases h with h|⟨b,o,e,h⟩
 ·exact Ad h
 ·exact Ae ⟨b,o,e,U8 hk _ _ _ h⟩
theorem Sl.mono {w:World} {X Y:Nat->Prop} {a:Option Addr} {l:List Tm} (h:Sl w X a l) (hk:∀b,X b->b<w.heap.size->Y b):Sl w Y a l:=by
 obtain⟨c,h⟩:=h;refine⟨c,?_⟩;rcases h with h|⟨b,o,e,h⟩
 ·exact Ad h
 ·exact Ae ⟨b,o,e,U9 hk _ _ _ h⟩
theorem Sl.below {w w':World} {X:Nat->Prop} {a:Option Addr} {l:List Tm} {B:Nat} (h:Sl w X a l) (hb:Below B w w') (c:∀b,X b->b<w.heap.size->b<B):Sl w' X a l:=by
 have h1:Sl w (λb=>X b/\b<B) a l:=h.mono λb hx d=>⟨hx,c b hx d⟩;have h2:Sl w' (λb=>X b/\b<B) a l:=h1.kept λb hx=>hb.block b hx.2;exact h2.mono λb hx _=>hx.1
theorem TV.kept {w w':World} {X:Nat->Prop} {v:Value} {t:Tm} (h:TV w X v t) (hk:∀b,X b->w'.heap[b]? = w.heap[b]?):TV w' X v t:=by
 obtain⟨a,c,e,h⟩:=h;exact⟨a,c,e,h.kept hk⟩
theorem TV.mono {w:World} {X Y:Nat->Prop} {v:Value} {t:Tm} (h:TV w X v t) (hk:∀b,X b->b<w.heap.size->Y b):TV w Y v t:=by
 obtain⟨a,c,e,h⟩:=h;exact⟨a,c,e,h.mono hk⟩
theorem TV.below {w w':World} {X:Nat->Prop} {v:Value} {t:Tm} {B:Nat} (h:TV w X v t) (hb:Below B w w') (d:∀b,X b->b<w.heap.size->b<B):TV w' X v t:=by
 obtain⟨a,c,e,h⟩:=h;exact⟨a,c,e,h.below hb d⟩
theorem TV.alloc {w:World} {X:Nat->Prop} {v:Value} {t:Tm} (h:TV w X v t) (o:Obj):TV (w.alloc o) X v t:=
 h.below ((Ac _ _).alloc (Ag _) o) (λ_ _ h=>h)
theorem TV.later {w w':World} {X:Nat->Prop} {v:Value} {t:Tm} (h:TV w X v t) (hb:Below w.heap.size w w'):TV w' X v t:=h.below hb (λ_ _ h=>h)
theorem Sl.later {w w':World} {X:Nat->Prop} {a:Option Addr} {l:List Tm} (h:Sl w X a l) (hb:Below w.heap.size w w'):Sl w' X a l:=h.below hb (λ_ _ h=>h)
theorem KO {w:World} {X:Nat->Prop}:∀(l:List Tm) (b o:Nat),DN w X b o l->∀i (h:i<l.length),
  X b/\w.cell? ⟨b,o+i*2,none⟩=some (.string l[i].name)/\∃a c,w.cell? ⟨b,o+i*2+1,none⟩=some (.slice a l[i].args.length c)/\Sl w X a l[i].args:=by
 intro l;induction l with
 |nil=>intro b o _ i h; simp at h
 |cons t r e=>
  intro b o d i h;obtain⟨s,k⟩:=t;simp only[DN] at d;obtain⟨hx,h1,⟨a,c,h2,h3⟩,f⟩:=d;cases i with
  |zero=>exact⟨hx,h1,a,c,h2,h3⟩
  |succ i=>have:=e b (o+2) f i (by simpa using h);simp only[Fg];rw[show o+(i+1)*2=o+2+i*2 by omega];exact this
theorem Sl.get {w wr:World} {X:Nat->Prop} {a:Option Addr} {l:List Tm} {B:Nat} (h:Sl w X a l) (hb:Below B w wr) (d:∀b,X b->b<w.heap.size->b<B) (k:Nat) (hk:k<l.length):
  ∃b o c c',a=some (zD b o)/\wr.cell? ⟨b,o+k*2,none⟩=some (.string l[k].name)/\wr.cell? ⟨b,o+k*2+1,none⟩=some (.slice c l[k].args.length c')/\TV wr X (.agg (zG l[k] c c')) l[k]:=by
 have h':=h.below hb d;obtain⟨_,h1⟩:=h';rcases h1 with h1|⟨b,o,e,h1⟩
 ·subst h1; simp at hk
 ·obtain⟨_,h2,c,c',h3,f⟩:=KO _ _ _ h1 k hk;exact⟨b,o,c,c',e,h2,h3,c,c',rfl,f⟩
structure Ty where
 base:Int
 subs:List Ty
abbrev zH (t:Ty) (a:Option Addr) (c:Nat):Array Value:=#[zA t.base,.slice a t.subs.length c]
theorem Ty.ind {P:Ty->Prop} (h:∀x l,(∀y∈l,P y)->P ⟨x,l⟩) (t:Ty):P t:=
 Ty.rec (motive_1:=P) (motive_2:=λl=>∀x∈l,P x) (λx l b=>h x l b) (λx hx=>by cases hx)
  (λa l c d x hx=>by
   rcases Cn.1 hx with e|e
   ·subst e; exact c
   ·exact d x e) t
theorem Ty.indL {P:List Ty->Prop} (h0:P []) (h:∀x l r,P l->P r->P (⟨x,l⟩::r)) (l:List Ty):P l:=
 Ty.rec_1 (motive_1:=λt=>P t.subs) (motive_2:=P) (λ_ _ b=>b) h0 (λa l c d=>by obtain⟨x,m⟩:=a; exact h x m l c d) l
def Bo:List Ty->Nat
 | []=>0
 | ⟨_,l⟩::r=>1+Bo l+Bo r
theorem OC (a b:List Ty):Bo (a++b)=Bo a+Bo b:=by
 induction a with
 |nil=>simp[Bo]
 |cons t r c=>obtain⟨x,l⟩:=t; simp only[Di,Bo,c]; omega
theorem OD (l:List Ty) (k:Nat) (h:k<l.length):Bo (l.take (k+1))=Bo (l.take k)+Bo [l[k]]:=by
 rw[CB h,OC]
theorem OG (l:List Ty) (k:Nat):Bo (l.take k)<=Bo l:=by
 have h:=OC (l.take k) (l.drop k);rw[Fu]at h;omega
def Dy (w:World) (X:Nat->Prop):Nat->Nat->List Ty->Prop
 |_,_,[]=>True
 |b,o,⟨x,l⟩::r=>X b/\w.cell? (zD b o)=some (zA x)/\
   (∃a c,w.cell? ⟨b,o+1,none⟩=some (.slice a l.length c)/\l.length<=9223372036854775807/\(l=[]∨∃b' o',a=some (zD b' o')/\Dy w X b' o' l))/\Dy w X b (o+2) r
def AM (w:World) (X:Nat->Prop) (a:Option Addr) (l:List Ty):Prop:=l.length<=9223372036854775807/\(l=[]∨∃b o,a=some (zD b o)/\Dy w X b o l)
def YV (w:World) (X:Nat->Prop) (v:Value) (t:Ty):Prop:=∃a c,v=.agg (zH t a c)/\AM w X a t.subs
theorem Va {w w':World} {X:Nat->Prop} (h:∀b,X b->w'.heap[b]? = w.heap[b]?) (l:List Ty):∀b o,Dy w X b o l->Dy w' X b o l:=by
 induction l using Ty.indL with
 |h0=>intro b o _; simp[Dy]
 |h x l r e f=>
  intro b o d;simp only[Dy] at d ⊢;obtain⟨hx,h1,⟨a,c,h2,g,h3⟩,i⟩:=d;refine⟨hx,by rw[DC (h b hx)]; exact h1,⟨a,c,by rw[DC (h b hx)]; exact h2,g,?_⟩,f _ _ i⟩;rcases h3 with h3|⟨b',o',h3,h5⟩
  ·exact Ad h3
  ·exact Ae ⟨b',o',h3,e _ _ h5⟩
theorem Vb {w:World} {X Y:Nat->Prop} (h:∀b,X b->b<w.heap.size->Y b) (l:List Ty):∀b o,Dy w X b o l->Dy w Y b o l:=by
 induction l using Ty.indL with
 |h0=>intro b o _; simp[Dy]
 |h x l r f g=>
  intro b o d;simp only[Dy] at d ⊢;obtain⟨hx,h1,⟨a,c,h2,i,h3⟩,j⟩:=d;have hb:b<w.heap.size:=by
   apply El;intro hn;have e:w.heap[b]? = none:=Ij (by omega);simp[World.cell?,e]at h1
  refine⟨h b hx hb,h1,⟨a,c,h2,i,?_⟩,g _ _ j⟩;rcases h3 with h3|⟨b',o',h3,h5⟩
  ·exact Ad h3
  ·exact Ae ⟨b',o',h3,f _ _ h5⟩
theorem AM.kept {w w':World} {X:Nat->Prop} {a:Option Addr} {l:List Ty} (h:AM w X a l) (hk:∀b,X b->w'.heap[b]? = w.heap[b]?):AM w' X a l:=by
 obtain⟨c,h⟩:=h;refine⟨c,?_⟩;rcases h with h|⟨b,o,e,h⟩
 ·exact Ad h
 ·exact Ae ⟨b,o,e,Va hk _ _ _ h⟩
theorem AM.mono {w:World} {X Y:Nat->Prop} {a:Option Addr} {l:List Ty} (h:AM w X a l) (hk:∀b,X b->b<w.heap.size->Y b):AM w Y a l:=by
 obtain⟨c,h⟩:=h;refine⟨c,?_⟩;rcases h with h|⟨b,o,e,h⟩
 ·exact Ad h
 ·exact Ae ⟨b,o,e,Vb hk _ _ _ h⟩
theorem AM.below {w w':World} {X:Nat->Prop} {a:Option Addr} {l:List Ty} {B:Nat} (h:AM w X a l) (hb:Below B w w') (c:∀b,X b->b<w.heap.size->b<B):AM w' X a l:=by
 have h1:AM w (λb=>X b/\b<B) a l:=h.mono λb hx d=>⟨hx,c b hx d⟩;have h2:AM w' (λb=>X b/\b<B) a l:=h1.kept λb hx=>hb.block b hx.2;exact h2.mono λb hx _=>hx.1
theorem YV.kept {w w':World} {X:Nat->Prop} {v:Value} {t:Ty} (h:YV w X v t) (hk:∀b,X b->w'.heap[b]? = w.heap[b]?):YV w' X v t:=by
 obtain⟨a,c,e,h⟩:=h;exact⟨a,c,e,h.kept hk⟩
theorem YV.mono {w:World} {X Y:Nat->Prop} {v:Value} {t:Ty} (h:YV w X v t) (hk:∀b,X b->b<w.heap.size->Y b):YV w Y v t:=by
 obtain⟨a,c,e,h⟩:=h;exact⟨a,c,e,h.mono hk⟩
theorem YV.below {w w':World} {X:Nat->Prop} {v:Value} {t:Ty} {B:Nat} (h:YV w X v t) (hb:Below B w w') (d:∀b,X b->b<w.heap.size->b<B):YV w' X v t:=by
 obtain⟨a,c,e,h⟩:=h;exact⟨a,c,e,h.below hb d⟩
theorem YV.alloc {w:World} {X:Nat->Prop} {v:Value} {t:Ty} (h:YV w X v t) (o:Obj):YV (w.alloc o) X v t:=
 h.below ((Ac _ _).alloc (Ag _) o) (λ_ _ h=>h)
theorem YV.later {w w':World} {X:Nat->Prop} {v:Value} {t:Ty} (h:YV w X v t) (hb:Below w.heap.size w w'):YV w' X v t:=h.below hb (λ_ _ h=>h)
theorem AM.later {w w':World} {X:Nat->Prop} {a:Option Addr} {l:List Ty} (h:AM w X a l) (hb:Below w.heap.size w w'):AM w' X a l:=h.below hb (λ_ _ h=>h)
theorem JP {w:World} {X:Nat->Prop}:∀(l:List Ty) (b o:Nat),Dy w X b o l->∀i (h:i<l.length),
  X b/\w.cell? ⟨b,o+i*2,none⟩=some (zA l[i].base)/\∃a c,w.cell? ⟨b,o+i*2+1,none⟩=some (.slice a l[i].subs.length c)/\AM w X a l[i].subs:=by
 intro l;induction l with
 |nil=>intro b o _ i h; simp at h
 |cons t r e=>
  intro b o d i h;obtain⟨x,k⟩:=t;simp only[Dy] at d;obtain⟨hx,h1,⟨a,c,h2,h3⟩,f⟩:=d;cases i with
  |zero=>exact⟨hx,h1,a,c,h2,h3⟩
  |succ i=>have:=e b (o+2) f i (by simpa using h);simp only[Fg];rw[show o+(i+1)*2=o+2+i*2 by omega];exact this
theorem AM.get {w wr:World} {X:Nat->Prop} {a:Option Addr} {l:List Ty} {B:Nat} (h:AM w X a l) (hb:Below B w wr) (d:∀b,X b->b<w.heap.size->b<B) (k:Nat) (hk:k<l.length):
  ∃b o c c',a=some (zD b o)/\wr.cell? ⟨b,o+k*2,none⟩=some (zA l[k].base)/\wr.cell? ⟨b,o+k*2+1,none⟩=some (.slice c l[k].subs.length c')/\YV wr X (.agg (zH l[k] c c')) l[k]:=by
 have h':=h.below hb d;obtain⟨_,h1⟩:=h';rcases h1 with h1|⟨b,o,e,h1⟩
 ·subst h1; simp at hk
 ·obtain⟨_,h2,c,c',h3,f⟩:=JP _ _ _ h1 k hk;exact⟨b,o,c,c',e,h2,h3,c,c',rfl,f⟩
theorem KU {W w1:World} {B:Nat} (hb:Below B W w1):(∀b o,b<B->w1.cell? (zD b o)=W.cell? (zD b o))/\(∀b o,b<B->w1.frozen? (zD b o)=W.frozen? (zD b o)):=
 ⟨λb o h=>hb.cell (p:=(zD b o)) h,λb o h=>hb.frozen (p:=(zD b o)) h⟩
theorem Ht (l:List Tm) (k:Nat) (h:k<l.length):Ah (l.take (k+1))=Ah (l.take k)+Ah [l[k]]:=by
 rw[CB h,FW]
theorem IZ (l:List Tm) (k:Nat):Ah (l.take k)<=Ah l:=by
 have:=FW (l.take k) (l.drop k);rw[Fu]at this;omega
theorem AF {k:IntKind} {a b:Int} (h:a=b):Ending.returned (.int k a)=.returned (.int k b):=by rw[h]
theorem Fw {w wr:World} {o:Obj} (hb:Below (w.heap.size+1) (w.alloc o) wr):Below w.heap.size w wr:=
 ((Ac _ _).alloc (Ag _) _).trans (hb.mono (Nat.le_succ _))
theorem Vc (t:Tm):∀(v:Value) (most:Int) (w:World) (X:Nat->Prop),TV w X v t->0<=most->most<=1000000->
  Calls prog 66 #[v,zA most] w λe w'=>e=.returned (zA (min (Ah [t]) (most+1)))/\Below w.heap.size w w':=by
 induction t using Tm.ind with
 |h s l g=>
  intro v most w X q ah ai;obtain⟨a,c,rfl,j⟩:=q;have r:=Aa g;clear g;go_enter func66,ntmps66;go_wp2_with fail;go_loopw [5,6] (λn i wr=>∃k:Nat,k<=l.length/\i=zA k/\n=zA (min (1+Ah (l.take k)) (most+1))/\Below (w.heap.size+1) (w.alloc (Obj.cells #[Value.string s,Value.slice a l.length c] 61)) wr) (λn i wr=>l.length-(intOf i).toNat);case atStart=>exact⟨0,Bm _,rfl,by simp[Ah]; omega,Ac _ _⟩
  case round=>
   obtain⟨k,hk,rfl,rfl,hb⟩:=hrel;have hc:=KU hb;have c0:wr.cell? (zD w.heap.size 0)=some (.string s):=by rw[hc.1 _ _ (by omega)]; simp
   have c1:wr.cell? (zD w.heap.size 1)=some (.slice a l.length c):=by rw[hc.1 _ _ (by omega)]; simp
   have hl:=j.1;have hn:0<=((1:Int)+Ah (l.take k)):=(by omega);by_cases d:k<l.length
   ·obtain⟨b,o,a',c',rfl,d0,d1,hx⟩:=j.get (((Ac _ _).alloc (Ag _) _).trans (hb.mono (Nat.le_succ _))) (λ_ _ h=>h) k d;by_cases hle:1+(Ah (l.take k):Int)<=most
    ·have f:min (1+(Ah (l.take k):Int)) (most+1)=1+(Ah (l.take k):Int):=(by omega);rw[f];go_wp2_with fail;refine(r.o _ (Bu d) _ _ _ X hx (by omega) (by omega)).mono ?_;rintro e w1 ⟨rfl,u⟩;have x:w.heap.size+1<=wr.heap.size:=by have:=hb.size; simpa using this
     have y:=Aa (Ht l k d);have aj:0<=min ((Ah [l[k]]:Int)) (most-(1+(Ah (l.take k):Int))+1):=(by omega);have ak:min ((Ah [l[k]]:Int)) (most-(1+(Ah (l.take k):Int))+1)<=1000001:=(by omega);go_wp2_with fail;go_roundw
     case rel=>exact⟨k+1,by omega,by go_num,by rw[y.o]; congr 1; omega,hb.trans (u.mono x)⟩
     case measure=>simp[intOf]; omega
    ·have f:min (1+(Ah (l.take k):Int)) (most+1)=most+1:=(by omega);rw[f];have hz:(Ah [(⟨s,l⟩:Tm)]:Int)=1+Ah l:=(by simp[Ah]);have af:Ah (l.take k)<=Ah l:=IZ l k;have z:=Aa (show(most+1:Int)=min (Ah [(⟨s,l⟩:Tm)]:Int) (most+1) by omega);clear hz;go_wp2_with fail;go_ret;exact⟨AF z.o,Fw hb⟩
   ·have A:l.take k=l:=Bv (by omega);rw[A];have hz:(Ah [(⟨s,l⟩:Tm)]:Int)=1+Ah l:=(by simp[Ah]);have m:=Aa hz;clear hz;go_wp2_with fail
    ·go_ret;exact⟨AF (by have:=m.o; omega),Fw hb⟩
    ·go_ret;exact⟨AF (by have:=m.o; omega),Fw hb⟩
def MT (n:Int):Bool:=decide (48<=n)&&decide (n<=57)
def Hu (n:Int):Bool:=decide (65<=n)&&decide (n<=90)
def OH (n:Int):Bool:=decide (97<=n)&&decide (n<=122)
def OI (n:Int):Bool:=OH n||Hu n
def OJ (n:Int):Bool:=OI n||MT n
theorem Ef {a b:Bool} (h:a=b):Ending.returned (.bool a)=.returned (.bool b):=by rw[h]
theorem Vd (n:Int) (w:World):Calls prog 124 #[.int .u8 n] w λe w'=>e=.returned (.bool (Hu n))/\w'=w:=by
 go_enter func124,ntmps124;go_wp2_with fail;all_goals (go_ret; refine⟨Ef ?_,rfl⟩; rw[Bool.eq_iff_iff]; simp[OJ,OI,OH,Hu,MT]<;>omega)
def Hv (s:ByteArray) (i:Nat):Int:=if h:i<s.size then (s[i].toNat:Int) else 0
theorem OK {s:ByteArray} {i:Nat} (h:i<s.size):(s[i].toNat:Int)=Hv s i:=by simp[Hv,h]
def Av (s:ByteArray):Bool:=Hu (Hv s 0)
def Ve (s:ByteArray) (k:Nat):Bool:=(List.range k).all λi=>OJ (Hv s i)
def ET (s:ByteArray):Bool:=decide (1<=s.size)&&decide (s.size<=8)&&!MT (Hv s 0)&&Ve s s.size
theorem OL {s:ByteArray} (h:0<s.size):s.toList.isEmpty=false:=by
 rw[GH,List.isEmpty_eq_false_iff,<-GI];simpa using h
theorem OM {s:ByteArray} (h:¬0<s.size):s.toList.isEmpty=true:=by
 rw[GH,List.isEmpty_iff,<-GJ];have:s.size=0:=by omega
 simpa using this
theorem GN (s:ByteArray) (w:World):Calls prog 46 #[.string s] w λe w'=>e=.returned (.bool (Av s))/\w'=w:=by
 by_cases h:0<s.size
 ·have hb:=Aa (OK h);have he:=OL h;go_enter func46,ntmps46;go_wp2_with fail;all_goals (go_ret; refine⟨Ef ?_,rfl⟩; have aa:=hb.o; rw[Bool.eq_iff_iff]; simp[Av,Hu]<;>omega)
 ·have he:=OM h;have a:Hid (false=Av s):=by simp[Hid,Av,Hv,h,Hu]
  go_enter func46,ntmps46;go_wp2_with fail;go_ret;exact⟨Ef a.o,rfl⟩
theorem DO (s:ByteArray) (w:World):Calls prog 109 #[.string s] w λe w'=>e=.returned (.bool (Av s))/\w'=w:=by
 by_cases h:0<s.size
 ·have hb:=Aa (OK h);have he:=OL h;go_enter func109,ntmps109;go_wp2_with (go_at_call 124; refine(Vd _ _).mono ?_; rintro e w' ⟨rfl,rfl⟩);go_ret;refine⟨Ef ?_,rfl⟩;rw[hb.o]; rfl
 ·have he:=OM h;have a:Hid (false=Av s):=by simp[Hid,Av,Hv,h,Hu]
  go_enter func109,ntmps109;go_wp2_with fail;go_ret;exact⟨Ef a.o,rfl⟩
def As:List Tm->Int
 | []=>0
 | ⟨s,l⟩::r=>if ET s=true then (if (Av s&&decide (0<l.length))=true then 2 else if As l=0 then As r else As l) else 1
theorem MU (t:Tm) (r:List Tm):As (t::r)=if As [t]=0 then As r else As [t]:=by
 obtain⟨s,l⟩:=t;simp only[As];split
 ·split
  ·simp
  ·split<;>simp_all
 ·simp
def Fx (t:Tm):Int:=if 200<Ah [t] then 3 else As [t]
def BL (w:World) (X:Nat->Prop):List Tm->List Value->Prop
 | [],xs=>xs=[]
 |t::l,xs=>∃a c r,xs=.string t.name::.slice a t.args.length c::r/\Sl w X a t.args/\BL w X l r
theorem BL.len {w:World} {X:Nat->Prop}:∀ {l:List Tm} {xs:List Value},BL w X l xs->xs.length=l.length*2
 | [],xs,h=>by simp[BL] at h; simp[h]
 |t::l,xs,h=>by
  obtain⟨a,c,r,rfl,_,h⟩:=h;simp only[Cg];rw[BL.len h]; omega
theorem BL.append {w:World} {X:Nat->Prop}:∀ {l k:List Tm} {xs b:List Value},BL w X l xs->BL w X k b->BL w X (l++k) (xs++b)
 | [],k,xs,b,h,h'=>by simp[BL] at h; subst h; simpa using h'
 |t::l,k,xs,b,h,h'=>by
  obtain⟨a,c,r,rfl,d,h⟩:=h;exact⟨a,c,r++b,rfl,d,BL.append h h'⟩
theorem BL.one {w:World} {X:Nat->Prop}:∀ {l:List Tm} {xs:List Value},BL w X l xs->∀u∈xs,u.oneCell'=true
 | [],xs,h,u,hu=>by simp[BL] at h; subst h; cases hu
 |t::l,xs,h,u,hu=>by
  obtain⟨a,c,r,rfl,_,h⟩:=h;rcases Cn.1 hu with e|hu
  ·subst e; rfl
  ·rcases Cn.1 hu with e|hu
   ·subst e; rfl
   ·exact BL.one h u hu
theorem BL.imp {w w':World} {X Y:Nat->Prop} (b:∀a l,Sl w X a l->Sl w' Y a l):∀ {l:List Tm} {xs:List Value},BL w X l xs->BL w' Y l xs
 | [],xs,h=>h
 |t::l,xs,h=>by
  obtain⟨a,c,r,e,h1,h⟩:=h;exact⟨a,c,r,e,b _ _ h1,BL.imp b h⟩
theorem BL.get {w:World} {X:Nat->Prop}:∀ {l:List Tm} {xs:List Value},BL w X l xs->∀i (h:i<l.length),
  xs[i*2]? = some (.string l[i].name)/\∃a c,xs[i*2+1]? = some (.slice a l[i].args.length c)/\Sl w X a l[i].args
 | [],xs,h,i,hi=>by simp at hi
 |t::l,xs,h,i,hi=>by
  obtain⟨a,c,r,rfl,h1,h⟩:=h;cases i with
  |zero=>exact⟨rfl,a,c,rfl,h1⟩
  |succ i=>have:=BL.get h i (by simpa using hi);rw[show(i+1)*2=i*2+2 by omega,show i*2+2+1=(i*2+1)+2 by omega];simpa using this
theorem Hw (l:List Tm):l.length<=Ah l:=by
 induction l with
 |nil=>simp
 |cons t r ih=>obtain⟨s,k⟩:=t; simp only[Cg,Ah]; omega
theorem ON {w:World} {X:Nat->Prop}:∀(l:List Tm) (b o:Nat),DN w X b o l->∃xs,BL w X l xs/\∀j u,xs[j]? = some u->w.cell? ⟨b,o+j,none⟩=some u:=by
 intro l;induction l with
 |nil=>intro b o _; exact⟨[],rfl,by simp⟩
 |cons t r e=>
  intro b o h;obtain⟨s,k⟩:=t;simp only[DN] at h;obtain⟨hx,h1,⟨a,c,h2,h3,f⟩,h5⟩:=h;obtain⟨xs,g,hc⟩:=e b (o+2) h5;refine⟨.string s::.slice a k.length c::xs,⟨a,c,xs,rfl,⟨h3,f⟩,g⟩,λj u d=>?_⟩;match j,d with
  |0,d=>simp at d; subst d; exact h1
  |1,d=>simp at d; subst d; exact h2
  |j+2,d=>rw[show o+(j+2)=o+2+j by omega]; exact hc j u (by simpa using d)
theorem OO {w w':World} {X Y:Nat->Prop} (b:Nat) (hb:Y b):∀(l:List Tm) (xs:List Value) (o:Nat),BL w X l xs->(∀a k,Sl w X a k->Sl w' Y a k)->(∀j u,xs[j]? = some u->w'.cell? ⟨b,o+j,none⟩=some u)->DN w' Y b o l:=by
 intro l;induction l with
 |nil=>intro xs o _ _ _; simp[DN]
 |cons t r e=>intro xs o h d hc;obtain⟨s,k⟩:=t;obtain⟨a,c,f,rfl,h1,h2⟩:=h;simp only[DN];obtain⟨h3,g⟩:=d _ _ h1;refine⟨hb,hc 0 _ rfl,⟨a,c,hc 1 _ rfl,h3,g⟩,e f (o+2) h2 d λj u i=>?_⟩;have:=hc (j+2) u (by simpa using i);rwa [show o+(j+2)=o+2+j by omega] at this
def Aw:List Tm->List Tm
 | []=>[]
 | ⟨s,l⟩::r=>⟨s,l⟩::(Aw l++Aw r)
theorem KW (a b:List Tm):Aw (a++b)=Aw a++Aw b:=by
 induction a with
 |nil=>simp[Aw]
 |cons t r c=>obtain⟨s,l⟩:=t; simp[Aw,c]
theorem OP (l:List Tm) (k:Nat) (h:k<l.length):Aw (l.take (k+1))=Aw (l.take k)++Aw [l[k]]:=by
 rw[CB h,KW]
theorem JQ (l:List Tm):(Aw l).length=Ah l:=by
 induction l using Tm.indL with
 |h0=>simp[Aw,Ah]
 |h s l r a b=>simp[Aw,Ah,a,b]; omega
theorem Sl.back {w w':World} {X:Nat->Prop} {a:Option Addr} {l:List Tm} {B:Nat} (h:Sl w' X a l) (hb:Below B w w') (c:∀b,X b->b<B):Sl w X a l:=
 h.kept λb hx=>(hb.block b (c b hx)).symm
theorem EU {w:World} {base e size:Nat} {v:Value} {n:Nat} {xs:List Value} (h:w.ownsRow base e size v n xs) (hn:0<n):
  ∃g cap,v=.slice (some (zD g 0)) n cap/\base<=g/\g<w.heap.size/\∀j u,xs[j]? = some u->w.cell? (zD g j)=some u:=by
 have h':=h;obtain⟨hl,h1⟩:=h;rcases h1 with ⟨_,h0⟩|⟨g,cap,cur,a,b,hh,_⟩
 ·omega
 ·subst a;have c:=(h'.lt g rfl).2;refine⟨g,cap,rfl,b,c,λj u d=>?_⟩;have:=h'.cells (g:=g) rfl j u d;by_cases h0:j=0
  ·subst h0; simpa [Addr.add] using this
  ·simpa [Addr.add,h0] using this
theorem Io {P:Program} {ops:Array Oper} {rest:List Oper} {o:Oper} {a:Act} {Q:Exit->Act->World->Prop} {w w':World} {v u b:Value} (d:o.guard=none) (s x:Operand) (t c:TypeId)
  (ho:o.op=.call { callee:=.builtin .append,args:=#[s,x],argTypes:=#[t,c]}) (e:a.eval s=v) (hx:a.eval x=u)
  (f:(Builtin.append_ #[t,c] o.type #[v,u]).run P w=.ok b w') (h:wpList P ops Q rest (a.put o.dst b) w'):wpList P ops Q (o::rest) a w:=
 wpList_plain d λK g=>by
  unfold Oper.wp execOp;simp only[ho,resolve,invoke,builtin,Sem.run_bind,Sem.run_pure,Result.andThen_ok,List.map_toArray,Cu,Hm,e,hx,f];exact g _ _ h
theorem Tryz.infoTerm:(prog.info? 61).map (λi=>(i.zero,i.size,i.bytes))=some (some (.agg #[.string ByteArray.empty,zB]),2,40):=by kernel_rfl
theorem Vf {w:World} {base a e size:Nat} {v:Value} {n:Nat} {xs:List Value} (h:w.ownsRow base e size v n xs) (hb:a<=base):w.ownsRow a e size v n xs:=by
 obtain⟨h0,h1⟩:=h;refine⟨h0,?_⟩;rcases h1 with h1|⟨g,cap,cur,b,c,r⟩
 ·exact Ad h1
 ·exact Ae ⟨g,cap,cur,b,AN hb c,r⟩
theorem Vg (t:Tm):∀(v:Value) (w:World) (X:Nat->Prop),TV w X v t->Ah [t]<=1000000->
  Calls prog 51 #[v] w λe w'=>∃B xs,e=.returned B/\w'.ownsRow w.heap.size 61 2 B (Ah [t]) xs/\BL w X (Aw [t]) xs/\Below w.heap.size w w':=by
 induction t using Tm.ind with
 |h s l C=>
  intro v w m D R;obtain⟨X,T,U,V⟩:∃X:Nat->Prop,(∀b,X b->b<w.heap.size)/\(∀b,X b->m b)/\TV w X v ⟨s,l⟩:=⟨λb=>m b/\b<w.heap.size,λ_ h=>h.2,λ_ h=>h.1,D.mono λb h1 h2=>⟨h1,h2⟩⟩;clear D;obtain⟨a,c,rfl,r⟩:=V;have W:=Aa C;clear C;have hl:=r.1;have hz:Ah [(⟨s,l⟩:Tm)]=1+Ah l:=by simp[Ah]
  rw[hz]at R ⊢;clear hz;obtain⟨i0,hi,Y,Z,aB⟩:=Dq Tryz.infoTerm;go_enter func51,ntmps51;go_wp2_with fail;go_loopw [3,4] (λv i wr=>∃(k:Nat) (xs:List Value),k<=l.length/\i=zA k/\wr.ownsRow (w.heap.size+1) 61 2 v (1+Ah (l.take k)) xs/\BL w X (⟨s,l⟩::Aw (l.take k)) xs/\Below (w.heap.size+1) (w.alloc (Obj.cells #[Value.string s,Value.slice a l.length c] 61)) wr) (λv i wr=>l.length-(intOf i).toNat);case atStart=>
   refine⟨0,[.string s,.slice a l.length c],Bm _,rfl,⟨by simp[Ah],Ae ⟨w.heap.size+1,1,#[.string s,.slice a l.length c],by simp[Ah],Ag _,?_,by simp[Ah],by decide,by simp,by simp[Ah]⟩⟩,⟨a,c,[],rfl,r,by simp[Aw,BL]⟩,(Ac _ _).alloc (by simp) _⟩;have:=Ik (w.alloc (Obj.cells #[Value.string s,Value.slice a l.length c] 61)) (Obj.cells #[Value.string s,Value.slice a l.length c] 61);simpa using this
  case round=>
   obtain⟨k,xs,hk,rfl,n,E,hb⟩:=hrel;have F:=Aa E;clear E;have hc:=KU hb;have c0:wr.cell? (zD w.heap.size 0)=some (.string s):=by rw[hc.1 _ _ (by omega)]; simp
   have c1:wr.cell? (zD w.heap.size 1)=some (.slice a l.length c):=by rw[hc.1 _ _ (by omega)]; simp
   clear hc;have aC:w.heap.size+1<=wr.heap.size:=by have:=hb.size; simpa using this
   by_cases q:k<l.length
   ·obtain⟨b,o,a',c',rfl,d0,d1,hx⟩:=r.get (Fw hb) (λ_ _ h=>h) k q;have G:=Aa (Ht l k q);have hle:=IZ l (k+1);have aD:Ah (l.take k)+Ah [l[k]]<=Ah l:=by rw[<-G.o]; exact hle
    have au:0<Ah [l[k]]:=by generalize l[k]=t; obtain⟨s',l'⟩:=t; simp[Ah]; omega
    clear hle;go_wp2_with fail;refine(W.o _ (Bu q) _ _ X hx (by omega)).mono ?_;rintro e w1 ⟨v1,f,rfl,y,al,d⟩;have H:Hid (BL w X (Aw [l[k]]) f):=al.imp λa l h=>h.back (Fw hb) T;have an:=Aa y.1;have ai:=Aa (EU y au);obtain⟨g1,av,rfl,aI,aE,I⟩:=ai.o;have z:w1.ownsRow (w.heap.size+1) 61 2 _ (1+Ah (l.take k)) xs:=n.kept (w':=w1) (row:=none) ⟨d.os,d.tape,d.output,d.size,λj g _=>d.block j g⟩ (by rcases IV (Value.ownBlock _) with h|⟨x,h⟩; exact Ad h; exact Ae (by rw[h]; simp));have J:f.length=Ah [l[k]]*2:=an.o;obtain⟨v2,w2,L,M,N,ar⟩:=run_append_own (P:=prog) w1 (w.heap.size+1) 59 59 61 i0 _ 2 40 underlying59 hi Y Z aB rfl (by decide) _ _ xs z
     (zD g1 0) (Ah [l[k]]) av f J (λj u g=>by
      have:=I j u g;by_cases h0:j=0
      ·subst h0; simpa [Addr.add] using this
      ·simpa [Addr.add,h0] using this) H.o.one (by unfold maxLen; omega) (by omega) (by have:=d.size; omega)
    clear ar;have aF:Hid (Below (w.heap.size+1) (w.alloc (Obj.cells #[Value.string s,Value.slice (some (zD b o)) l.length c] 61)) w2):=
     (hb.trans (d.mono aC)).grown N (by have:=d.size; omega) (λj g=>(z.lt j g).1)
    have aG:Hid (BL w X (⟨s,l⟩::Aw (l.take (k+1))) (xs++f)):=Aa (by have:=F.o.append H.o;rw[OP l k q];simpa using this);have A:=Aa M;clear y z M N I J;have HA:=Aa L;clear L;go_wp2_with (at_builtin; refine Io rfl _ _ _ _ rfl rfl rfl HA.o ?_);go_roundw
    case rel=>exact⟨k+1,xs++f,by omega,by go_num,by have:=A.o; rw[G.o,<-Nat.add_assoc]; exact this,aG.o,aF.o⟩
    case measure=>simp[intOf]; omega
   ·have O:l.take k=l:=Bv (by omega);rw[O]at n;have A:=Aa n;have aH:Hid (BL w m (Aw [(⟨s,l⟩:Tm)]) xs):=Aa (by have:=F.o;rw[O]at this;have h2:BL w m (⟨s,l⟩::Aw l) xs:=this.imp λa l h=>h.mono λb hb _=>U b hb;simpa [Aw] using h2);clear n;go_wp2_with fail;go_ret;exact⟨_,xs,rfl,Vf A.o (by omega),aH.o,Fw hb⟩
def K0 (t x:Tm):Int:=if Fx t=0 then Fx x else Fx t
def PV (w:World) (X:Nat->Prop) (v:Value) (zs:List Int):Prop:=
 ∃a c,v=.slice a zs.length c/\(zs.length<=9223372036854775807/\zs.length<=c)/\(zs=[]∨∃b o,a=some (zD b o)/\X b/\∀i (h:i<zs.length),w.cell? ⟨b,o+i,none⟩=some (zA zs[i]))
theorem PV.kept {w w':World} {X:Nat->Prop} {v:Value} {d:List Int} (h:PV w X v d) (hk:∀b,X b->w'.heap[b]? = w.heap[b]?):PV w' X v d:=by
 obtain⟨a,c,e,f,h⟩:=h;refine⟨a,c,e,f,?_⟩;rcases h with h|⟨b,o,e,hx,h⟩
 ·exact Ad h
 ·exact Ae ⟨b,o,e,hx,λi hi=>by rw[DC (hk b hx)]; exact h i hi⟩
theorem PV.mono {w:World} {X Y:Nat->Prop} {v:Value} {d:List Int} (h:PV w X v d) (hk:∀b,X b->b<w.heap.size->Y b):PV w Y v d:=by
 obtain⟨a,c,e,f,h⟩:=h;refine⟨a,c,e,f,?_⟩;rcases h with h|⟨b,o,e,hx,h⟩
 ·exact Ad h
 ·by_cases h0:d=[]
  ·exact Ad h0
  ·have hp:0<d.length:=GI.2 h0;exact Ae ⟨b,o,e,hk b hx (World.block_lt_of_cell? w _ (h 0 hp)),h⟩
theorem PV.below {w w':World} {X:Nat->Prop} {v:Value} {a:List Int} {B:Nat} (h:PV w X v a) (hb:Below B w w') (c:∀b,X b->b<w.heap.size->b<B):PV w' X v a:=by
 have h1:PV w (λb=>X b/\b<B) v a:=h.mono λb hx d=>⟨hx,c b hx d⟩;have h2:PV w' (λb=>X b/\b<B) v a:=h1.kept λb hx=>hb.block b hx.2;exact h2.mono λb hx _=>hx.1
theorem PV.later {w w':World} {X:Nat->Prop} {v:Value} {a:List Int} (h:PV w X v a) (hb:Below w.heap.size w w'):PV w' X v a:=h.below hb (λ_ _ h=>h)
theorem PV.alloc {w:World} {X:Nat->Prop} {v:Value} {a:List Int} (h:PV w X v a) (o:Obj):PV (w.alloc o) X v a:=h.later ((Ac _ _).alloc (Ag _) o)
theorem EC {w:World} (a b:Obj):Below w.heap.size w ((w.alloc a).alloc b):=((Ac _ _).alloc (Ag _) _).alloc (by simp) _
theorem PV.tail {w:World} {X:Nat->Prop} {b o c:Nat} {z:Int} {a:List Int} (hl:a.length+1<=9223372036854775807/\a.length+1<=c) (hx:X b) (h:∀i (h:i<(z::a).length),w.cell? ⟨b,o+i,none⟩=some (zA (z::a)[i])):
  PV w X (.slice (some ⟨b,o+1,none⟩) a.length (c-1)) a:=by
 refine⟨_,_,rfl,by omega,Ae ⟨b,o+1,rfl,hx,λi hi=>?_⟩⟩;have:=h (i+1) (by simpa using hi);rw[show o+1+i=o+(i+1) by omega];simpa using this
theorem TV.back {w w':World} {X:Nat->Prop} {v:Value} {t:Tm} {B:Nat} (h:TV w' X v t) (hb:Below B w w') (d:∀b,X b->b<B):TV w X v t:=by
 obtain⟨a,c,e,h⟩:=h;exact⟨a,c,e,h.back hb d⟩
theorem OQ {w w1:World} {n:Nat} {b c d e f g:Addr} {v1 v2 v3 v4 v5 v6:Value} (hb:Below (w.drewN n).heap.size (w.drewN n) w1)
  (h:w.cell? b=some v1/\w.cell? c=some v2/\w.cell? d=some v3/\w.cell? e=some v4/\w.cell? f=some v5/\w.cell? g=some v6):
  w1.cell? b=some v1/\w1.cell? c=some v2/\w1.cell? d=some v3/\w1.cell? e=some v4/\w1.cell? f=some v5/\w1.cell? g=some v6:=by
 have a:Below w.heap.size w w1:=(below_drewN (Ac _ _) n).trans (hb.mono (by simp));exact⟨cell_later a h.1,cell_later a h.2.1,cell_later a h.2.2.1,cell_later a h.2.2.2.1,cell_later a h.2.2.2.2.1,cell_later a h.2.2.2.2.2⟩
theorem OR (t:Ty):∀(v:Value) (most:Int) (w:World) (X:Nat->Prop),YV w X v t->0<=most->most<=1000000->
  Calls prog 21 #[v,zA most] w λe w'=>e=.returned (zA (min (Bo [t]) (most+1)))/\Below w.heap.size w w':=by
 induction t using Ty.ind with
 |h d l j=>
  intro v most w X r ah ai;obtain⟨a,c,rfl,m⟩:=r;have s:=Aa j;clear j;go_enter func21,ntmps21;go_wp2_with fail;go_loopw [5,6] (λn i wr=>∃k:Nat,k<=l.length/\i=zA k/\n=zA (min (1+Bo (l.take k)) (most+1))/\Below (w.heap.size+1) (w.alloc (Obj.cells #[Value.int .i64 d,Value.slice a l.length c] 27)) wr) (λn i wr=>l.length-(intOf i).toNat);case atStart=>exact⟨0,Bm _,rfl,by simp[Bo]; omega,Ac _ _⟩
  case round=>
   obtain⟨k,hk,rfl,rfl,hb⟩:=hrel;have hc:=KU hb;have c0:wr.cell? (zD w.heap.size 0)=some (zA d):=by rw[hc.1 _ _ (by omega)]; simp
   have c1:wr.cell? (zD w.heap.size 1)=some (.slice a l.length c):=by rw[hc.1 _ _ (by omega)]; simp
   have hl:=m.1;have hn:0<=((1:Int)+Bo (l.take k)):=(by omega);by_cases f:k<l.length
   ·obtain⟨b,o,a',c',rfl,d0,d1,hx⟩:=m.get (((Ac _ _).alloc (Ag _) _).trans (hb.mono (Nat.le_succ _))) (λ_ _ h=>h) k f;by_cases hle:1+(Bo (l.take k):Int)<=most
    ·have g:min (1+(Bo (l.take k):Int)) (most+1)=1+(Bo (l.take k):Int):=(by omega);rw[g];go_wp2_with fail;refine(s.o _ (Bu f) _ _ _ X hx (by omega) (by omega)).mono ?_;rintro e w1 ⟨rfl,u⟩;have x:w.heap.size+1<=wr.heap.size:=by have:=hb.size; simpa using this
     have y:=Aa (OD l k f);have aj:0<=min ((Bo [l[k]]:Int)) (most-(1+(Bo (l.take k):Int))+1):=(by omega);have ak:min ((Bo [l[k]]:Int)) (most-(1+(Bo (l.take k):Int))+1)<=1000001:=(by omega);go_wp2_with fail;go_roundw
     case rel=>exact⟨k+1,by omega,by go_num,by rw[y.o]; congr 1; omega,hb.trans (u.mono x)⟩
     case measure=>simp[intOf]; omega
    ·have g:min (1+(Bo (l.take k):Int)) (most+1)=most+1:=(by omega);rw[g];have hz:(Bo [(⟨d,l⟩:Ty)]:Int)=1+Bo l:=(by simp[Bo]);have af:Bo (l.take k)<=Bo l:=OG l k;have z:=Aa (show(most+1:Int)=min (Bo [(⟨d,l⟩:Ty)]:Int) (most+1) by omega);clear hz;go_wp2_with fail;go_ret;exact⟨AF z.o,Fw hb⟩
   ·have A:l.take k=l:=Bv (by omega);rw[A];have hz:(Bo [(⟨d,l⟩:Ty)]:Int)=1+Bo l:=(by simp[Bo]);have q:=Aa hz;clear hz;go_wp2_with fail
    ·go_ret;exact⟨AF (by have:=q.o; omega),Fw hb⟩
    ·go_ret;exact⟨AF (by have:=q.o; omega),Fw hb⟩
theorem Vh (t:Ty) (v:Value) (w:World) (X:Nat->Prop) (b:YV w X v t):
  Calls prog 6 #[v] w λe w'=>e=.returned (.bool (decide (3000<Bo [t])))/\Below w.heap.size w w':=by
 obtain⟨a,c,rfl,f⟩:=b;have b:YV w X (.agg (zH t a c)) t:=⟨a,c,rfl,f⟩;go_enter func6,ntmps6;go_wp2_with fail;refine(OR t _ _ _ X (b.alloc _) (by omega) (by omega)).mono ?_;rintro e w1 ⟨rfl,d⟩;by_cases h:3000<Bo [t]
 ·have e:min (Bo [t]:Int) (3000+1)=3001:=by omega
  rw[e];go_wp2_with fail;go_ret;exact⟨by simp[h],((Ac _ _).alloc (Ag _) _).trans (d.mono (by simp))⟩
 ·have e:min (Bo [t]:Int) (3000+1)=Bo [t]:=by omega
  rw[e];go_wp2_with fail;go_ret;exact⟨by simp[h]<;>omega,((Ac _ _).alloc (Ag _) _).trans (d.mono (by simp))⟩
theorem OS (b:Int) (a:Option Addr) (n c:Nat) (w:World):
  Calls prog 69 #[.agg #[zA b,.slice a n c]] w λe w'=>e=.returned (.slice a n c)/\w'=w.alloc (.cells #[zA b,.slice a n c] 27):=by
 go_enter func69,ntmps69;go_wp2_with fail;go_ret;exact⟨rfl,rfl⟩
theorem Vi (M:Int) (ai:0<=M) (aj:M<=1000000) (t:Ty):∀(v:Value) (n:Int) (w:World) (X:Nat->Prop),YV w X v t->0<=n->n<=M->
  Calls prog 82 #[v,.func (.func 69) #[] #[],zA M,zA n] w λe w'=>e=.returned (zA (min (n+Bo [t]) (M+1)))/\Below w.heap.size w w':=by
 induction t using Ty.ind with
 |h d l j=>
  intro v n w X r ak al;obtain⟨a,c,rfl,q⟩:=r;have s:=Aa j;clear j;have hz:Hid ((Bo [(⟨d,l⟩:Ty)]:Int)=1+Bo l):=by simp[Hid,Bo]
  go_enter func82,ntmps82;go_wp2_with (go_at_call 69; refine(OS _ _ _ _ _).mono ?_; rintro e w' ⟨rfl,rfl⟩);have u:Hid (Below w.heap.size w ((w.alloc (Obj.cells #[Value.int .i64 d,Value.slice a l.length c] 27)).alloc (Obj.cells #[Value.int .i64 d,Value.slice a l.length c] 27))):=((Ac _ _).alloc (Ag _) _).alloc (by simp) _;have an:Hid (w.heap.size+2<=((w.alloc (Obj.cells #[Value.int .i64 d,Value.slice a l.length c] 27)).alloc (Obj.cells #[Value.int .i64 d,Value.slice a l.length c] 27)).heap.size):=by simp[Hid]
  generalize ((w.alloc (Obj.cells #[Value.int .i64 d,Value.slice a l.length c] 27)).alloc (Obj.cells #[Value.int .i64 d,Value.slice a l.length c] 27))=w0 at *;go_loopw [9,18] (λm i wr=>∃k:Nat,k<=l.length/\i=zA k/\m=zA (min (n+1+Bo (l.take k)) (M+1))/\Below w.heap.size w wr) (λm i wr=>l.length-(intOf i).toNat);case atStart=>exact⟨0,Bm _,rfl,by rw[show Bo (l.take 0)=0 by simp[Bo]]; congr 1; omega,u.o⟩
  case round=>
   obtain⟨k,hk,rfl,rfl,hb⟩:=hrel;have hl:=q.1;have x:w.heap.size<=wr.heap.size:=hb.size;by_cases f:k<l.length
   ·obtain⟨b,o,a',c',rfl,d0,d1,hx⟩:=q.get hb (λ_ _ h=>h) k f;by_cases hle:n+1+(Bo (l.take k):Int)<=M
    ·have g:min (n+1+(Bo (l.take k):Int)) (M+1)=n+1+(Bo (l.take k):Int):=(by omega);rw[g];go_wp2_with fail;refine(s.o _ (Bu f) _ _ _ X (hx.alloc _) (by omega) (by omega)).mono ?_;rintro e w1 ⟨rfl,y⟩;have z:=Aa (OD l k f);go_wp2_with fail;go_roundw
     case rel=>exact⟨k+1,by omega,by go_num,by rw[z.o]; congr 1; omega,(hb.alloc x _).trans (y.mono (by simp; omega))⟩
     case measure=>simp[intOf]; omega
    ·have g:min (n+1+(Bo (l.take k):Int)) (M+1)=M+1:=(by omega);rw[g];have ag:Bo (l.take k)<=Bo l:=OG l k;go_wp2_with fail;go_ret;refine⟨AF (by have:=hz.o; omega),?_⟩;exact hb.alloc (by omega) _
   ·have A:l.take k=l:=Bv (by omega);rw[A];go_wp2_with fail;go_ret;exact⟨AF (by have:=hz.o; omega),hb⟩
theorem Vj (M:Int) (d:0<=M) (f:M<=1000000) (t:Ty) (v:Value) (w:World) (X:Nat->Prop) (b:YV w X v t):
  Calls prog 68 #[v,.func (.func 69) #[] #[],zA M] w λe w'=>e=.returned (zA (min (Bo [t]:Int) (M+1)))/\Below w.heap.size w w':=by
 obtain⟨a,c,rfl,g⟩:=b;have b:YV w X (.agg (zH t a c)) t:=⟨a,c,rfl,g⟩;go_enter func68,ntmps68;go_wp2_with fail;refine(Vi M d f t _ _ _ X (b.alloc _) (by omega) (by omega)).mono ?_;rintro e w1 ⟨rfl,h⟩;go_wp2_with fail;go_ret;exact⟨AF (by omega),((Ac _ _).alloc (Ag _) _).trans (h.mono (by simp))⟩
def Ab (w:World) (b:Nat) (cs:Array Value) (T:Nat):Prop:=w.heap[b]? = some (.cells cs T (0,0))
theorem Ab.lt {w:World} {b:Nat} {cs:Array Value} {T:Nat} (h:Ab w b cs T):b<w.heap.size:=by
 apply El;intro hn;have e:w.heap[b]? = none:=Ij (by omega);rw[Ab,e]at h; cases h
theorem Ab.cell {w:World} {b:Nat} {cs:Array Value} {T:Nat} (h:Ab w b cs T) (i:Nat):w.cell? (zD b i)=cs[i]? := by
 unfold Ab at h; simp[World.cell?,h]
theorem Ab.c0 {w:World} {b:Nat} {v:Value} {l:List Value} {T:Nat} (h:Ab w b (List.toArray (v::l)) T):w.cell? (zD b 0)=some v:=h.cell 0
theorem Ab.c1 {w:World} {b:Nat} {v0 v:Value} {l:List Value} {T:Nat} (h:Ab w b (List.toArray (v0::v::l)) T):w.cell? (zD b 1)=some v:=h.cell 1
theorem Ab.c2 {w:World} {b:Nat} {v0 v1 v:Value} {l:List Value} {T:Nat} (h:Ab w b (List.toArray (v0::v1::v::l)) T):w.cell? (zD b 2)=some v:=h.cell 2
theorem Ab.c3 {w:World} {b:Nat} {v0 v1 v2 v:Value} {l:List Value} {T:Nat} (h:Ab w b (List.toArray (v0::v1::v2::v::l)) T):w.cell? (zD b 3)=some v:=h.cell 3
theorem Ab.frozen {w:World} {b:Nat} {cs:Array Value} {T:Nat} (h:Ab w b cs T) (i:Nat):w.frozen? (zD b i)=false:=by
 unfold Ab at h; simp[World.frozen?,h]
theorem Ab.new (w:World) (cs:Array Value) (T:Nat):Ab (w.alloc (.cells cs T)) w.heap.size cs T:=Ik w _
theorem Ab.alloc {w:World} {b:Nat} {cs:Array Value} {T:Nat} (h:Ab w b cs T) (o:Obj):Ab (w.alloc o) b cs T:=by
 unfold Ab at *; rw[BH w o b (Ab.lt h)]; exact h
theorem Ab.below {w w':World} {b B:Nat} {cs:Array Value} {T:Nat} (h:Ab w b cs T) (hb:Below B w w') (a:b<B):Ab w' b cs T:=by
 unfold Ab at *; rw[hb.block b a]; exact h
theorem Ab.drewN {w:World} {b:Nat} {cs:Array Value} {T:Nat} (h:Ab w b cs T) (n:Nat):Ab (w.drewN n) b cs T:=h
theorem Ab.grown {w w':World} {b:Nat} {cs:Array Value} {T:Nat} {row:Option Nat} (h:Ab w b cs T) (a:w.grownBy w' row) (c:some b≠row):Ab w' b cs T:=by
 unfold Ab at *; rw[a.block b (Ab.lt h) c]; exact h
theorem Ab.set {w:World} {b:Nat} {cs:Array Value} {T:Nat} (h:Ab w b cs T) (i:Nat) (v:Value):Ab (w.setCell (zD b i) v) b (cs.setIfInBounds i v) T:=by
 unfold Ab at *;simp[World.setCell,Array.getElem?_modify,h]
theorem Ab.setOther {w:World} {b b':Nat} {cs:Array Value} {T:Nat} (h:Ab w b cs T) (i:Nat) (v:Value) (a:b≠b'):Ab (w.setCell (zD b' i) v) b cs T:=by
 unfold Ab at *; rw[Al _ _ _ _ (by simpa using a)]; exact h
structure Cj (w:World) (N:Nat) (T:Nat) (Y:Nat->Prop) (v:Value) (l:List Tm) (xs:List Value):Prop where
 own:w.ownsRow N T 2 v l.length xs
 row:BL w (λb=>Y b∨(N<=b/\some b≠v.ownBlock)) l xs
theorem Cj.start (w:World) (N T:Nat) (Y:Nat->Prop):Cj w N T Y zB [] []:=⟨Hn w N T 2,rfl⟩
theorem Cj.below {w w':World} {N T:Nat} {Y:Nat->Prop} {v:Value} {l:List Tm} {xs:List Value} (h:Cj w N T Y v l xs) (hb:Below w.heap.size w w'):Cj w' N T Y v l xs:=
 ⟨h.own.kept (w' := w') (row := none) ⟨hb.os, hb.tape, hb.output, hb.size, λj b _ => hb.block j b⟩ (by rcases IV (Value.ownBlock v) with h | ⟨x, h⟩; exact Ad h; exact Ae (by rw [h]; simp)),
  h.row.imp λa l h=>h.later hb⟩
theorem Cj.ne {w:World} {N T:Nat} {Y:Nat->Prop} {v:Value} {l:List Tm} {xs:List Value} (h:Cj w N T Y v l xs) {b:Nat} (hb:b<N):some b≠v.ownBlock:=λe=>by
 have:=(h.own.lt b e.symm).1; omega
theorem Cj.push {w w1 w2 w3:World} {N T:Nat} {Y:Nat->Prop} {v:Value} {l:List Tm} {xs:List Value} (h:Cj w N T Y v l xs) (hN:N<=w.heap.size) (k:∀b,Y b->b<N) (hb:Below w.heap.size w w1) {s:ByteArray} {a:Option Addr} {n c:Nat} {t:Tm}
  (ht:TV w1 (λb=>Y b∨w.heap.size<=b) (.agg #[.string s,.slice a n c]) t) (o:Obj) (u:w2=w1.alloc o) {g cap:Nat}
  (x:w3.ownsRow N T 2 (.slice (some (zD g 0)) (l.length+1) cap) (l.length+1) (xs++[.string s,.slice a n c])) (m:w2.grownBy w3 v.ownBlock) (d:v.ownBlock=some g∨g=w2.heap.size):
  Cj w3 N T Y (.slice (some (zD g 0)) (l.length+1) cap) (l++[t]) (xs++[.string s,.slice a n c]):=by
 subst u;have f:=h.own.lt;refine⟨by simpa using x,?_⟩;have ae:w1.heap.size<=(w1.alloc o).heap.size:=by simp
 have af:=hb.size;have ag:N<=g:=by
  rcases d with e|e
  ·exact(f g e).1
  ·simp at e; omega
 refine BL.append (h.row.imp λq r i=>?_) ?_
 ·have h1:Sl w (λb=>(Y b∨(N<=b/\some b≠v.ownBlock))/\b<w.heap.size) q r:=i.mono λb h1 h2=>⟨h1,h2⟩;have h2:Sl w3 (λb=>(Y b∨(N<=b/\some b≠v.ownBlock))/\b<w.heap.size) q r:=h1.kept λb hx=>by
   have j:some b≠v.ownBlock:=by
    rcases hx.1 with hy|hy
    ·exact h.ne (k b hy)
    ·exact hy.2
   rw[m.block b (by simp; omega) j,BH _ _ _ (by omega),hb.block b hx.2]
  refine h2.mono λb hx _=>?_;rcases hx.1 with hy|hy
  ·exact Ad hy
  ·refine Ae ⟨hy.1,λe=>?_⟩;simp[Value.ownBlock]at e;rcases d with e'|e'
   ·exact hy.2 (by rw[e',e])
   ·simp at e'; omega
 ·obtain⟨a2,c2,e,i⟩:=ht;simp at e;obtain⟨rfl,rfl,rfl,rfl⟩:=e;refine⟨a,c,[],rfl,?_,rfl⟩;have h1:Sl w1 (λb=>(Y b∨w.heap.size<=b)/\b<w1.heap.size) a t.args:=i.mono λb h1 h2=>⟨h1,h2⟩;have h2:Sl w3 (λb=>(Y b∨w.heap.size<=b)/\b<w1.heap.size) a t.args:=h1.kept λb hx=>by
   have j:some b≠v.ownBlock:=by
    rcases hx.1 with hy|hy
    ·exact h.ne (k b hy)
    ·intro e; have:=(f b e.symm).2; omega
   rw[m.block b (by simp; omega) j,BH _ _ _ hx.2]
  refine h2.mono λb hx _=>?_;rcases hx.1 with hy|hy
  ·exact Ad hy
  ·refine Ae ⟨by omega,λe=>?_⟩;simp[Value.ownBlock]at e;rcases d with e'|e'
   ·have:=(f g e').2; omega
   ·simp at e'; omega
theorem Cj.setCell {w:World} {N T:Nat} {Y:Nat->Prop} {v:Value} {l:List Tm} {xs:List Value} (h:Cj w N T Y v l xs) {b i:Nat} (hb:b<N) (d:¬Y b) (u:Value):Cj (w.setCell (zD b i) u) N T Y v l xs:=
 ⟨ownsRow_setCell_below h.own (by simpa using hb) u, h.row.imp λa k f => f.kept λc hc => Al _ _ _ _ (by
  simp;rcases hc with hc|hc
  ·intro e; subst e; exact d hc
  ·omega)⟩
theorem Cj.sl {w:World} {N T:Nat} {Y:Nat->Prop} {v:Value} {l:List Tm} {xs:List Value} (h:Cj w N T Y v l xs):∃a c,v=.slice a l.length c/\Sl w (λb=>Y b∨N<=b) a l:=by
 have d:l.length<=9223372036854775807:=by
  rcases h.own.2 with ⟨_,h0⟩|⟨g,cap,cur,_,_,_,h1,h2,_⟩
  ·omega
  ·unfold maxLen at h2; omega
 by_cases h0:0<l.length
 ·obtain⟨g,cap,rfl,i,hlt,hc⟩:=EU h.own h0;exact⟨_,_,rfl,d,Ae ⟨g,0,rfl,OO g (Ae i) l xs 0 h.row (λa k m=>m.mono λb hb _=>hb.imp id (λh=>h.1)) (λj u n=>by simpa using hc j u n)⟩⟩
 ·have e:l=[]:=GJ.1 (by omega);subst e;rcases h.own.2 with ⟨f,_⟩|⟨g,cap,cur,f,_⟩
  ·exact⟨none,0,f,d,Ad rfl⟩
  ·exact⟨_,_,f,d,Ad rfl⟩
def CR (x:Int) (n:Nat):Int:=if n≠0/\(n≠2∨x≠0) then 2 else if x<0∨999<x then 10 else 0
def AP:List Ty->Int
 | []=>0
 | ⟨x,l⟩::r=>if CR x l.length=0 then (if AP l=0 then AP r else AP l) else CR x l.length
theorem MW (t:Ty) (r:List Ty):AP (t::r)=if AP [t]=0 then AP r else AP [t]:=by
 obtain⟨x,l⟩:=t;simp only[AP];split
 ·split<;>simp_all
 ·simp_all
theorem OT (a b:List Ty):AP (a++b)=if AP a=0 then AP b else AP a:=by
 induction a with
 |nil=>simp[AP]
 |cons t r c=>rw[Di,MW,MW t r,c];by_cases h:AP [t]=0<;>simp[h]
theorem Lc (l:List Ty) (k:Nat) (h:k<l.length):AP (l.take (k+1))=if AP (l.take k)=0 then AP [l[k]] else AP (l.take k):=by
 rw[CB h,OT]
theorem Ld {l:List Ty} {k:Nat} (h:AP (l.take k)≠0):AP l=AP (l.take k):=by
 have:=OT (l.take k) (l.drop k);rw[Fu,Am h]at this;exact this
theorem JR {a:Int} {l:List Ty} (h:CR a l.length=0):AP [⟨a,l⟩]=AP l:=by
 simp only[AP,h,if_true];by_cases h0:AP l=0<;>simp[h0]
theorem GO {a:Int} {l:List Ty} (h:CR a l.length≠0):AP [⟨a,l⟩]=CR a l.length:=by
 simp[AP,h]
def CJ (t:Ty):Int:=if 200<Bo [t] then 3 else AP [t]
theorem Vk {x:Int} {l:List Ty} (h:AP [⟨x,l⟩]=0):(l=[]/\0<=x/\x<=999)∨(x=0/\∃a b,l=[a,b]/\AP [a]=0/\AP [b]=0):=by
 have hk:CR x l.length=0:=(by apply El;intro f;rw[GO f]at h;exact f h);rw[JR hk]at h;unfold CR at hk;split at hk
 ·simp at hk
 rename_i h1;split at hk
 ·simp at hk
 rename_i h2;match l,h1,h with
 | [],_,_=>exact Ad ⟨rfl,by omega,by omega⟩
 | [a],h1,_=>exact absurd h1 (by simp)
 | [a,b],h1,h=>
  rw[MW]at h;have hx:x=0:=by
   apply El;intro f;exact h1 ⟨by simp,Ae f⟩
  by_cases e:AP [a]=0
  ·rw[Aq e]at h;exact Ae ⟨hx,a,b,rfl,e,h⟩
  ·rw[Am e]at h;exact absurd h e
 |a::b::c::d,h1,_=>exact absurd h1 (by simp)
def Lh (l:List Ty) (w:World) (o:Value) (wr:World):Prop:=∃k:Nat,k<=l.length/\o=zA k/\AP (l.take k)=0/\Below w.heap.size w wr
theorem Vl (t:Ty):∀(v:Value) (w:World) (X:Nat->Prop),YV w X v t->
  Calls prog 22 #[v] w λe w'=>e=.returned (zA (AP [t]))/\Below w.heap.size w w':=by
 induction t using Ty.ind with
 |h d l D=>
  intro v w X G;obtain⟨a,c,rfl,z⟩:=G;have E:=Aa D;clear D;have hl:=z.1;have r:Hid (Below w.heap.size w (w.alloc (.cells #[zA d,.slice a l.length c] 27))):=(Ac _ _).alloc (Ag _) _;have F:Hid (Ab (w.alloc (.cells #[zA d,.slice a l.length c] 27)) w.heap.size #[zA d,.slice a l.length c] 27):=Ab.new _ _ _;by_cases h0:l.length=0
  ·have s:=Aa h0;have f0:((l.length:Int) !=0)=false:=(by simp[h0]);have f2:((l.length:Int)==2)=false:=(by simp[h0]);clear h0;by_cases hi:d<0
   ·have f:Hid (CR d l.length=10):=Aa (by unfold CR;rw[s.o];simp[hi]);have g:Hid (AP [(⟨d,l⟩:Ty)]=10):=Aa (by rw[GO (by rw[f.o]; decide),f.o]);go_enter func22,ntmps22;go_wp2_with fail;go_ret;exact⟨AF g.o.symm,r.o⟩
   by_cases H:999<d
   ·have f:Hid (CR d l.length=10):=Aa (by unfold CR;rw[s.o];simp[H]);have g:Hid (AP [(⟨d,l⟩:Ty)]=10):=Aa (by rw[GO (by rw[f.o]; decide),f.o]);go_enter func22,ntmps22;go_wp2_with fail;go_ret;exact⟨AF g.o.symm,r.o⟩
   have f:Hid (CR d l.length=0):=Aa (by unfold CR;rw[s.o,Am (by simp),Am (by omega)]);have g:=Aa (JR f.o);go_enter func22,ntmps22;go_wp2_with fail;go_loopw [3] (λo wr=>Lh l w o wr/\Ab wr w.heap.size #[zA d,.slice a l.length c] 27) (λo wr=>l.length-(intOf o).toNat);case atStart=>exact⟨⟨0,Bm _,rfl,by simp[AP],r.o⟩,F.o⟩
   case round=>
    obtain⟨⟨k,hk,rfl,he,hb⟩,hT⟩:=hrel;have m:=Aa he;have u:=Aa hb;have x:=Aa hT;clear he;have A:w.heap.size<=wr.heap.size:=hb.size;have t0:=hT.c0;have t1:=hT.c1;by_cases n:k<l.length
    ·obtain⟨b,o,I,c',rfl,d0,d1,hx⟩:=z.get hb (λ_ _ h=>h) k n;have HT:=Aa (Lc l k n);have J:(k:Int)<(l.length:Int):=(by omega);clear hb hT;go_wp2_with fail;refine(E.o _ (Bu n) _ _ X hx).mono ?_;rintro e w2 ⟨rfl,q⟩;have y:Hid (Below w.heap.size w w2):=u.o.trans (q.mono A);have B:=Aa (x.o.below q x.o.lt);clear q;by_cases i:AP [l[k]]=0
     ·have j:=Aa i;rw[i];clear i;go_wp2_with fail;go_roundw
      case rel=>exact⟨⟨k+1,by omega,by go_num,by rw[HT.o,m.o,j.o]; rfl,y.o⟩,B.o⟩
      case measure=>simp[intOf]; omega
     ·have h1:(AP [l[k]]==0)=false:=(by simpa using i);have h2:(AP [l[k]] !=0)=true:=(by simpa using i);have j:Hid (AP [l[k]]=AP [(⟨d,l⟩:Ty)]):=by
       have h1:AP (l.take (k+1))=AP [l[k]]:=by rw[HT.o,m.o]; rfl
       unfold Hid;rw[g.o,Ld (l:=l) (k:=k+1) (by rw[h1]; exact i),h1]
      go_wp2_with fail;go_ret;exact⟨AF j.o,y.o⟩
    ·have C:l.take k=l:=Bv (by omega);have L:¬((k:Int)<(l.length:Int)):=(by omega);have j:Hid (0=AP [(⟨d,l⟩:Ty)]):=Aa (by rw[g.o,<-C,m.o]);go_wp2_with fail;go_ret;exact⟨AF j.o,u.o⟩
  by_cases h2:l.length=2
  ·have s:=Aa h2;have f0:((l.length:Int) !=0)=true:=(by simp[h2]);have f1:((l.length:Int) !=2)=false:=(by simp[h2]);have f2:((l.length:Int)==2)=true:=(by simp[h2]);clear h2 h0;by_cases hi:d=0
   ·subst hi;have f:Hid (CR 0 l.length=0):=Aa (by unfold CR;rw[s.o];simp);have g:=Aa (JR f.o);go_enter func22,ntmps22;go_wp2_with fail;go_loopw [3] (λo wr=>Lh l w o wr/\Ab wr w.heap.size #[zA 0,.slice a l.length c] 27) (λo wr=>l.length-(intOf o).toNat);case atStart=>exact⟨⟨0,Bm _,rfl,by simp[AP],r.o⟩,F.o⟩
    case round=>
     obtain⟨⟨k,hk,rfl,he,hb⟩,hT⟩:=hrel;have m:=Aa he;have u:=Aa hb;have x:=Aa hT;clear he;have A:w.heap.size<=wr.heap.size:=hb.size;have t0:=hT.c0;have t1:=hT.c1;by_cases n:k<l.length
     ·obtain⟨b,o,I,c',rfl,d0,d1,hx⟩:=z.get hb (λ_ _ h=>h) k n;have HT:=Aa (Lc l k n);have J:(k:Int)<(l.length:Int):=(by omega);clear hb hT;go_wp2_with fail;refine(E.o _ (Bu n) _ _ X hx).mono ?_;rintro e w2 ⟨rfl,q⟩;have y:Hid (Below w.heap.size w w2):=u.o.trans (q.mono A);have B:=Aa (x.o.below q x.o.lt);clear q;by_cases i:AP [l[k]]=0
      ·have j:=Aa i;rw[i];clear i;go_wp2_with fail;go_roundw
       case rel=>exact⟨⟨k+1,by omega,by go_num,by rw[HT.o,m.o,j.o]; rfl,y.o⟩,B.o⟩
       case measure=>simp[intOf]; omega
      ·have h1:(AP [l[k]]==0)=false:=(by simpa using i);have h2:(AP [l[k]] !=0)=true:=(by simpa using i);have j:Hid (AP [l[k]]=AP [(⟨0,l⟩:Ty)]):=by
        have h1:AP (l.take (k+1))=AP [l[k]]:=by rw[HT.o,m.o]; rfl
        unfold Hid;rw[g.o,Ld (l:=l) (k:=k+1) (by rw[h1]; exact i),h1]
       go_wp2_with fail;go_ret;exact⟨AF j.o,y.o⟩
     ·have C:l.take k=l:=Bv (by omega);have L:¬((k:Int)<(l.length:Int)):=(by omega);have j:Hid (0=AP [(⟨0,l⟩:Ty)]):=Aa (by rw[g.o,<-C,m.o]);go_wp2_with fail;go_ret;exact⟨AF j.o,u.o⟩
   ·have aq:(d !=0)=true:=(by simpa using hi);have f:Hid (CR d l.length=2):=Aa (by unfold CR;rw[s.o];simp[hi]);have g:Hid (AP [(⟨d,l⟩:Ty)]=2):=Aa (by rw[GO (by rw[f.o]; decide),f.o]);go_enter func22,ntmps22;go_wp2_with fail;go_ret;exact⟨AF g.o.symm,r.o⟩
  have f0:((l.length:Int) !=0)=true:=by simp; exact λh=>h0 (by simp[h])
  have f1:((l.length:Int) !=2)=true:=by simp; omega
  have f2:((l.length:Int)==2)=false:=by simp; omega
  have M:=Aa h0;have N:=Aa h2;clear h0 h2;have f:Hid (CR d l.length=2):=Aa (by unfold CR;rw[Aq ⟨M.o,Ad N.o⟩]);have g:Hid (AP [(⟨d,l⟩:Ty)]=2):=Aa (by rw[GO (by rw[f.o]; decide),f.o]);go_enter func22,ntmps22;go_wp2_with fail;go_ret;exact⟨AF g.o.symm,r.o⟩
theorem Vm (t:Ty):∀(v:Value) (w:World) (X:Nat->Prop),YV w X v t->
  Calls prog 70 #[v] w λe w'=>e=.returned (zA (AP [t]))/\Below w.heap.size w w':=by
 induction t using Ty.ind with
 |h d l D=>
  intro v w X G;obtain⟨a,c,rfl,z⟩:=G;have E:=Aa D;clear D;have hl:=z.1;have r:Hid (Below w.heap.size w (w.alloc (.cells #[zA d,.slice a l.length c] 27))):=(Ac _ _).alloc (Ag _) _;have F:Hid (Ab (w.alloc (.cells #[zA d,.slice a l.length c] 27)) w.heap.size #[zA d,.slice a l.length c] 27):=Ab.new _ _ _;by_cases h0:l.length=0
  ·have s:=Aa h0;have f0:((l.length:Int) !=0)=false:=(by simp[h0]);have f2:((l.length:Int)==2)=false:=(by simp[h0]);clear h0;by_cases hi:d<0
   ·have f:Hid (CR d l.length=10):=Aa (by unfold CR;rw[s.o];simp[hi]);have g:Hid (AP [(⟨d,l⟩:Ty)]=10):=Aa (by rw[GO (by rw[f.o]; decide),f.o]);go_enter func70,ntmps70;go_wp2_with fail;go_ret;exact⟨AF g.o.symm,r.o⟩
   by_cases H:999<d
   ·have f:Hid (CR d l.length=10):=Aa (by unfold CR;rw[s.o];simp[H]);have g:Hid (AP [(⟨d,l⟩:Ty)]=10):=Aa (by rw[GO (by rw[f.o]; decide),f.o]);go_enter func70,ntmps70;go_wp2_with fail;go_ret;exact⟨AF g.o.symm,r.o⟩
   have f:Hid (CR d l.length=0):=Aa (by unfold CR;rw[s.o,Am (by simp),Am (by omega)]);have g:=Aa (JR f.o);go_enter func70,ntmps70;go_wp2_with fail;go_loopw [32] (λo wr=>Lh l w o wr/\Ab wr w.heap.size #[zA d,.slice a l.length c] 27) (λo wr=>l.length-(intOf o).toNat);case atStart=>exact⟨⟨0,Bm _,rfl,by simp[AP],r.o⟩,F.o⟩
   case round=>
    obtain⟨⟨k,hk,rfl,he,hb⟩,hT⟩:=hrel;have m:=Aa he;have u:=Aa hb;have x:=Aa hT;clear he;have A:w.heap.size<=wr.heap.size:=hb.size;have t0:=hT.c0;have t1:=hT.c1;by_cases n:k<l.length
    ·obtain⟨b,o,I,c',rfl,d0,d1,hx⟩:=z.get hb (λ_ _ h=>h) k n;have HT:=Aa (Lc l k n);have J:(k:Int)<(l.length:Int):=(by omega);clear hb hT;go_wp2_with fail;refine(E.o _ (Bu n) _ _ X (hx.alloc _)).mono ?_;rintro e w2 ⟨rfl,q⟩;have y:Hid (Below w.heap.size w w2):=(u.o.alloc A _).trans (q.mono (by simp; omega));have B:=Aa ((x.o.alloc _).below q (x.o.alloc _).lt);clear q;by_cases i:AP [l[k]]=0
     ·have j:=Aa i;rw[i];clear i;go_wp2_with fail;go_roundw
      case rel=>exact⟨⟨k+1,by omega,by go_num,by rw[HT.o,m.o,j.o]; rfl,y.o⟩,B.o⟩
      case measure=>simp[intOf]; omega
     ·have h1:(AP [l[k]]==0)=false:=(by simpa using i);have h2:(AP [l[k]] !=0)=true:=(by simpa using i);have j:Hid (AP [l[k]]=AP [(⟨d,l⟩:Ty)]):=by
       have h1:AP (l.take (k+1))=AP [l[k]]:=by rw[HT.o,m.o]; rfl
       unfold Hid;rw[g.o,Ld (l:=l) (k:=k+1) (by rw[h1]; exact i),h1]
      go_wp2_with fail;go_ret;exact⟨AF j.o,y.o⟩
    ·have C:l.take k=l:=Bv (by omega);have L:¬((k:Int)<(l.length:Int)):=(by omega);have j:Hid (0=AP [(⟨d,l⟩:Ty)]):=Aa (by rw[g.o,<-C,m.o]);go_wp2_with fail;go_ret;exact⟨AF j.o,u.o⟩
  by_cases h2:l.length=2
  ·have s:=Aa h2;have f0:((l.length:Int) !=0)=true:=(by simp[h2]);have f1:((l.length:Int) !=2)=false:=(by simp[h2]);have f2:((l.length:Int)==2)=true:=(by simp[h2]);clear h2 h0;by_cases hi:d=0
   ·subst hi;have f:Hid (CR 0 l.length=0):=Aa (by unfold CR;rw[s.o];simp);have g:=Aa (JR f.o);go_enter func70,ntmps70;go_wp2_with fail;go_loopw [32] (λo wr=>Lh l w o wr/\Ab wr w.heap.size #[zA 0,.slice a l.length c] 27) (λo wr=>l.length-(intOf o).toNat);case atStart=>exact⟨⟨0,Bm _,rfl,by simp[AP],r.o⟩,F.o⟩
    case round=>
     obtain⟨⟨k,hk,rfl,he,hb⟩,hT⟩:=hrel;have m:=Aa he;have u:=Aa hb;have x:=Aa hT;clear he;have A:w.heap.size<=wr.heap.size:=hb.size;have t0:=hT.c0;have t1:=hT.c1;by_cases n:k<l.length
     ·obtain⟨b,o,I,c',rfl,d0,d1,hx⟩:=z.get hb (λ_ _ h=>h) k n;have HT:=Aa (Lc l k n);have J:(k:Int)<(l.length:Int):=(by omega);clear hb hT;go_wp2_with fail;refine(E.o _ (Bu n) _ _ X (hx.alloc _)).mono ?_;rintro e w2 ⟨rfl,q⟩;have y:Hid (Below w.heap.size w w2):=(u.o.alloc A _).trans (q.mono (by simp; omega));have B:=Aa ((x.o.alloc _).below q (x.o.alloc _).lt);clear q;by_cases i:AP [l[k]]=0
      ·have j:=Aa i;rw[i];clear i;go_wp2_with fail;go_roundw
       case rel=>exact⟨⟨k+1,by omega,by go_num,by rw[HT.o,m.o,j.o]; rfl,y.o⟩,B.o⟩
       case measure=>simp[intOf]; omega
      ·have h1:(AP [l[k]]==0)=false:=(by simpa using i);have h2:(AP [l[k]] !=0)=true:=(by simpa using i);have j:Hid (AP [l[k]]=AP [(⟨0,l⟩:Ty)]):=by
        have h1:AP (l.take (k+1))=AP [l[k]]:=by rw[HT.o,m.o]; rfl
        unfold Hid;rw[g.o,Ld (l:=l) (k:=k+1) (by rw[h1]; exact i),h1]
       go_wp2_with fail;go_ret;exact⟨AF j.o,y.o⟩
     ·have C:l.take k=l:=Bv (by omega);have L:¬((k:Int)<(l.length:Int)):=(by omega);have j:Hid (0=AP [(⟨0,l⟩:Ty)]):=Aa (by rw[g.o,<-C,m.o]);go_wp2_with fail;go_ret;exact⟨AF j.o,u.o⟩
   ·have aq:(d !=0)=true:=(by simpa using hi);have f:Hid (CR d l.length=2):=Aa (by unfold CR;rw[s.o];simp[hi]);have g:Hid (AP [(⟨d,l⟩:Ty)]=2):=Aa (by rw[GO (by rw[f.o]; decide),f.o]);go_enter func70,ntmps70;go_wp2_with fail;go_ret;exact⟨AF g.o.symm,r.o⟩
  have f0:((l.length:Int) !=0)=true:=by simp; exact λh=>h0 (by simp[h])
  have f1:((l.length:Int) !=2)=true:=by simp; omega
  have f2:((l.length:Int)==2)=false:=by simp; omega
  have M:=Aa h0;have N:=Aa h2;clear h0 h2;have f:Hid (CR d l.length=2):=Aa (by unfold CR;rw[Aq ⟨M.o,Ad N.o⟩]);have g:Hid (AP [(⟨d,l⟩:Ty)]=2):=Aa (by rw[GO (by rw[f.o]; decide),f.o]);go_enter func70,ntmps70;go_wp2_with fail;go_ret;exact⟨AF g.o.symm,r.o⟩
theorem Vn (t:Ty) (v:Value) (w:World) (X:Nat->Prop) (b:YV w X v t):
  Calls prog 7 #[v] w λe w'=>e=.returned (zA (CJ t))/\Below w.heap.size w w':=by
 obtain⟨a,c,rfl,k⟩:=b;have b:YV w X (.agg (zH t a c)) t:=⟨a,c,rfl,k⟩;have i:Hid (Below w.heap.size w (w.alloc (.cells (zH t a c) 27))):=(Ac _ _).alloc (Ag _) _;have f:=Ab.new w (zH t a c) 27;go_enter func7,ntmps7;go_wp2_with fail;refine(OR t _ _ _ X (b.alloc _) (by omega) (by omega)).mono ?_;rintro e w1 ⟨rfl,g⟩;have d:=Aa (i.o.trans (g.mono (by simp)));have j:=Aa (f.below g f.lt);have t0:=j.o.c0;have t1:=j.o.c1;clear g f i;by_cases h3:200<Bo [t]
 ·have h:Hid (CJ t=3):=Aa (by unfold CJ;rw[Aq h3]);have e:min (Bo [t]:Int) (200+1)=201:=by omega
  rw[e];go_wp2_with fail;go_ret;exact⟨AF h.o.symm,d.o⟩
 ·have h:Hid (CJ t=AP [t]):=Aa (by unfold CJ;rw[Am h3]);have e:min (Bo [t]:Int) (200+1)=Bo [t]:=by omega
  rw[e];have hle:¬(200:Int)<(Bo [t]:Int):=by omega
  go_wp2_with fail;refine(Vl t _ _ X (b.later d.o)).mono ?_;rintro e w2 ⟨rfl,l⟩;go_wp2_with fail;go_ret;exact⟨AF h.o.symm,d.o.trans (l.mono d.o.size)⟩
theorem OU (t:Ty) (v:Value) (w:World) (X:Nat->Prop) (b:YV w X v t):
  Calls prog 54 #[v] w λe w'=>e=.returned (zA (CJ t))/\Below w.heap.size w w':=by
 obtain⟨a,c,rfl,k⟩:=b;have b:YV w X (.agg (zH t a c)) t:=⟨a,c,rfl,k⟩;have i:Hid (Below w.heap.size w (w.alloc (.cells (zH t a c) 27))):=(Ac _ _).alloc (Ag _) _;have f:=Ab.new w (zH t a c) 27;go_enter func54,ntmps54;go_wp2_with fail;refine(Vj 200 (by omega) (by omega) t _ _ X (b.alloc _)).mono ?_;rintro e w1 ⟨rfl,g⟩;have d:=Aa (i.o.trans (g.mono (by simp)));have j:=Aa (f.below g f.lt);have t0:=j.o.c0;have t1:=j.o.c1;clear g f i;by_cases h3:200<Bo [t]
 ·have h:Hid (CJ t=3):=Aa (by unfold CJ;rw[Aq h3]);have e:min (Bo [t]:Int) (200+1)=201:=by omega
  rw[e];go_wp2_with fail;go_ret;exact⟨AF h.o.symm,d.o⟩
 ·have h:Hid (CJ t=AP [t]):=Aa (by unfold CJ;rw[Am h3]);have e:min (Bo [t]:Int) (200+1)=Bo [t]:=by omega
  rw[e];have hle:¬(200:Int)<(Bo [t]:Int):=by omega
  go_wp2_with fail;refine(Vm t _ _ X (b.later d.o)).mono ?_;rintro e w2 ⟨rfl,l⟩;go_wp2_with fail;go_ret;exact⟨AF h.o.symm,d.o.trans (l.mono d.o.size)⟩
def Ds:List Ty->List Ty->Bool
 | [],[]=>true
 | ⟨s,a⟩::r,t::ts=>((s==t.base)&&((a.length==t.subs.length)&&Ds a t.subs))&&Ds r ts
 |_,_=>false
def C8 (a b:Ty):Bool:=(a.base==b.base)&&((a.subs.length==b.subs.length)&&Ds a.subs b.subs)
theorem JS (x t:Ty) (r b:List Ty):Ds (x::r) (t::b)=(C8 x t&&Ds r b):=by obtain⟨s,a⟩:=x; simp only[Ds,C8]
theorem MX:∀(a b c d:List Ty),a.length=b.length->Ds (a++c) (b++d)=(Ds a b&&Ds c d)
 | [],[],c,d,_=>by simp[Ds]
 | [],_::_,_,_,h=>by simp at h
 |_::_,[],_,_,h=>by simp at h
 |x::r,t::e,c,d,h=>by rw[Di,Di,JS,JS,MX r e c d (by simpa using h),Bool.and_assoc]
theorem MY {l m:List Ty} {k:Nat} (h:k<l.length) (h2:k<m.length):Ds (l.take (k+1)) (m.take (k+1))=(Ds (l.take k) (m.take k)&&C8 l[k] m[k]):=by
 rw[CB h,CB h2,MX _ _ _ _ (by simp; omega),JS];simp[Ds]
theorem OV {l m:List Ty} {k:Nat} (h:k<l.length) (aa:l.length=m.length) (h0:C8 l[k] (m[k]'(by omega))=false):Ds l m=false:=by
 have e1:l=l.take (k+1)++l.drop (k+1):=(Fu _ _).symm;have e2:m=m.take (k+1)++m.drop (k+1):=(Fu _ _).symm;rw[e1,e2,MX _ _ _ _ (by simp; omega),MY h (by omega),h0];simp
def Vo (w:World) (l m:List Ty) (a a2:Option Addr) (c c2:Nat) (i:Value) (wr:World):Prop:=
 ∃(k:Nat),k<=l.length/\i=zA k/\Ds (l.take k) (m.take k)=true/\Below w.heap.size w wr/\wr.cell? (zD w.heap.size 1)=some (.slice a l.length c)/\wr.cell? (zD (w.heap.size+1) 1)=some (.slice a2 l.length c2)/\w.heap.size+2<=wr.heap.size
theorem Vp (t:Ty):∀(x:Ty) (v u:Value) (w:World) (X Y:Nat->Prop),YV w X v t->YV w Y u x->
  Calls prog 43 #[v,u] w λe w'=>e=.returned (.bool (C8 t x))/\Below w.heap.size w w':=by
 induction t using Ty.ind with
 |h s l L=>
  intro x v u w X Y V hu;obtain⟨s2,m⟩:=x;have W:=Aa L;clear L;obtain⟨a,c,rfl,M⟩:=V;obtain⟨a2,c2,rfl,N⟩:=hu;have hl:=M.1;have ar:=N.1;(try dsimp only[zG]);(try dsimp only[zH]);(try dsimp only[zE]);(try dsimp only);by_cases E:s=s2;case neg=>
   have r:(s==s2)=false:=Dr.2 E;have au:(s !=s2)=true:=(by simpa using E);have d:Hid (false=C8 ⟨s,l⟩ ⟨s2,m⟩):=Aa (by unfold C8;rw[r];rfl);go_enter func43,ntmps43;go_wp2_with fail;go_ret;exact⟨Ef d.o,EC _ _⟩
  case pos=>
   subst E;have r:(s==s)=true:=(by simp);by_cases hm:l.length=m.length
   ·have d:Hid (Ds l m=C8 ⟨s,l⟩ ⟨s,m⟩):=Aa (by unfold C8;simp[r,hm]);have A:=Aa hm;rw[<-hm];clear hm;go_enter func43,ntmps43;go_wp2_with fail;go_loopw [5] (λi wr=>Vo w l m a a2 c c2 i wr) (λi wr=>l.length-(intOf i).toNat);case atStart=>exact⟨0,Bm _,rfl,by simp[Ds],EC _ _,by simp,by simp,by simp⟩
    case round=>
     obtain⟨k,hk,rfl,hq,hb,Z,ao,av⟩:=hrel;have O:=Aa hq;clear hq;by_cases B:k<l.length
     ·obtain⟨b,o,F,c',rfl,d0,d1,hx⟩:=M.get hb (λ_ _ h=>h) k B;obtain⟨f,g,G,H,rfl,e0,e1,P⟩:=N.get hb (λ_ _ h=>h) k (by have:=A.o; omega);have ah:k<m.length:=by have:=A.o; omega
      have R:=Aa hx;have T:=Aa P;have U:=Aa hb;have C:=Aa (And.intro Z (And.intro ao (And.intro d0 (And.intro d1 (And.intro e0 e1)))));have D:=Aa (λ(w':World)=>W.o l[k] (Bu B) m[k] (.agg (zH l[k] F c')) (.agg (zH m[k] G H)) w' X Y);have HT:=Aa (MY B ah);have aq:=Aa (OV B A.o);clear hx P hb;generalize l[k]=y at *;generalize m[k]=z at *;go_wp2_with fail;cases I:C8 y z with
      |true=>
       rw[I]at D HT;go_region_held3 (λw'=>w'.cell? (zD w.heap.size 1)=some (.slice (some (zD b o)) l.length c)/\w'.cell? (zD (w.heap.size+1) 1)=some (.slice (some (zD f g)) l.length c2)/\w'.cell? ⟨b,o+k*2,none⟩=some (zA y.base)/\w'.cell? ⟨b,o+k*2+1,none⟩=some (.slice F y.subs.length c')/\w'.cell? ⟨f,g+k*2,none⟩=some (zA z.base)/\w'.cell? ⟨f,g+k*2+1,none⟩=some (.slice G z.subs.length H)) (first|exact C.o|exact q|go_keep)
        ((go_at_call 43; refine(D.o _ (by exact R.o.later (below_drewN (Ac _ _) 1)) (by exact T.o.later (below_drewN (Ac _ _) 1))).mono ?_; rintro e w1 ⟨rfl,j⟩; have q:=OQ (n:=1) j C.o))
       go_wp2_with fail;go_roundw
       case rel=>exact⟨k+1,by omega,by go_num,by rw[HT.o,O.o]; rfl,(U.o.trans (below_drewN (Ac _ _) 1)).trans (j.mono (by simp; omega)),q.1,q.2.1,by have:=j.size; simp at this; omega⟩
       case measure=>simp[intOf]; omega
      |false=>
       have J:Hid (false=C8 ⟨s,l⟩ ⟨s,m⟩):=Aa (by rw[<-d.o,aq.o I]);rw[I]at D;go_region_held3 (λw'=>w'.cell? (zD w.heap.size 1)=some (.slice (some (zD b o)) l.length c)/\w'.cell? (zD (w.heap.size+1) 1)=some (.slice (some (zD f g)) l.length c2)/\w'.cell? ⟨b,o+k*2,none⟩=some (zA y.base)/\w'.cell? ⟨b,o+k*2+1,none⟩=some (.slice F y.subs.length c')/\w'.cell? ⟨f,g+k*2,none⟩=some (zA z.base)/\w'.cell? ⟨f,g+k*2+1,none⟩=some (.slice G z.subs.length H)) (first|exact C.o|exact q|go_keep)
        ((go_at_call 43; refine(D.o _ (by exact R.o.later (below_drewN (Ac _ _) 1)) (by exact T.o.later (below_drewN (Ac _ _) 1))).mono ?_; rintro e w1 ⟨rfl,j⟩; have q:=OQ (n:=1) j C.o))
       go_wp2_with fail;go_ret;exact⟨Ef J.o,(U.o.trans (below_drewN (Ac _ _) 1)).trans (j.mono (by simp; omega))⟩
     ·have J:Hid (true=C8 ⟨s,l⟩ ⟨s,m⟩):=Aa (by rw[<-d.o,<-O.o,Bv (by omega),Bv (by have:=A.o; omega)]);go_wp2_with fail;go_ret;exact⟨Ef J.o,hb⟩
   ·have d:Hid (false=C8 ⟨s,l⟩ ⟨s,m⟩):=Aa (by unfold C8;simp[r,hm]);have aw:((l.length:Int)==(m.length:Int))=false:=Dr.2 (by omega);clear hm;go_enter func43,ntmps43;go_wp2_with fail;go_ret;exact⟨Ef d.o,EC _ _⟩
theorem Vq (l:List Ty):∀m,Ds l m=true↔l=m:=by
 induction l using Ty.indL with
 |h0=>
  intro m;cases m with
  |nil=>simp[Ds]
  |cons t r=>simp[Ds]
 |h x l r a b=>
  intro m;cases m with
  |nil=>simp[Ds]
  |cons t q=>
   obtain⟨y,k⟩:=t;rw[JS];unfold C8;simp only[Bool.and_eq_true,beq_iff_eq,a,b];constructor
   ·rintro⟨⟨rfl,_,rfl⟩,rfl⟩; rfl
   ·intro h;injection h with h1 h2
    injection h1 with h3 c
    subst h2; subst h3; subst c;exact⟨⟨rfl,rfl,rfl⟩,rfl⟩
theorem Vr {a b:Ty}:C8 a b=true↔a=b:=by
 have h:=Vq [a] [b];rw[JS]at h;simpa [Ds] using h
theorem OW (b:Int) (a:Option Addr) (n c:Nat) (w:World):
  Calls prog 69 #[.agg #[zA b,.slice a n c]] w λe w'=>e=.returned (.slice a n c)/\Below w.heap.size w w':=
 (OS b a n c w).mono λe w' h=>⟨h.1,by rw[h.2]; exact(Ac _ _).alloc (Ag _) _⟩
theorem OX (x y:Int) (a b:Option Addr) (n c m d:Nat) (w:World):
  Calls prog 92 #[.agg #[zA x,.slice a n c],.agg #[zA y,.slice b m d]] w λe w'=>e=.returned (.bool (x==y))/\Below w.heap.size w w':=by
 go_enter func92,ntmps92;go_wp2_with fail;go_ret;exact⟨rfl,EC _ _⟩
def Vs (w w5:World) (l m:List Ty) (i:Value) (wr:World):Prop:=
 ∃(k:Nat),k<=l.length/\i=zA k/\Ds (l.take k) (m.take k)=true/\Below w.heap.size w wr
theorem Vt (t:Ty):∀(x:Ty) (v u:Value) (w:World) (X Y:Nat->Prop),YV w X v t->YV w Y u x->
  Calls prog 91 #[v,u,.func (.func 69) #[] #[],.func (.func 92) #[] #[]] w λe w'=>e=.returned (.bool (C8 t x))/\Below w.heap.size w w':=by
 induction t using Ty.ind with
 |h s l T=>
  intro x v u w X Y hv hu;obtain⟨s2,m⟩:=x;have IH:=Aa T;clear T;obtain⟨a,c,rfl,U⟩:=hv;obtain⟨a2,c2,rfl,V⟩:=hu;have hl:=U.1;have ax:=V.1;(try dsimp only[zG]);(try dsimp only[zH]);(try dsimp only[zE]);(try dsimp only);have H:Hid (Ab ((w.alloc (.cells #[zA s,.slice a l.length c] 27)).alloc (.cells #[zA s2,.slice a2 m.length c2] 27)) w.heap.size #[zA s,.slice a l.length c] 27):=(Ab.new _ _ _).alloc _;have I:Hid (Ab ((w.alloc (.cells #[zA s,.slice a l.length c] 27)).alloc (.cells #[zA s2,.slice a2 m.length c2] 27)) (w.heap.size+1) #[zA s2,.slice a2 m.length c2] 27):=by
   have h:=Ab.new (w.alloc (.cells #[zA s,.slice a l.length c] 27)) #[zA s2,.slice a2 m.length c2] 27;rw[BK]at h;exact h
  have J:Hid (Below w.heap.size w ((w.alloc (.cells #[zA s,.slice a l.length c] 27)).alloc (.cells #[zA s2,.slice a2 m.length c2] 27))):=EC _ _;go_enter func91,ntmps91;go_upto_region 1 with fail;generalize (w.alloc (.cells #[zA s,.slice a l.length c] 27)).alloc (.cells #[zA s2,.slice a2 m.length c2] 27)=d at *;have q:Hid (∀w',Below d.heap.size d w'->w'.cell? (zD w.heap.size 0)=some (zA s)/\w'.cell? (zD w.heap.size 1)=some (.slice a l.length c)/\w'.cell? (zD (w.heap.size+1) 0)=some (zA s2)/\w'.cell? (zD (w.heap.size+1) 1)=some (.slice a2 m.length c2)):=λw' hb=>by
   have h1:=H.o.below hb H.o.lt;have h2:=I.o.below hb I.o.lt;exact⟨h1.cell 0,h1.cell 1,h2.cell 0,h2.cell 1⟩
  have W:=Aa (q.o d (Ac _ _));go_region_held3 (λw'=>w'.cell? (zD w.heap.size 0)=some (zA s)/\w'.cell? (zD w.heap.size 1)=some (.slice a l.length c)/\w'.cell? (zD (w.heap.size+1) 0)=some (zA s2)/\w'.cell? (zD (w.heap.size+1) 1)=some (.slice a2 m.length c2)) (first|exact W.o|exact z5|exact z4|go_keep)
   (first
    | (go_at_call 69; refine(OW _ _ _ _ _).mono ?_; rintro e w4 ⟨rfl,g⟩; have r:Below d.heap.size d w4:=(by first|exact((Ac d.heap.size d).drew).trans g|exact(((Ac d.heap.size d).drew).drew).trans g|exact(below_drewN (Ac d.heap.size d) 2).trans g|exact(below_drewN (Ac d.heap.size d) 1).trans (g.mono (by simp))); have z4:=q.o _ r; clear g)
    | (go_at_call 69; refine(OW _ _ _ _ _).mono ?_; rintro e w5 ⟨rfl,Z⟩; have L:=r.trans (Z.mono r.size); have z5:=q.o _ L; clear Z))
  have j:=Aa (J.o.trans (L.mono J.o.size));clear z4 W q H I J r;obtain⟨al,z51,an,z53⟩:=z5;by_cases hm:l.length=m.length
  ·have A:=Aa hm;rw[<-hm]at z53;rw[<-hm];by_cases B:s=s2;case neg=>
    have n:(s==s2)=false:=Dr.2 B;clear B;have f:Hid (false=C8 ⟨s,l⟩ ⟨s2,m⟩):=Aa (by unfold C8;rw[n];rfl);clear hm;go_wp2_with fail;refine(OX s s2 _ _ _ _ _ _ _).mono ?_;rintro e w6 ⟨rfl,C⟩;rw[n];go_wp2_with fail;go_ret;exact⟨Ef f.o,j.o.trans (C.mono j.o.size)⟩
   case pos=>
    have n:(s==s2)=true:=(by simp[B]);clear B;have f:Hid (Ds l m=C8 ⟨s,l⟩ ⟨s2,m⟩):=Aa (by unfold C8;simp[n,hm]);clear hm;go_wp2_with fail;refine(OX s s2 _ _ _ _ _ _ _).mono ?_;rintro e w6 ⟨rfl,C⟩;rw[n];have B6:=Aa (j.o.trans (C.mono j.o.size));clear C L al z51 an z53;go_wp2_with fail;go_loopw [32] (λi wr=>Vs w w5 l m i wr) (λi wr=>l.length-(intOf i).toNat);case atStart=>exact⟨0,Bm _,rfl,by simp[Ds],B6.o⟩
    case round=>
     obtain⟨k,hk,rfl,hq,hb⟩:=hrel;have HQ:=Aa hq;clear hq;by_cases D:k<l.length
     ·obtain⟨b,o,M,c',rfl,d0,d1,hx⟩:=U.get hb (λ_ _ h=>h) k D;obtain⟨E,F,N,O,rfl,e0,e1,aj⟩:=V.get hb (λ_ _ h=>h) k (by have:=A.o; omega);have af:k<m.length:=by have:=A.o; omega
      have HX:=Aa hx;have ao:=Aa aj;have G:=Aa hb;have aq:=Aa (λ(w':World)=>IH.o l[k] (Bu D) m[k] (.agg (zH l[k] M c')) (.agg (zH m[k] N O)) w' X Y);have HT:=Aa (MY D af);have ar:=Aa (OV D A.o);have KQ:Hid (∀w',Below wr.heap.size wr w'->w'.cell? ⟨b,o+k*2,none⟩=some (zA l[k].base)/\w'.cell? ⟨b,o+k*2+1,none⟩=some (.slice M l[k].subs.length c')/\w'.cell? ⟨E,F+k*2,none⟩=some (zA m[k].base)/\w'.cell? ⟨E,F+k*2+1,none⟩=some (.slice N m[k].subs.length O)):=λw' hb=>⟨cell_later hb d0,cell_later hb d1,cell_later hb e0,cell_later hb e1⟩;have au:=Aa (KQ.o wr (Ac _ _));clear hx aj hb d0 d1 e0 e1;generalize l[k]=y at *;generalize m[k]=z at *;go_wp2_with fail;go_region_held3 (λw'=>w'.cell? ⟨b,o+k*2,none⟩=some (zA y.base)/\w'.cell? ⟨b,o+k*2+1,none⟩=some (.slice M y.subs.length c')/\w'.cell? ⟨E,F+k*2,none⟩=some (zA z.base)/\w'.cell? ⟨E,F+k*2+1,none⟩=some (.slice N z.subs.length O)) (first|exact au.o|exact av|go_keep)
       ((go_at_call 91; refine(aq.o _ (by exact HX.o.later (below_drewN (Ac _ _) 1)) (by exact ao.o.later (below_drewN (Ac _ _) 1))).mono ?_; rintro e w1 ⟨rfl,aw⟩; have P:Below wr.heap.size wr w1:=(below_drewN (Ac _ _) 1).trans (aw.mono (by simp)); have av:=KQ.o _ P))
      cases ak:C8 y z with
      |true=>
       rw[ak]at HT;go_wp2_with fail;go_roundw
       case rel=>exact⟨k+1,by omega,by go_num,by rw[HT.o,HQ.o]; rfl,G.o.trans (P.mono G.o.size)⟩
       case measure=>simp[intOf]; omega
      |false=>have R:Hid (false=C8 ⟨s,l⟩ ⟨s2,m⟩):=Aa (by rw[<-f.o,ar.o ak]);go_wp2_with fail;go_ret;exact⟨Ef R.o,G.o.trans (P.mono G.o.size)⟩
     ·have R:Hid (true=C8 ⟨s,l⟩ ⟨s2,m⟩):=Aa (by rw[<-f.o,<-HQ.o,Bv (by omega),Bv (by have:=A.o; omega)]);go_wp2_with fail;go_ret;exact⟨Ef R.o,hb⟩
  ·have f:Hid (false=C8 ⟨s,l⟩ ⟨s2,m⟩):=Aa (by unfold C8;simp[hm]);have ay:((l.length:Int)==(m.length:Int))=false:=Dr.2 (by omega);have az:((l.length:Int) !=(m.length:Int))=true:=by simp; omega
   clear hm;go_wp2_with fail;go_ret;exact⟨Ef f.o,j.o⟩
theorem Vu (t x:Ty) (v u:Value) (w:World) (X Y:Nat->Prop) (b:YV w X v t) (hu:YV w Y u x):
  Calls prog 75 #[v,u] w λe w'=>e=.returned (.bool (C8 t x))/\Below w.heap.size w w':=by
 have d:=Aa b;have f:=Aa hu;obtain⟨a,c,rfl,-⟩:=b;obtain⟨a2,c2,rfl,-⟩:=hu;go_enter func75,ntmps75;go_wp2_with fail;refine(Vt t x _ _ _ X Y (d.o.later (EC _ _)) (f.o.later (EC _ _))).mono ?_;rintro e w1 ⟨rfl,g⟩;go_wp2_with fail;go_ret;exact⟨rfl,(EC _ _).trans (g.mono (by simp; omega))⟩
structure Bd where
 nm:ByteArray
 t:Tm
def BV (w:World) (X:Nat->Prop) (v:Value) (l:List Bd):Prop:=
 ∃a c,v=.slice a l.length c/\(l.length<=9223372036854775807/\l.length<=c)/\(l=[]∨∃b o,a=some (zD b o)/\X b/\∀i (h:i<l.length),w.cell? ⟨b,o+i*3,none⟩=some (.string l[i].nm)/\w.cell? ⟨b,o+i*3+1,none⟩=some (.string l[i].t.name)/\∃a' c',w.cell? ⟨b,o+i*3+2,none⟩=some (.slice a' l[i].t.args.length c')/\Sl w X a' l[i].t.args)
theorem BV.kept {w w':World} {X:Nat->Prop} {v:Value} {l:List Bd} (h:BV w X v l) (hk:∀b,X b->w'.heap[b]? = w.heap[b]?):BV w' X v l:=by
 obtain⟨a,c,e,f,h⟩:=h;refine⟨a,c,e,f,?_⟩;rcases h with h|⟨b,o,g,d,h⟩
 ·exact Ad h
 ·refine Ae ⟨b,o,g,d,λi hi=>?_⟩;obtain⟨h1,h2,j,c',h3,k⟩:=h i hi;have hb:=hk b d;exact⟨by simpa [World.cell?,hb] using h1,by simpa [World.cell?,hb] using h2,j,c',by simpa [World.cell?,hb] using h3,k.kept hk⟩
theorem Em {w:World} {b o:Nat} {v:Value} (h:w.cell? (zD b o)=some v):b<w.heap.size:=by
 rcases Nat.lt_or_ge b w.heap.size with h'|h'
 ·exact h'
 ·simp[World.cell?,Ij h']at h
theorem BV.mono {w:World} {X Y:Nat->Prop} {v:Value} {l:List Bd} (h:BV w X v l) (hk:∀b,X b->b<w.heap.size->Y b):BV w Y v l:=by
 obtain⟨a,c,e,d,h⟩:=h;refine⟨a,c,e,d,?_⟩;rcases h with h|⟨b,o,f,g,h⟩
 ·exact Ad h
 ·by_cases h0:l=[]
  ·exact Ad h0
  ·have hp:0<l.length:=GI.2 h0;refine Ae ⟨b,o,f,hk b g (Em (h 0 hp).1),λi hi=>?_⟩;obtain⟨h1,h2,j,c',h3,k⟩:=h i hi;exact⟨h1,h2,j,c',h3,k.mono hk⟩
theorem BV.later {w w':World} {X:Nat->Prop} {v:Value} {l:List Bd} (h:BV w X v l) (hb:Below w.heap.size w w'):BV w' X v l:=
 ((h.mono (Y:=λb=>X b/\b<w.heap.size) λb h1 h2=>⟨h1,h2⟩).kept λb hx=>hb.block b hx.2).mono λb hx _=>hx.1
theorem BV.alloc {w:World} {X:Nat->Prop} {v:Value} {l:List Bd} (h:BV w X v l) (o:Obj):BV (w.alloc o) X v l:=h.later ((Ac _ _).alloc (Ag _) o)
theorem BV.get {w:World} {X:Nat->Prop} {a:Option Addr} {n c:Nat} {l:List Bd} (h:BV w X (.slice a n c) l) (i:Nat) (hi:i<l.length):
  ∃b o d c',a=some (zD b o)/\w.cell? ⟨b,o+i*3,none⟩=some (.string l[i].nm)/\w.cell? ⟨b,o+i*3+1,none⟩=some (.string l[i].t.name)/\w.cell? ⟨b,o+i*3+2,none⟩=some (.slice d l[i].t.args.length c')/\Sl w X d l[i].t.args:=by
 obtain⟨a2,c2,e,hl,h⟩:=h;simp at e;obtain⟨rfl,rfl,rfl⟩:=e;rcases h with h|⟨b,o,f,hX,h⟩
 ·subst h; simp at hi
 ·obtain⟨h1,h2,d,c',h3,g⟩:=h i hi;exact⟨b,o,d,c',f,h1,h2,h3,g⟩
theorem FY {a b:ByteArray} (h:a.toList=b.toList):a=b:=by
 rw[GH,GH]at h;cases a with
 |mk x=>
  cases b with
  |mk y=>congr 1; exact Array.toList_inj.1 h
theorem Ip {a b:ByteArray} (h:a=b):(a.toList==b.toList)=true:=by rw[h]; simp
theorem JT {a b:ByteArray} (h:a≠b):(a.toList==b.toList)=false:=Dr.2 λe=>h (FY e)
def AC:List Bd->ByteArray->Option Tm
 | [],_=>none
 |d::r,n=>if d.nm=n then some d.t else AC r n
theorem Vv {l:List Bd} {n:ByteArray} {k:Nat} (hk:k<l.length) (h:AC (l.take k) n=none):(l[k].nm=n->AC l n=some l[k].t)/\(l[k].nm≠n->AC (l.take (k+1)) n=none):=by
 induction l generalizing k with
 |nil=>simp at hk
 |cons d r a=>
  cases k with
  |zero=>
   refine⟨λe=>?_,λe=>?_⟩
   ·simp only[Q6] at e; simp[AC,e]
   ·simp only[Q6] at e; simp[AC,e]
  |succ k=>
   simp only[JL,AC] at h;by_cases hd:d.nm=n
   ·rw[Aq hd]at h; cases h
   ·rw[Am hd]at h;obtain⟨h1,h2⟩:=a (by simpa using hk) h;refine⟨λe=>?_,λe=>?_⟩
    ·rw[AC,Am hd]; exact h1 (by simpa using e)
    ·rw[JL,AC,Am hd]; exact h2 (by simpa using e)
def BG:List (ByteArray×Value)->ByteArray->Option Value
 | [],_=>none
 |p::r,n=>if p.1=n then some p.2 else BG r n
def FZ (es:Array MapEntry) (clk:Nat):Prop:=(∀x∈es.toList,x.born<clk)/\(es.toList.map (·.born)).Nodup
def BC (w:World) (r:Nat) (L:List (ByteArray×Value)):Prop:=
 ∃es clk,w.heap[r]? = some (.map es clk)/\es.toList.map (λe=>(e.key,e.val))=L.map (λp=>(Value.string p.1,p.2))/\FZ es clk
theorem FZ.push {es:Array MapEntry} {c:Nat} (h:FZ es c) (k v:Value):FZ (es.push { key:=k,val:=v,born:=c}) (c+1):=by
 obtain⟨h1,h2⟩:=h;refine⟨λx hx=>?_,?_⟩
 ·rw[Array.toList_push,BJ]at hx;rcases hx with hx|hx
  ·have:=h1 x hx; omega
  ·have e:x={ key:=k,val:=v,born:=c}:=(by simpa using hx);subst e; exact Dx _
 ·rw[Array.toList_push,CY,List.nodup_append];refine⟨h2,by simp,λa d b hb=>?_⟩;obtain⟨x,hx,rfl⟩:=Cv.1 d;have:=h1 x hx;have e:b=c:=by simpa using hb
  omega
theorem Vw (j:Nat) (k v:Value):∀l:List MapEntry,(l.modify j λe=>{ e with key:=k,val:=v}).map (·.born)=l.map (·.born):=by
 induction j with
 |zero=>intro l; cases l<;>simp
 |succ j b=>intro l; cases l with
  |nil=>simp
  |cons a r=>simp[List.modify_succ_cons,b r]
theorem FZ.modify {es:Array MapEntry} {a:Nat} (h:FZ es a) (j:Nat) (k v:Value):FZ (es.modify j λe=>{ e with key:=k,val:=v}) a:=by
 obtain⟨h1,h2⟩:=h;have e:=Vw j k v es.toList;refine⟨λx hx=>?_,by rw[Array.toList_modify,e]; exact h2⟩;rw[Array.toList_modify]at hx;have:x.born∈es.toList.map (·.born):=by rw[<-e]; exact Cv.2 ⟨x,hx,rfl⟩
 obtain⟨y,hy,hb⟩:=Cv.1 this;rw[<-hb]; exact h1 y hy
theorem BC.new (w:World):BC (w.alloc (.map #[] 0)) w.heap.size []:=⟨#[],0,Ik w _,rfl,by simp[FZ]⟩
theorem BC.lt {w:World} {r:Nat} {L:List (ByteArray×Value)} (h:BC w r L):r<w.heap.size:=by
 obtain⟨es,aa,h,_⟩:=h;exact(Fh.1 h).1
theorem BC.kept {w w':World} {r:Nat} {L:List (ByteArray×Value)} (h:BC w r L) (hk:w'.heap[r]? = w.heap[r]?):BC w' r L:=by
 obtain⟨es,a,h1,h2⟩:=h;exact⟨es,a,hk.trans h1,h2⟩
theorem BC.below {w w':World} {r B:Nat} {L:List (ByteArray×Value)} (h:BC w r L) (hb:Below B w w') (a:r<B):BC w' r L:=h.kept (hb.block r a)
theorem Li (n:ByteArray):∀(l:List MapEntry) (L:List (ByteArray×Value)) (i:Nat),l.map (λe=>(e.key,e.val))=L.map (λp=>(Value.string p.1,p.2))->
  (BG L n=none->Instr.findNow .string (.string n) l i=some none)/\(∀v,BG L n=some v->∃j,Instr.findNow .string (.string n) l i=some (some (j,v)))
 | [],[],i,h=>⟨λ_=>rfl,λv h=>by simp[BG] at h⟩
 | [],p::L,i,h=>by simp at h
 |e::l,[],i,h=>by simp at h
 |e::l,p::L,i,h=>by
  simp only[Cu,FT,Fi] at h;obtain⟨⟨hk,c⟩,ht⟩:=h;obtain⟨d,f⟩:=Li n l L (i+1) ht;by_cases a:p.1=n
  ·have b:Instr.sameNow .string (.string n) e.key=some true:=(by rw[hk,a];show some (n==n)=some true;rw[show(n==n)=true from (KE _ _).2 rfl]);refine⟨λh=>by simp[BG,a] at h,λv h=>⟨i,?_⟩⟩;simp only[BG,a,if_true,Il] at h;simp[Instr.findNow,b,c,h]
  ·have b:Instr.sameNow .string (.string n) e.key=some false:=by
    rw[hk];show some (n==p.1)=some false;have hb:(n==p.1)=false:=by
     cases g:(n==p.1) with
     |false=>rfl
     |true=>exact absurd ((KE _ _).1 g).symm a
    rw[hb]
   refine⟨λh=>?_,λv h=>?_⟩
   ·rw[BG,Am a]at h;simp[Instr.findNow,b,d h]
   ·rw[BG,Am a]at h;obtain⟨j,k⟩:=f v h;exact⟨j,by simp[Instr.findNow,b,k]⟩
theorem Hx {P:Program} {w:World} {T a c:TypeId} {r:Nat} {L:List (ByteArray×Value)} {z:Value} (hm:P.underlying T=some (.map a c)) (hk:P.underlying a=some .string) (hz:(zeroValue c).run P w=.ok z w) (h:BC w r L) (n:ByteArray):
  (Instr.lookup T (.map (some r)) (.string n) true).run P w=.ok (.tuple #[(BG L n).getD z,.bool (BG L n).isSome]) w:=by
 obtain⟨es,aa,hb,he,ab⟩:=h;obtain⟨h1,h2⟩:=Li n es.toList L 0 he;have hc:∀b,(Instr.checkKey b 10000 a (.string n)).run P w=.ok () w:=λb=>JM (k:=.string n) hk (by simp[MapKept.IsKey]) b 9999;cases d:BG L n with
 |none=>simp[Instr.lookup,Fj hm,Gp hb,hc,Ho hk (h1 d),Result.andThen,hz]
 |some v=>obtain⟨j,e⟩:=h2 v d;simp[Instr.lookup,Fj hm,Gp hb,hc,Ho hk e,Result.andThen]
theorem Lj {P:Program} {w:World} {T a d:TypeId} {r:Nat} {L:List (ByteArray×Value)} (hm:P.underlying T=some (.map a d)) (hk:P.underlying a=some .string) (h:BC w r L) (n:ByteArray) (v:Value) (e:BG L n=none):
  ∃w',(Instr.mapUpdate T (.map (some r)) (.string n) v).run P w=.ok () w'/\BC w' r (L++[(n,v)])/\w'.heap.size=w.heap.size/\w'.os=w.os/\w'.tape=w.tape/\w'.output=w.output/\(∀b,b≠r->w'.heap[b]? = w.heap[b]?):=by
 obtain⟨es,c,hb,he,f⟩:=h;obtain⟨h1,h2⟩:=Li n es.toList L 0 he;have hc:(Instr.checkKey false 10000 a (.string n)).run P w=.ok () w:=JM (k:=.string n) hk (by simp[MapKept.IsKey]) false 9999;have hlt:r<w.heap.size:=(Fh.1 hb).1;refine⟨{ w with heap:=w.heap.setIfInBounds r (.map (es.push { key:=.string n,val:=v,born:=c}) (c+1))},?_,⟨_,_,(Hp hb).1,by simp[he],f.push _ _⟩,by simp,rfl,rfl,rfl,λb g=>(Hp hb).2 b g⟩;simp[Instr.mapUpdate,Fj hm,Gp hb,hc,Ho hk (h1 e),MapKept.run_setObj_map _ hb,Result.andThen]
def EK:List (Int×Value)->Int->Option Value
 | [],_=>none
 |p::r,n=>if p.1=n then some p.2 else EK r n
def En (w:World) (r:Nat) (L:List (Int×Value)):Prop:=
 ∃es clk,w.heap[r]? = some (.map es clk)/\es.toList.map (λe=>(e.key,e.val))=L.map (λp=>(Value.int .i64 p.1,p.2))/\FZ es clk
theorem En.new (w:World):En (w.alloc (.map #[] 0)) w.heap.size []:=⟨#[],0,Ik w _,rfl,by simp[FZ]⟩
theorem En.lt {w:World} {r:Nat} {L:List (Int×Value)} (h:En w r L):r<w.heap.size:=by
 obtain⟨es,aa,h,_⟩:=h;exact(Fh.1 h).1
theorem En.kept {w w':World} {r:Nat} {L:List (Int×Value)} (h:En w r L) (hk:w'.heap[r]? = w.heap[r]?):En w' r L:=by
 obtain⟨es,a,h1,h2⟩:=h;exact⟨es,a,hk.trans h1,h2⟩
theorem En.below {w w':World} {r B:Nat} {L:List (Int×Value)} (h:En w r L) (hb:Below B w w') (a:r<B):En w' r L:=h.kept (hb.block r a)
theorem MZ (n:Int):∀(l:List MapEntry) (L:List (Int×Value)) (i:Nat),l.map (λe=>(e.key,e.val))=L.map (λp=>(Value.int .i64 p.1,p.2))->
  (EK L n=none->Instr.findNow (.int .i64) (zA n) l i=some none)/\(∀v,EK L n=some v->∃j,Instr.findNow (.int .i64) (zA n) l i=some (some (j,v)))
 | [],[],i,h=>⟨λ_=>rfl,λv h=>by simp[EK] at h⟩
 | [],p::L,i,h=>by simp at h
 |e::l,[],i,h=>by simp at h
 |e::l,p::L,i,h=>by
  simp only[Cu,FT,Fi] at h;obtain⟨⟨hk,c⟩,ht⟩:=h;obtain⟨d,f⟩:=MZ n l L (i+1) ht;by_cases a:p.1=n
  ·have b:Instr.sameNow (.int .i64) (zA n) e.key=some true:=(by rw[hk,a];simp[Instr.sameNow]);refine⟨λh=>by simp[EK,a] at h,λv h=>⟨i,?_⟩⟩;simp only[EK,a,if_true,Il] at h;simp[Instr.findNow,b,c,h]
  ·have b:Instr.sameNow (.int .i64) (zA n) e.key=some false:=(by rw[hk];simp[Instr.sameNow];exact λe=>a e.symm);refine⟨λh=>?_,λv h=>?_⟩
   ·rw[EK,Am a]at h;simp[Instr.findNow,b,d h]
   ·rw[EK,Am a]at h;obtain⟨j,g⟩:=f v h;exact⟨j,by simp[Instr.findNow,b,g]⟩
theorem OY {P:Program} {w:World} {T a c:TypeId} {r:Nat} {L:List (Int×Value)} {z:Value} (hm:P.underlying T=some (.map a c)) (hk:P.underlying a=some (.int .i64)) (hz:(zeroValue c).run P w=.ok z w) (h:En w r L) (n:Int):
  (Instr.lookup T (.map (some r)) (zA n) true).run P w=.ok (.tuple #[(EK L n).getD z,.bool (EK L n).isSome]) w:=by
 obtain⟨es,aa,hb,he,ab⟩:=h;obtain⟨h1,h2⟩:=MZ n es.toList L 0 he;have hc:∀b,(Instr.checkKey b 10000 a (zA n)).run P w=.ok () w:=λb=>JM (k:=zA n) hk (by simp[MapKept.IsKey]) b 9999;cases d:EK L n with
 |none=>simp[Instr.lookup,Fj hm,Gp hb,hc,Ho hk (h1 d),Result.andThen,hz]
 |some v=>obtain⟨j,e⟩:=h2 v d;simp[Instr.lookup,Fj hm,Gp hb,hc,Ho hk e,Result.andThen]
theorem Vx {P:Program} {w:World} {T a d:TypeId} {r:Nat} {L:List (Int×Value)} (hm:P.underlying T=some (.map a d)) (hk:P.underlying a=some (.int .i64)) (h:En w r L) (n:Int) (v:Value) (e:EK L n=none):
  ∃w',(Instr.mapUpdate T (.map (some r)) (zA n) v).run P w=.ok () w'/\En w' r (L++[(n,v)])/\w'.heap.size=w.heap.size/\w'.os=w.os/\w'.tape=w.tape/\w'.output=w.output/\(∀b,b≠r->w'.heap[b]? = w.heap[b]?):=by
 obtain⟨es,c,hb,he,f⟩:=h;obtain⟨h1,h2⟩:=MZ n es.toList L 0 he;have hc:(Instr.checkKey false 10000 a (zA n)).run P w=.ok () w:=JM (k:=zA n) hk (by simp[MapKept.IsKey]) false 9999;have hlt:r<w.heap.size:=(Fh.1 hb).1;refine⟨{ w with heap:=w.heap.setIfInBounds r (.map (es.push { key:=zA n,val:=v,born:=c}) (c+1))},?_,⟨_,_,(Hp hb).1,by simp[he],f.push _ _⟩,by simp,rfl,rfl,rfl,λb g=>(Hp hb).2 b g⟩;simp[Instr.mapUpdate,Fj hm,Gp hb,hc,Ho hk (h1 e),MapKept.run_setObj_map _ hb,Result.andThen]
def Dz:List (Int×Ty)->Int->Option Ty
 | [],_=>none
 |p::r,n=>if p.1=n then some p.2 else Dz r n
theorem JU (n m:Int) (t:Ty):∀σ:List (Int×Ty),Dz σ n=none->Dz (σ++[(n,t)]) m=if n=m then some t else Dz σ m
 | [],_=>by
  simp only[GK,Dz]
 |p::r,h=>by
  simp only[Di,Dz] at h ⊢;by_cases hp:p.1=n
  ·rw[Aq hp]at h; cases h
  ·rw[Am hp]at h;have a:=JU n m t r h;rw[a];by_cases hm:p.1=m
   ·rw[Aq hm,Am (λe=>hp (by rw[hm,e]))];rw[Aq hm]
   ·rw[Am hm,Am hm]
def Hy (x:Int) (l:List Ty) (t:Ty) (σ:List (Int×Ty)) (b:List Ty->List (Int×Ty)->Bool×List (Int×Ty)):Bool×List (Int×Ty):=
 if l.length=0 then (match Dz σ x with|some y=>(C8 y t,σ)|none=>(true,σ++[(x,t)]))
 else if t.subs.length=2 then b t.subs σ else (false,σ)
def F1:List Ty->List Ty->List (Int×Ty)->Bool×List (Int×Ty)
 | [],_,σ=>(true,σ)
 | ⟨x,l⟩::r,ts,σ=>match ts with
  | []=>(false,σ)
  |t::q=>if (Hy x l t σ (λu τ=>F1 l u τ)).1=true then F1 r q (Hy x l t σ (λu τ=>F1 l u τ)).2 else Hy x l t σ (λu τ=>F1 l u τ)
def CO (p t:Ty) (σ:List (Int×Ty)):Bool×List (Int×Ty):=Hy p.base p.subs t σ (λu τ=>F1 p.subs u τ)
theorem OZ (p:Ty) (r:List Ty) (t:Ty) (q:List Ty) (σ:List (Int×Ty)):F1 (p::r) (t::q) σ=if (CO p t σ).1=true then F1 r q (CO p t σ).2 else CO p t σ:=by
 obtain⟨x,l⟩:=p;simp only[F1,CO];rfl
theorem Vy (q:List Ty) (σ:List (Int×Ty)):F1 [] q σ=(true,σ):=by simp[F1]
theorem M0 {x:Int} {t y:Ty} {σ:List (Int×Ty)} (h:Dz σ x=some y):CO ⟨x,[]⟩ t σ=(C8 y t,σ):=by simp[CO,Hy,h]
theorem Na {x:Int} {t:Ty} {σ:List (Int×Ty)} (h:Dz σ x=none):CO ⟨x,[]⟩ t σ=(true,σ++[(x,t)]):=by simp[CO,Hy,h]
theorem Nb {p q t:Ty} {σ:List (Int×Ty)} (h:t.subs.length≠2) (x:Int):CO ⟨x,[p,q]⟩ t σ=(false,σ):=by simp[CO,Hy,h]
theorem Nc {p q u v:Ty} (x y:Int) (σ:List (Int×Ty)):CO ⟨x,[p,q]⟩ ⟨y,[u,v]⟩ σ=if (CO p u σ).1=true then CO q v (CO p u σ).2 else CO p u σ:=by
 have h:CO ⟨x,[p,q]⟩ ⟨y,[u,v]⟩ σ=F1 [p,q] [u,v] σ:=by simp[CO,Hy]
 rw[h,OZ];split
 ·rw[OZ,Vy];cases hq:(CO q v (CO p u σ).2) with
  |mk b τ=>cases b<;>simp
 ·rfl
def Fy (p t:Ty):Bool:=(CO p t []).1
structure Pr where
 l:Tm
 r:Tm
def QV (w:World) (X:Nat->Prop) (v:Value) (l:List Pr):Prop:=
 ∃a c,v=.slice a l.length c/\(l.length<=9223372036854775807/\l.length<=c)/\(l=[]∨∃b o,a=some (zD b o)/\X b/\∀i (h:i<l.length),∃a1 c1 a2 c2,w.cell? ⟨b,o+i*4,none⟩=some (.string l[i].l.name)/\w.cell? ⟨b,o+i*4+1,none⟩=some (.slice a1 l[i].l.args.length c1)/\w.cell? ⟨b,o+i*4+2,none⟩=some (.string l[i].r.name)/\w.cell? ⟨b,o+i*4+3,none⟩=some (.slice a2 l[i].r.args.length c2)/\Sl w X a1 l[i].l.args/\Sl w X a2 l[i].r.args)
theorem QV.kept {w w':World} {X:Nat->Prop} {v:Value} {l:List Pr} (h:QV w X v l) (hk:∀b,X b->w'.heap[b]? = w.heap[b]?):QV w' X v l:=by
 obtain⟨a,c,e,f,h⟩:=h;refine⟨a,c,e,f,?_⟩;rcases h with h|⟨b,o,g,d,h⟩
 ·exact Ad h
 ·refine Ae ⟨b,o,g,d,λi hi=>?_⟩;obtain⟨j,c1,a2,c2,h1,h2,h3,k,h5,h6⟩:=h i hi;have hb:=hk b d;exact⟨j,c1,a2,c2,by simpa [World.cell?,hb] using h1,by simpa [World.cell?,hb] using h2,by simpa [World.cell?,hb] using h3,by simpa [World.cell?,hb] using k,h5.kept hk,h6.kept hk⟩
theorem QV.mono {w:World} {X Y:Nat->Prop} {v:Value} {l:List Pr} (h:QV w X v l) (hk:∀b,X b->b<w.heap.size->Y b):QV w Y v l:=by
 obtain⟨a,c,e,d,h⟩:=h;refine⟨a,c,e,d,?_⟩;rcases h with h|⟨b,o,f,j,h⟩
 ·exact Ad h
 ·by_cases h0:l=[]
  ·exact Ad h0
  ·have hp:0<l.length:=GI.2 h0;obtain⟨_,_,_,_,g,_⟩:=h 0 hp;refine Ae ⟨b,o,f,hk b j (Em g),λi hi=>?_⟩;obtain⟨k,c1,a2,c2,h1,h2,h3,m,h5,h6⟩:=h i hi;exact⟨k,c1,a2,c2,h1,h2,h3,m,h5.mono hk,h6.mono hk⟩
theorem QV.later {w w':World} {X:Nat->Prop} {v:Value} {l:List Pr} (h:QV w X v l) (hb:Below w.heap.size w w'):QV w' X v l:=
 ((h.mono (Y:=λb=>X b/\b<w.heap.size) λb h1 h2=>⟨h1,h2⟩).kept λb hx=>hb.block b hx.2).mono λb hx _=>hx.1
theorem QV.alloc {w:World} {X:Nat->Prop} {v:Value} {l:List Pr} (h:QV w X v l) (o:Obj):QV (w.alloc o) X v l:=h.later ((Ac _ _).alloc (Ag _) o)
theorem QV.get {w:World} {X:Nat->Prop} {a:Option Addr} {n c:Nat} {l:List Pr} (h:QV w X (.slice a n c) l) (i:Nat) (hi:i<l.length):
  ∃b o d c1 a2 c2,a=some (zD b o)/\w.cell? ⟨b,o+i*4,none⟩=some (.string l[i].l.name)/\w.cell? ⟨b,o+i*4+1,none⟩=some (.slice d l[i].l.args.length c1)/\w.cell? ⟨b,o+i*4+2,none⟩=some (.string l[i].r.name)/\w.cell? ⟨b,o+i*4+3,none⟩=some (.slice a2 l[i].r.args.length c2)/\Sl w X d l[i].l.args/\Sl w X a2 l[i].r.args:=by
 obtain⟨a2,c2,e,hl,h⟩:=h;simp at e;obtain⟨rfl,rfl,rfl⟩:=e;rcases h with h|⟨b,o,f,hX,h⟩
 ·subst h; simp at hi
 ·obtain⟨d,c1,a2,c2,h1,h2,h3,g,h5,h6⟩:=h i hi;exact⟨b,o,d,c1,a2,c2,f,h1,h2,h3,g,h5,h6⟩
def EY (ls:List Pr):Nat->Int
 |0=>0
 |k+1=>if EY ls k=0 then (match ls[k]? with|some p=>K0 p.l p.r|none=>0) else EY ls k
def Ga (ls:List Pr):Int:=if 40<ls.length then 3 else EY ls ls.length
theorem O0 {ls:List Pr} {k:Nat} (h:EY ls k≠0):∀n,k<=n->EY ls n=EY ls k
 |0,b=>by
  have:k=0:=by omega
  subst this; rfl
 |n+1,b=>by
  by_cases e:k=n+1
  ·subst e; rfl
  ·have a:=O0 h n (by omega);rw[EY,Am (by rw[a]; exact h)];exact a
theorem Vz {ls:List Pr} {k:Nat} (hk:k<ls.length) (h0:EY ls k=0):EY ls (k+1)=K0 ls[k].l ls[k].r:=by rw[EY,Aq h0,FU hk]
theorem Pi {ls:List Pr} (h:Ga ls=0):ls.length<=40:=by
 unfold Ga at h;split at h
 ·cases h
 ·omega
theorem VA {ls:List Pr} (h:Ga ls=0):∀p∈ls,Fx p.l=0/\Fx p.r=0:=by
 intro p hp;obtain⟨k,hk,rfl⟩:=IW hp;have aa:=Pi h;unfold Ga at h;rw[Am (by omega)]at h;have h0:∀n,n<=ls.length->EY ls n=0:=λn a=>by
  by_cases e:EY ls n=0
  ·exact e
  ·have:=O0 e _ a;rw[this]at h;exact absurd h e
 have h1:=Vz hk (h0 k (by omega));rw[h0 (k+1) (by omega)]at h1;have h2:=h1.symm;unfold K0 at h2;by_cases e:Fx ls[k].l=0
 ·rw[Aq e]at h2; exact⟨e,h2⟩
 ·rw[Am e]at h2; exact absurd h2 e
def Gb (l:List Bd) (s:ByteArray) (es0 bs:List Tm):Tm:=
 match AC l s with
 |some x=>if es0.isEmpty=true then x else ⟨s,bs⟩
 |none=>⟨s,bs⟩
def An (l:List Bd):List Tm->List Tm
 | []=>[]
 | ⟨s,es0⟩::r=>Gb l s es0 (An l es0)::An l r
def Af (l:List Bd) (t:Tm):Tm:=Gb l t.name t.args (An l t.args)
theorem Br (l:List Bd) (t:Tm) (r:List Tm):An l (t::r)=Af l t::An l r:=by
 obtain⟨s,aa⟩:=t;simp only[An,Af]
theorem I4 (l:List Bd):∀a,(An l a).length=a.length
 | []=>by simp[An]
 |t::r=>by rw[Br]; simp[I4 l r]
theorem Iq (l:List Bd) (b:List Tm):∀a,An l (a++b)=An l a++An l b
 | []=>by simp[An]
 |t::r=>by rw[Di,Br,Br,Iq l b r]; rfl
theorem Ir (l:List Bd) (a:List Tm) (k:Nat) (h:k<a.length):An l (a.take (k+1))=An l (a.take k)++[Af l a[k]]:=by
 rw[CB h,Iq,Br];simp[An]
theorem Is {l:List Bd} {s:ByteArray} {x:Tm} (h:AC l s=some x):Af l ⟨s,[]⟩=x:=by simp[Af,Gb,h]
theorem GP {l:List Bd} {s:ByteArray} {a:List Tm} (h:a≠[]∨AC l s=none):Af l ⟨s,a⟩=⟨s,An l a⟩:=by
 unfold Af Gb;rcases h with h|h
 ·cases AC l s with
  |none=>rfl
  |some x=>simp[h]
 ·rw[h]
theorem Pj (l:List Bd) (a:List Tm) (k:Nat) (h:k<a.length):Ah (An l (a.take (k+1)))=Ah (An l (a.take k))+Ah [Af l a[k]]:=by rw[Ir l a k h,FW]
theorem Pk (l:List Bd) (a:List Tm) (k:Nat):Ah (An l (a.take k))<=Ah (An l a):=by
 have:=FW (An l (a.take k)) (An l (a.drop k));rw[<-Iq,Fu]at this;omega
abbrev Bc:=Bd×Option Addr×Nat
instance:Inhabited Bc:=⟨(⟨⟨#[]⟩,⟨⟨#[]⟩,[]⟩⟩,none,0)⟩
def DX (x:Bc):List Value:=[.string x.1.nm,.string x.1.t.name,.slice x.2.1 x.1.t.args.length x.2.2]
def DA:List Bc->List Value
 | []=>[]
 |x::r=>DX x++DA r
theorem Pl (b:List Bc):∀a,DA (a++b)=DA a++DA b
 | []=>rfl
 |x::r=>by rw[Di,DA,DA,Pl b r,IX]
theorem Pm:∀a:List Bc,(DA a).length=a.length*3
 | []=>rfl
 |x::r=>by rw[DA,Ed,Pm r]; simp[DX]; omega
theorem JV:∀(a:List Bc) (i:Nat) (h:i<a.length) (j:Nat),j<3->(DA a)[i*3+j]? = (DX a[i])[j]?
 | [],i,h,j,b=>by simp at h
 |x::r,0,h,j,b=>by
  rw[DA,MO (by simp[DX]; omega)]; simp
 |x::r,i+1,h,j,b=>by
  rw[DA,Oy (by simp[DX]; omega)];have e:(i+1)*3+j-(DX x).length=i*3+j:=by simp[DX]; omega
  rw[e,JV r i (by simpa using h) j b];simp
structure Cm (w:World) (N:Nat) (Y:Nat->Prop) (v:Value) (cs:List Bc):Prop where
 own:w.ownsRow N 93 3 v cs.length (DA cs)
 row:∀x∈cs,Sl w (λb=>Y b∨(N<=b/\some b≠v.ownBlock)) x.2.1 x.1.t.args
theorem Cm.start (w:World) (N:Nat) (Y:Nat->Prop):Cm w N Y zB []:=⟨Hn w N _ 3,by simp⟩
theorem Cm.below {w w':World} {N:Nat} {Y:Nat->Prop} {v:Value} {cs:List Bc} (h:Cm w N Y v cs) (hb:Below w.heap.size w w'):Cm w' N Y v cs:=
 ⟨h.own.kept (w' := w') (row := none) ⟨hb.os, hb.tape, hb.output, hb.size, λj a _ => hb.block j a⟩ (by rcases IV (Value.ownBlock v) with h | ⟨x, h⟩; exact Ad h; exact Ae (by rw [h]; simp)),
  λx hx=>(h.row x hx).later hb⟩
theorem Cm.ne {w:World} {N:Nat} {Y:Nat->Prop} {v:Value} {cs:List Bc} (h:Cm w N Y v cs) {b:Nat} (hb:b<N):some b≠v.ownBlock:=λe=>by
 have:=(h.own.lt b e.symm).1; omega
theorem Cm.kept {w w':World} {N:Nat} {Y:Nat->Prop} {v:Value} {cs:List Bc} {r:Nat} (h:Cm w N Y v cs) (a:r<N) (c:¬Y r) (ho:w'.os=w.os) (ht:w'.tape=w.tape) (hu:w'.output=w.output) (hz:w.heap.size<=w'.heap.size) (hk:∀j,j≠r->j<w.heap.size->w'.heap[j]? = w.heap[j]?):Cm w' N Y v cs:=
 ⟨h.own.kept (w' := w') (row := some r) ⟨ho, ht, hu, hz, λj d f => hk j (λe => f (by rw [e])) d⟩ (Ae (λe => h.ne a e.symm)),
  λx hx=>by
  have h1:=(h.row x hx).mono (Y:=λb=>(Y b∨(N<=b/\some b≠v.ownBlock))/\b<w.heap.size) λb h1 h2=>⟨h1,h2⟩;refine(h1.kept λb hb=>hk b (λe=>?_) hb.2).mono λb hb _=>hb.1;rcases hb.1 with h2|h2
  ·exact c (e▸h2)
  ·omega⟩
theorem Cm.push {w w1 w2 w3:World} {N:Nat} {Y:Nat->Prop} {v:Value} {cs:List Bc} (h:Cm w N Y v cs) (hN:N<=w.heap.size) (f:∀b,Y b->b<N) (hb:Below w.heap.size w w1) {x:Bc}
  (ht:Sl w1 (λb=>Y b∨w.heap.size<=b) x.2.1 x.1.t.args) (o:Obj) (j:w2=w1.alloc o) {g cap:Nat}
  (k:w3.ownsRow N 93 3 (.slice (some (zD g 0)) (cs.length+1) cap) (cs.length+1) (DA cs++DX x)) (i:w2.grownBy w3 v.ownBlock) (a:v.ownBlock=some g∨g=w2.heap.size):
  Cm w3 N Y (.slice (some (zD g 0)) (cs.length+1) cap) (cs++[x]):=by
 subst j;have c:=h.own.lt;refine⟨by rw[Pl]; simpa [DA] using k,λy hy=>?_⟩;have ae:w1.heap.size<=(w1.alloc o).heap.size:=by simp
 have af:=hb.size;have ag:N<=g:=by
  rcases a with e|e
  ·exact(c g e).1
  ·simp at e; omega
 rcases BJ.1 hy with hy|hy
 ·have h1:Sl w (λb=>(Y b∨(N<=b/\some b≠v.ownBlock))/\b<w.heap.size) y.2.1 y.1.t.args:=(h.row y hy).mono λb h1 h2=>⟨h1,h2⟩;have h2:Sl w3 (λb=>(Y b∨(N<=b/\some b≠v.ownBlock))/\b<w.heap.size) y.2.1 y.1.t.args:=h1.kept λb hx=>by
   have d:some b≠v.ownBlock:=by
    rcases hx.1 with hy|hy
    ·exact h.ne (f b hy)
    ·exact hy.2
   rw[i.block b (by simp; omega) d,BH _ _ _ (by omega),hb.block b hx.2]
  refine h2.mono λb hx _=>?_;rcases hx.1 with hy|hy
  ·exact Ad hy
  ·refine Ae ⟨hy.1,λe=>?_⟩;simp[Value.ownBlock]at e;rcases a with e'|e'
   ·exact hy.2 (by rw[e',e])
   ·simp at e'; omega
 ·have e:y=x:=by simpa using hy
  subst e;have h1:Sl w1 (λb=>(Y b∨w.heap.size<=b)/\b<w1.heap.size) y.2.1 y.1.t.args:=ht.mono λb h1 h2=>⟨h1,h2⟩;have h2:Sl w3 (λb=>(Y b∨w.heap.size<=b)/\b<w1.heap.size) y.2.1 y.1.t.args:=h1.kept λb hx=>by
   have d:some b≠v.ownBlock:=by
    rcases hx.1 with hy|hy
    ·exact h.ne (f b hy)
    ·intro e; have:=(c b e.symm).2; omega
   rw[i.block b (by simp; omega) d,BH _ _ _ hx.2]
  refine h2.mono λb hx _=>?_;rcases hx.1 with hy|hy
  ·exact Ad hy
  ·refine Ae ⟨by omega,λe=>?_⟩;simp[Value.ownBlock]at e;rcases a with e'|e'
   ·have:=(c g e').2; omega
   ·simp at e'; omega
theorem Cm.bv {w:World} {N:Nat} {Y:Nat->Prop} {v:Value} {cs:List Bc} (h:Cm w N Y v cs):BV w (λb=>Y b∨N<=b) v (cs.map (·.1)):=by
 have d:cs.length<=9223372036854775807:=by
  rcases h.own.2 with ⟨_,h0⟩|⟨g,cap,cur,_,_,_,h1,h2,_⟩
  ·omega
  ·unfold maxLen at h2; omega
 by_cases h0:0<cs.length
 ·obtain⟨g,cap,rfl,f,hlt,hc⟩:=EU h.own h0;have j:cs.length<=cap:=by
   rcases h.own.2 with ⟨e,_⟩|⟨g',ae,cur,e,_,_,h1,_⟩
   ·cases e
   ·simp at e; omega
  refine⟨_,cap,by simp,⟨by simpa using d,by simpa using j⟩,Ae ⟨g,0,rfl,Ae f,λi hi=>?_⟩⟩;have a:i<cs.length:=by simpa using hi
  have g0:=hc (i*3+0) (.string cs[i].1.nm) (by rw[JV cs i a 0 (by decide)]; rfl);have g1:=hc (i*3+1) (.string cs[i].1.t.name) (by rw[JV cs i a 1 (by decide)]; rfl);have g2:=hc (i*3+2) (.slice cs[i].2.1 cs[i].1.t.args.length cs[i].2.2) (by rw[JV cs i a 2 (by decide)]; rfl);simp only[Im,Hq];exact⟨g0,g1,_,_,g2,(h.row cs[i] (Bu a)).mono λb hb _=>hb.imp id (λh=>h.1)⟩
 ·have e:cs=[]:=GJ.1 (by omega);subst e;rcases h.own.2 with ⟨c,_⟩|⟨g,cap,cur,c,_⟩
  ·exact⟨none,0,c,by simp,Ad rfl⟩
  ·exact⟨_,_,c,by simp,Ad rfl⟩
def Cw (a b:ByteArray):Bool:=Op.bytesLess a.toList b.toList
theorem Pn:∀a:List UInt8,Op.bytesLess a a=false
 | []=>rfl
 |x::r=>by simp[Op.bytesLess,Pn r]
theorem Po:∀a b c:List UInt8,Op.bytesLess a b=true->Op.bytesLess b c=true->Op.bytesLess a c=true
 |_,[],_,h,_=>by simp[Op.bytesLess] at h
 |_,_::_,[],_,h=>by simp[Op.bytesLess] at h
 | [],_::_,_::_,_,_=>by simp[Op.bytesLess]
 |x::a,y::b,z::c,h1,h2=>by
  simp only[Op.bytesLess,Bool.or_eq_true,Bool.and_eq_true,decide_eq_true_eq,beq_iff_eq] at h1 h2 ⊢;rw[UInt8.lt_iff_toNat_lt]at h1 h2 ⊢;rcases h1 with h1|⟨rfl,h1⟩<;>rcases h2 with h2|⟨rfl,h2⟩
  ·left; omega
  ·left; exact h1
  ·left; exact h2
  ·right; exact⟨rfl,Po a b c h1 h2⟩
theorem Pp:∀a b:List UInt8,Op.bytesLess a b=false->Op.bytesLess b a=false->a=b
 | [],[],_,_=>rfl
 | [],_::_,h,_=>by simp[Op.bytesLess] at h
 |_::_,[],_,h=>by simp[Op.bytesLess] at h
 |x::a,y::b,h1,h2=>by
  simp only[Op.bytesLess,MP,decide_eq_false_iff_not] at h1 h2;obtain⟨h1,h3⟩:=h1;obtain⟨h2,c⟩:=h2;rw[UInt8.lt_iff_toNat_lt]at h1 h2;have e:x=y:=UInt8.toNat_inj.mp (by omega);subst e;simp only[BEq.rfl,Bool.true_and] at h3 c;rw[Pp a b h3 c]
theorem Pq (a:ByteArray):Cw a a=false:=Pn _
theorem Nd {a b c:ByteArray} (h1:Cw a b=true) (h2:Cw b c=true):Cw a c=true:=Po _ _ _ h1 h2
theorem Nf {a b:ByteArray} (h1:Cw a b=false) (h2:Cw b a=false):a=b:=FY (Pp _ _ h1 h2)
theorem Ps {a b:ByteArray} (h:Cw a b=true):Cw b a=false:=by
 cases hb:Cw b a with
 |false=>rfl
 |true=>have:=Nd h hb; rw[Pq] at this; cases this
theorem VB {a b c:ByteArray} (h1:Cw a b=false) (h2:Cw b c=false):Cw a c=false:=by
 cases h:Cw a c with
 |false=>rfl
 |true=>
  cases h3:Cw b a with
  |true=>rw[Nd h3 h] at h2; cases h2
  |false=>have e:=Nf h1 h3;subst e;rw[h]at h2; cases h2
def Fk (l:List Bd):Prop:=l.Pairwise λa b=>Cw a.nm b.nm=true
def Eo (l:List Bd):Prop:=l.Pairwise λa b=>a.nm≠b.nm
theorem Fk.apart {l:List Bd} (h:Fk l):Eo l:=h.imp fun {a b} h e=>by rw[e,Pq] at h; cases h
theorem Eo.perm {l k:List Bd} (h:Eo l) (hp:k.Perm l):Eo k:=(hp.pairwise_iff (fun {_ _} a=>Ne.symm a)).2 h
theorem Ni {l k:List Bd} (hp:l.Perm k) (h1:Fk l) (h2:Fk k):l=k:=
 List.Perm.eq_of_pairwise (le:=λa b:Bd=>Cw a.nm b.nm=true) (λa b _ _ h3 c=>by rw[Ps h3] at c; cases c) h1 h2 hp
theorem Nj {l:List Bd} (c:Eo l) (h:l.Pairwise λa b=>Cw b.nm a.nm=false):Fk l:=by
 unfold Fk Eo at *;refine(List.pairwise_and_iff.2 ⟨c,h⟩).imp fun {a b} ⟨h1,h2⟩=>?_;cases h3:Cw a.nm b.nm with
 |true=>rfl
 |false=>exact absurd (Nf h3 h2) h1
def LV {α:Type} (f:α->Value) (w:World) (X:Nat->Prop) (v:Value) (l:List α):Prop:=
 ∃a c,v=.slice a l.length c/\(l.length<=9223372036854775807/\l.length<=c)/\(l=[]∨∃b o,a=some (zD b o)/\X b/\∀i (h:i<l.length),w.cell? ⟨b,o+i,none⟩=some (f l[i]))
theorem LV.kept {α:Type} {f:α->Value} {w w':World} {X:Nat->Prop} {v:Value} {l:List α} (h:LV f w X v l) (hk:∀b,X b->w'.heap[b]? = w.heap[b]?):LV f w' X v l:=by
 obtain⟨a,c,e,d,h⟩:=h;refine⟨a,c,e,d,?_⟩;rcases h with h|⟨b,o,e,hx,h⟩
 ·exact Ad h
 ·exact Ae ⟨b,o,e,hx,λi hi=>by rw[DC (hk b hx)]; exact h i hi⟩
theorem LV.mono {α:Type} {f:α->Value} {w:World} {X Y:Nat->Prop} {v:Value} {l:List α} (h:LV f w X v l) (hk:∀b,X b->b<w.heap.size->Y b):LV f w Y v l:=by
 obtain⟨a,c,e,d,h⟩:=h;refine⟨a,c,e,d,?_⟩;rcases h with h|⟨b,o,e,hx,h⟩
 ·exact Ad h
 ·by_cases h0:l=[]
  ·exact Ad h0
  ·have hp:0<l.length:=GI.2 h0;exact Ae ⟨b,o,e,hk b hx (World.block_lt_of_cell? w _ (h 0 hp)),h⟩
theorem LV.below {α:Type} {f:α->Value} {w w':World} {X:Nat->Prop} {v:Value} {l:List α} {B:Nat} (h:LV f w X v l) (hb:Below B w w') (a:∀b,X b->b<w.heap.size->b<B):LV f w' X v l:=by
 have h1:LV f w (λb=>X b/\b<B) v l:=h.mono λb hx c=>⟨hx,a b hx c⟩;have h2:LV f w' (λb=>X b/\b<B) v l:=h1.kept λb hx=>hb.block b hx.2;exact h2.mono λb hx _=>hx.1
theorem LV.later {α:Type} {f:α->Value} {w w':World} {X:Nat->Prop} {v:Value} {l:List α} (h:LV f w X v l) (hb:Below w.heap.size w w'):LV f w' X v l:=h.below hb (λ_ _ h=>h)
theorem LV.alloc {α:Type} {f:α->Value} {w:World} {X:Nat->Prop} {v:Value} {l:List α} (h:LV f w X v l) (o:Obj):LV f (w.alloc o) X v l:=h.later ((Ac _ _).alloc (Ag _) o)
theorem LV.of_own {α:Type} {f:α->Value} {w:World} {N T:Nat} {v:Value} {l:List α} (h:w.ownsRow N T 1 v l.length (l.map f)):LV f w (λb=>N<=b) v l:=by
 have h':=h;obtain⟨_,h1⟩:=h;rcases h1 with ⟨rfl,h0⟩|⟨g,cap,cur,c,d,hh,j,k,_⟩
 ·have e:l=[]:=GJ.1 h0;subst e;exact⟨none,0,rfl,by simp,Ad rfl⟩
 ·unfold maxLen at k;refine⟨some (zD g 0),cap,c,⟨by omega,j⟩,?_⟩;by_cases h0:l=[]
  ·exact Ad h0
  ·have hp:0<l.length:=GI.2 h0;obtain⟨g2,ae,a,_,_,hc⟩:=EU h' hp;rw[c]at a;simp at a;obtain⟨rfl,rfl⟩:=a;exact Ae ⟨g,0,rfl,d,λi hi=>by rw[Hq]; exact hc i _ (by simp[hi])⟩
def Cd (x:ByteArray) (l:List ByteArray):Bool:=l.any λy=>y.toList==x.toList
theorem VC {x:ByteArray} {l:List ByteArray} {k:Nat} (h:k<l.length) (h0:Cd x (l.take k)=false) (h1:(l[k].toList==x.toList)=false):Cd x (l.take (k+1))=false:=by
 unfold Cd at *;rw[CB h,List.any_append,h0];simpa using h1
theorem VD {x:ByteArray} {l:List ByteArray} {k:Nat} (h:k<l.length) (h1:(l[k].toList==x.toList)=true):Cd x l=true:=by
 unfold Cd;rw[ER];exact⟨l[k],Bu h,h1⟩
theorem Lk (x:ByteArray) (l:List ByteArray) (v:Value) (w:World) (X:Nat->Prop) (m:LV Value.string w X v l):
  Calls prog 47 #[.string x,v] w λe w'=>e=.returned (.bool (Cd x l))/\w'=w:=by
 obtain⟨a,c,rfl,⟨hl,_⟩,h1⟩:=m;go_enter func47,ntmps47;go_wp2_with fail;go_loop [5] (λi=>∃k:Nat,k<=l.length/\i=zA k/\Cd x (l.take k)=false) (λi=>l.length-(intOf i).toNat)
 case atStart=>exact⟨0,Bm _,rfl,by simp[Cd]⟩
 case round=>
  obtain⟨k,hk,rfl,g⟩:=hrel;have j:=Aa g;clear g;by_cases d:k<l.length
  ·obtain⟨b,o,rfl,_,hc⟩:=h1.resolve_left (λh=>by rw[h] at d; simp at d);have d1:=hc k d;clear hc h1;cases hq:(l[k].toList==x.toList) with
   |true=>have f:=Aa (VD d hq);go_wp2_with fail;go_ret;exact⟨Ef f.o.symm,rfl⟩
   |false=>
    have f:=Aa (VC d j.o hq);go_wp2_with fail;go_round
    case rel=>exact⟨k+1,by omega,by go_num,f.o⟩
    case measure=>simp[intOf]; omega
  ·have n:l.take k=l:=Bv (by omega);have q:Hid (false=Cd x l):=Aa (by rw[<-j.o,n]);go_wp2_with fail;go_ret;exact⟨Ef q.o,rfl⟩
