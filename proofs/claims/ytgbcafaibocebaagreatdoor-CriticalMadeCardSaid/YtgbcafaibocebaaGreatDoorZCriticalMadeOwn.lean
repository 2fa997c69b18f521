/- Several texts in one. -/
import Derived.Test.YtgbcafaibocebaaGreatDoorSq
import Derived.WalkKit
import Derived.WalkSpells
import Derived.WalkLawsBesides
import Derived.Test.YtgbcafaibocebaaGreatDoorRows
import Derived.Deep.AppendLies
import Derived.BigQuiet
import Derived.Deep.RegionHeld
import Derived.Deep.RegionLaw
namespace Go.Proofs.YtgbcafaibocebaaGreatDoor
set_option linter.all false
set_option maxRecDepth 20000
set_option maxHeartbeats 8000000
open Go.RowKit Go.Proofs.Tryz
theorem Aa {p:Prop} (h:p):Hid p:=h
structure Tm where
 name:ByteArray
 args:List Tm
abbrev zF (t:Tm) (a:Option Addr) (c:Nat):Array Value:=#[.string t.name,.slice a t.args.length c]
theorem Tm.ind {P:Tm->Prop} (h:∀s l,(∀x∈l,P x)->P ⟨s,l⟩) (t:Tm):P t:=
 Tm.rec (motive_1:=P) (motive_2:=λl=>∀x∈l,P x) (λs l b=>h s l b) (λx hx=>by cases hx)
  (λa l c d x hx=>by
   rcases Bq.1 hx with e|e
   ·subst e; exact c
   ·exact d x e) t
theorem Tm.indL {P:List Tm->Prop} (h0:P []) (h:∀s l r,P l->P r->P (⟨s,l⟩::r)) (l:List Tm):P l:=
 Tm.rec_1 (motive_1:=λt=>P t.args) (motive_2:=P) (λ_ _ b=>b) h0 (λa l c d=>by obtain⟨s,k⟩:=a; exact h s k l c d) l
def Ab:List Tm->Nat
 | []=>0
 | ⟨_,l⟩::r=>1+Ab l+Ab r
theorem Eb (a b:List Tm):Ab (a++b)=Ab a+Ab b:=by
 induction a with
 |nil=>simp[Ab]
 |cons t r c=>obtain⟨s,l⟩:=t; simp only[Cj,Ab,c]; omega
def Dd (w:World) (X:Nat->Prop):Nat->Nat->List Tm->Prop
 |_,_,[]=>True
 |b,o,⟨s,l⟩::r=>X b/\w.cell? (zD b o)=some (.string s)/\
   (∃a c,w.cell? ⟨b,o+1,none⟩=some (.slice a l.length c)/\l.length<=9223372036854775807/\(l=[]∨∃b' o',a=some (zD b' o')/\Dd w X b' o' l))/\Dd w X b (o+2) r
def Sl (w:World) (X:Nat->Prop) (a:Option Addr) (l:List Tm):Prop:=l.length<=9223372036854775807/\(l=[]∨∃b o,a=some (zD b o)/\Dd w X b o l)
def TV (w:World) (X:Nat->Prop) (v:Value) (t:Tm):Prop:=∃a c,v=.agg (zF t a c)/\Sl w X a t.args
theorem U9 {w w':World} {X:Nat->Prop} (h:∀b,X b->w'.heap[b]? = w.heap[b]?) (l:List Tm):∀b o,Dd w X b o l->Dd w' X b o l:=by
 induction l using Tm.indL with
 |h0=>intro b o _; simp[Dd]
 |h s l r aa ab=>
  intro b o d;simp only[Dd] at d ⊢;obtain⟨hx,h1,⟨a,c,h2,e,h3⟩,f⟩:=d;refine⟨hx,by rw[CV (h b hx)]; exact h1,⟨a,c,by rw[CV (h b hx)]; exact h2,e,?_⟩,ab _ _ f⟩;rcases h3 with h3|⟨b',o',h3,g⟩
  ·exact Ad h3
  ·exact Ae ⟨b',o',h3,aa _ _ g⟩
theorem Va {w:World} {X Y:Nat->Prop} (h:∀b,X b->b<w.heap.size->Y b) (l:List Tm):∀b o,Dd w X b o l->Dd w Y b o l:=by
 induction l using Tm.indL with
 |h0=>intro b o _; simp[Dd]
 |h s l r aa ab=>
  intro b o d;simp only[Dd] at d ⊢;obtain⟨hx,h1,⟨a,c,h2,f,h3⟩,g⟩:=d;have hb:b<w.heap.size:=by
   apply Hw;intro hn;have e:w.heap[b]? = none:=Jv (by omega);simp[World.cell?,e]at h1
  refine⟨h b hx hb,h1,⟨a,c,h2,f,?_⟩,ab _ _ g⟩;rcases h3 with h3|⟨b',o',h3,i⟩
  ·exact Ad h3
  ·exact Ae ⟨b',o',h3,aa _ _ i⟩
theorem Sl.kept {w w':World} {X:Nat->Prop} {a:Option Addr} {l:List Tm} (h:Sl w X a l) (hk:∀b,X b->w'.heap[b]? = w.heap[b]?):Sl w' X a l:=by
 obtain⟨c,h⟩:=h;refine⟨c,?_⟩;rcases h with h|⟨b,o,e,h⟩
 ·exact Ad h
 ·exact Ae ⟨b,o,e,U9 hk _ _ _ h⟩
theorem Sl.mono {w:World} {X Y:Nat->Prop} {a:Option Addr} {l:List Tm} (h:Sl w X a l) (hk:∀b,X b->b<w.heap.size->Y b):Sl w Y a l:=by
 obtain⟨c,h⟩:=h;refine⟨c,?_⟩;rcases h with h|⟨b,o,e,h⟩
 ·exact Ad h
 ·exact Ae ⟨b,o,e,Va hk _ _ _ h⟩
theorem Sl.below {w w':World} {X:Nat->Prop} {a:Option Addr} {l:List Tm} {B:Nat} (h:Sl w X a l) (hb:Below B w w') (c:∀b,X b->b<w.heap.size->b<B):Sl w' X a l:=by
 have h1:Sl w (λb=>X b/\b<B) a l:=h.mono λb hx hs=>⟨hx,c b hx hs⟩;have h2:Sl w' (λb=>X b/\b<B) a l:=h1.kept λb hx=>hb.block b hx.2;exact h2.mono λb hx _=>hx.1
theorem TV.kept {w w':World} {X:Nat->Prop} {v:Value} {t:Tm} (h:TV w X v t) (hk:∀b,X b->w'.heap[b]? = w.heap[b]?):TV w' X v t:=by
 obtain⟨a,c,e,h⟩:=h;exact⟨a,c,e,h.kept hk⟩
theorem TV.mono {w:World} {X Y:Nat->Prop} {v:Value} {t:Tm} (h:TV w X v t) (hk:∀b,X b->b<w.heap.size->Y b):TV w Y v t:=by
 obtain⟨a,c,e,h⟩:=h;exact⟨a,c,e,h.mono hk⟩
theorem TV.below {w w':World} {X:Nat->Prop} {v:Value} {t:Tm} {B:Nat} (h:TV w X v t) (hb:Below B w w') (d:∀b,X b->b<w.heap.size->b<B):TV w' X v t:=by
 obtain⟨a,c,e,h⟩:=h;exact⟨a,c,e,h.below hb d⟩
theorem TV.alloc {w:World} {X:Nat->Prop} {v:Value} {t:Tm} (h:TV w X v t) (o:Obj):TV (w.alloc o) X v t:=
 h.below ((Af _ _).alloc (Ai _) o) (λ_ _ h=>h)
theorem TV.later {w w':World} {X:Nat->Prop} {v:Value} {t:Tm} (h:TV w X v t) (hb:Below w.heap.size w w'):TV w' X v t:=h.below hb (λ_ _ h=>h)
theorem Sl.later {w w':World} {X:Nat->Prop} {a:Option Addr} {l:List Tm} (h:Sl w X a l) (hb:Below w.heap.size w w'):Sl w' X a l:=h.below hb (λ_ _ h=>h)
theorem Ge {w:World} {X:Nat->Prop}:∀(l:List Tm) (b o:Nat),Dd w X b o l->∀i (h:i<l.length),
  X b/\w.cell? ⟨b,o+i*2,none⟩=some (.string l[i].name)/\∃a c,w.cell? ⟨b,o+i*2+1,none⟩=some (.slice a l[i].args.length c)/\Sl w X a l[i].args:=by
 intro l;induction l with
 |nil=>intro b o _ i h; simp at h
 |cons t r e=>
  intro b o d i h;obtain⟨s,k⟩:=t;simp only[Dd] at d;obtain⟨hx,h1,⟨a,c,h2,h3⟩,f⟩:=d;cases i with
  |zero=>exact⟨hx,h1,a,c,h2,h3⟩
  |succ i=>have:=e b (o+2) f i (by simpa using h);simp only[Gw];rw[show o+(i+1)*2=o+2+i*2 by omega];exact this
theorem Mc {w:World} {X:Nat->Prop}:∀(l:List Tm) (b o:Nat),(∀i (h:i<l.length),
  X b/\w.cell? ⟨b,o+i*2,none⟩=some (.string l[i].name)/\∃a c,w.cell? ⟨b,o+i*2+1,none⟩=some (.slice a l[i].args.length c)/\Sl w X a l[i].args)->Dd w X b o l:=by
 intro l;induction l with
 |nil=>intro b o _; simp[Dd]
 |cons t r e=>intro b o d;obtain⟨s,k⟩:=t;simp only[Dd];obtain⟨hx,h1,a,c,h2,h3⟩:=d 0 (by simp);refine⟨hx,h1,⟨a,c,h2,h3⟩,e b (o+2) λi h=>?_⟩;have:=d (i+1) (by simpa using h);simp only[Gw] at this;rw[show o+(i+1)*2=o+2+i*2 by omega]at this;exact this
theorem Sl.get {w wr:World} {X:Nat->Prop} {a:Option Addr} {l:List Tm} {B:Nat} (h:Sl w X a l) (hb:Below B w wr) (d:∀b,X b->b<w.heap.size->b<B) (k:Nat) (hk:k<l.length):
  ∃b o c c',a=some (zD b o)/\wr.cell? ⟨b,o+k*2,none⟩=some (.string l[k].name)/\wr.cell? ⟨b,o+k*2+1,none⟩=some (.slice c l[k].args.length c')/\TV wr X (.agg (zF l[k] c c')) l[k]:=by
 have h':=h.below hb d;obtain⟨_,h1⟩:=h';rcases h1 with h1|⟨b,o,e,h1⟩
 ·subst h1; simp at hk
 ·obtain⟨_,h2,c,c',h3,f⟩:=Ge _ _ _ h1 k hk;exact⟨b,o,c,c',e,h2,h3,c,c',rfl,f⟩
structure Bd where
 nm:ByteArray
 t:Tm
def BV (w:World) (X:Nat->Prop) (v:Value) (l:List Bd):Prop:=
 ∃a c,v=.slice a l.length c/\(l.length<=9223372036854775807/\l.length<=c)/\(l=[]∨∃b o,a=some (zD b o)/\X b/\∀i (h:i<l.length),w.cell? ⟨b,o+i*3,none⟩=some (.string l[i].nm)/\w.cell? ⟨b,o+i*3+1,none⟩=some (.string l[i].t.name)/\∃a' c',w.cell? ⟨b,o+i*3+2,none⟩=some (.slice a' l[i].t.args.length c')/\Sl w X a' l[i].t.args)
theorem BV.kept {w w':World} {X:Nat->Prop} {v:Value} {l:List Bd} (h:BV w X v l) (hk:∀b,X b->w'.heap[b]? = w.heap[b]?):BV w' X v l:=by
 obtain⟨a,c,e,f,h⟩:=h;refine⟨a,c,e,f,?_⟩;rcases h with h|⟨b,o,g,d,h⟩
 ·exact Ad h
 ·refine Ae ⟨b,o,g,d,λi hi=>?_⟩;obtain⟨h1,h2,j,c',h3,k⟩:=h i hi;have hb:=hk b d;exact⟨by simpa [World.cell?,hb] using h1,by simpa [World.cell?,hb] using h2,j,c',by simpa [World.cell?,hb] using h3,k.kept hk⟩
theorem Ej {w:World} {b o:Nat} {v:Value} (h:w.cell? (zD b o)=some v):b<w.heap.size:=by
 rcases Nat.lt_or_ge b w.heap.size with h'|h'
 ·exact h'
 ·simp[World.cell?,Jv h']at h
theorem BV.mono {w:World} {X Y:Nat->Prop} {v:Value} {l:List Bd} (h:BV w X v l) (hk:∀b,X b->b<w.heap.size->Y b):BV w Y v l:=by
 obtain⟨a,c,e,d,h⟩:=h;refine⟨a,c,e,d,?_⟩;rcases h with h|⟨b,o,f,g,h⟩
 ·exact Ad h
 ·by_cases h0:l=[]
  ·exact Ad h0
  ·have hp:0<l.length:=Fp.2 h0;refine Ae ⟨b,o,f,hk b g (Ej (h 0 hp).1),λi hi=>?_⟩;obtain⟨h1,h2,j,c',h3,k⟩:=h i hi;exact⟨h1,h2,j,c',h3,k.mono hk⟩
theorem BV.later {w w':World} {X:Nat->Prop} {v:Value} {l:List Bd} (h:BV w X v l) (hb:Below w.heap.size w w'):BV w' X v l:=
 ((h.mono (Y:=λb=>X b/\b<w.heap.size) λb h1 h2=>⟨h1,h2⟩).kept λb hx=>hb.block b hx.2).mono λb hx _=>hx.1
theorem BV.alloc {w:World} {X:Nat->Prop} {v:Value} {l:List Bd} (h:BV w X v l) (o:Obj):BV (w.alloc o) X v l:=h.later ((Af _ _).alloc (Ai _) o)
theorem BV.get {w:World} {X:Nat->Prop} {a:Option Addr} {n c:Nat} {l:List Bd} (h:BV w X (.slice a n c) l) (i:Nat) (hi:i<l.length):
  ∃b o d c',a=some (zD b o)/\w.cell? ⟨b,o+i*3,none⟩=some (.string l[i].nm)/\w.cell? ⟨b,o+i*3+1,none⟩=some (.string l[i].t.name)/\w.cell? ⟨b,o+i*3+2,none⟩=some (.slice d l[i].t.args.length c')/\Sl w X d l[i].t.args:=by
 obtain⟨a2,c2,e,hl,h⟩:=h;simp at e;obtain⟨rfl,rfl,rfl⟩:=e;rcases h with h|⟨b,o,f,hX,h⟩
 ·subst h; simp at hi
 ·obtain⟨h1,h2,d,c',h3,g⟩:=h i hi;exact⟨b,o,d,c',f,h1,h2,h3,g⟩
theorem Eu {a b:ByteArray} (h:a.toList=b.toList):a=b:=by
 rw[G3,G3]at h;cases a with
 |mk x=>
  cases b with
  |mk y=>congr 1; exact Array.toList_inj.1 h
theorem Ia {a b:ByteArray} (h:a=b):(a.toList==b.toList)=true:=by rw[h]; simp
theorem JG {a b:ByteArray} (h:a≠b):(a.toList==b.toList)=false:=DU.2 λe=>h (Eu e)
def As:List Bd->ByteArray->Option Tm
 | [],_=>none
 |d::r,n=>if d.nm=n then some d.t else As r n
theorem Vb {l:List Bd} {n:ByteArray} {k:Nat} (hk:k<l.length) (h:As (l.take k) n=none):(l[k].nm=n->As l n=some l[k].t)/\(l[k].nm≠n->As (l.take (k+1)) n=none):=by
 induction l generalizing k with
 |nil=>simp at hk
 |cons d r a=>
  cases k with
  |zero=>
   refine⟨λe=>?_,λe=>?_⟩
   ·simp only[EI] at e; simp[As,e]
   ·simp only[EI] at e; simp[As,e]
  |succ k=>
   simp only[Ff,As] at h;by_cases hd:d.nm=n
   ·rw[Ar hd]at h; cases h
   ·rw[Aj hd]at h;obtain⟨h1,h2⟩:=a (by simpa using hk) h;refine⟨λe=>?_,λe=>?_⟩
    ·rw[As,Aj hd]; exact h1 (by simpa using e)
    ·rw[Ff,As,Aj hd]; exact h2 (by simpa using e)
theorem Oh {W w1:World} {B:Nat} (hb:Below B W w1):(∀b o,b<B->w1.cell? (zD b o)=W.cell? (zD b o))/\(∀b o,b<B->w1.frozen? (zD b o)=W.frozen? (zD b o)):=
 ⟨λb o h=>hb.cell (p:=(zD b o)) h,λb o h=>hb.frozen (p:=(zD b o)) h⟩
theorem De (l:List Tm) (k:Nat) (h:k<l.length):Ab (l.take (k+1))=Ab (l.take k)+Ab [l[k]]:=by
 rw[Bo h,Eb]
theorem Df (l:List Tm) (k:Nat):Ab (l.take k)<=Ab l:=by
 have:=Eb (l.take k) (l.drop k);rw[EJ]at this;omega
theorem BI {k:IntKind} {a b:Int} (h:a=b):Ending.returned (.int k a)=.returned (.int k b):=by rw[h]
theorem GF {w wr:World} {o:Obj} (hb:Below (w.heap.size+1) (w.alloc o) wr):Below w.heap.size w wr:=
 ((Af _ _).alloc (Ai _) _).trans (hb.mono (Nat.le_succ _))
theorem IG (t:Tm):∀(v:Value) (most:Int) (w:World) (X:Nat->Prop),TV w X v t->0<=most->most<=1000000->
  Calls prog 11 #[v,zA most] w λe w'=>e=.returned (zA (min (Ab [t]) (most+1)))/\Below w.heap.size w w':=by
 induction t using Tm.ind with
 |h s l f=>
  intro v most w X hv ah ai;obtain⟨a,c,rfl,hs⟩:=hv;have j:=Aa f;clear f;go_enter func11,ntmps11;go_wp2_with fail;go_loopw [5,6] (λn i wr=>∃k:Nat,k<=l.length/\i=zA k/\n=zA (min (1+Ab (l.take k)) (most+1))/\Below (w.heap.size+1) (w.alloc (Obj.cells #[Value.string s,Value.slice a l.length c] 33)) wr) (λn i wr=>l.length-(intOf i).toNat);case atStart=>exact⟨0,AG _,rfl,by simp[Ab]; omega,Af _ _⟩
  case round=>
   obtain⟨k,hk,rfl,rfl,hb⟩:=hrel;have hc:=Oh hb;have c0:wr.cell? (zD w.heap.size 0)=some (.string s):=by rw[hc.1 _ _ (by omega)]; simp
   have c1:wr.cell? (zD w.heap.size 1)=some (.slice a l.length c):=by rw[hc.1 _ _ (by omega)]; simp
   have hl:=hs.1;have hn:0<=((1:Int)+Ab (l.take k)):=(by omega);by_cases d:k<l.length
   ·obtain⟨b,o,a',c',rfl,d0,d1,hx⟩:=hs.get (((Af _ _).alloc (Ai _) _).trans (hb.mono (Nat.le_succ _))) (λ_ _ h=>h) k d;by_cases hle:1+(Ab (l.take k):Int)<=most
    ·have aa:min (1+(Ab (l.take k):Int)) (most+1)=1+(Ab (l.take k):Int):=(by omega);rw[aa];go_wp2_with fail;refine(j.o _ (AN d) _ _ _ X hx (by omega) (by omega)).mono ?_;rintro e w1 ⟨rfl,ab⟩;have m:w.heap.size+1<=wr.heap.size:=by have:=hb.size; simpa using this
     have q:=Aa (De l k d);have aj:0<=min ((Ab [l[k]]:Int)) (most-(1+(Ab (l.take k):Int))+1):=(by omega);have ak:min ((Ab [l[k]]:Int)) (most-(1+(Ab (l.take k):Int))+1)<=1000001:=(by omega);go_wp2_with fail;go_roundw
     case rel=>exact⟨k+1,by omega,by go_num,by rw[q.o]; congr 1; omega,hb.trans (ab.mono m)⟩
     case measure=>simp[intOf]; omega
    ·have aa:min (1+(Ab (l.take k):Int)) (most+1)=most+1:=(by omega);rw[aa];have hz:(Ab [(⟨s,l⟩:Tm)]:Int)=1+Ab l:=(by simp[Ab]);have af:Ab (l.take k)<=Ab l:=Df l k;have r:=Aa (show(most+1:Int)=min (Ab [(⟨s,l⟩:Tm)]:Int) (most+1) by omega);clear hz;go_wp2_with fail;go_ret;exact⟨BI r.o,GF hb⟩
   ·have u:l.take k=l:=AX (by omega);rw[u];have hz:(Ab [(⟨s,l⟩:Tm)]:Int)=1+Ab l:=(by simp[Ab]);have g:=Aa hz;clear hz;go_wp2_with fail
    ·go_ret;exact⟨BI (by have:=g.o; omega),GF hb⟩
    ·go_ret;exact⟨BI (by have:=g.o; omega),GF hb⟩
def E6 (n:Int):Bool:=decide (48<=n)&&decide (n<=57)
def Gf (n:Int):Bool:=decide (65<=n)&&decide (n<=90)
def JH (n:Int):Bool:=decide (97<=n)&&decide (n<=122)
def Ib (n:Int):Bool:=JH n||Gf n
def Ek (n:Int):Bool:=Ib n||E6 n
theorem BJ {a b:Bool} (h:a=b):Ending.returned (.bool a)=.returned (.bool b):=by rw[h]
theorem Ku (n:Int) (w:World):Calls prog 135 #[.int .u8 n] w λe w'=>e=.returned (.bool (E6 n))/\w'=w:=by
 go_enter func135,ntmps135;go_wp2_with fail;all_goals (go_ret; refine⟨BJ ?_,rfl⟩; rw[FL]; simp[Ek,Ib,JH,Gf,E6]<;>omega)
theorem Oi (n:Int) (w:World):Calls prog 84 #[.int .u8 n] w λe w'=>e=.returned (.bool (Gf n))/\w'=w:=by
 go_enter func84,ntmps84;go_wp2_with fail;all_goals (go_ret; refine⟨BJ ?_,rfl⟩; rw[FL]; simp[Ek,Ib,JH,Gf,E6]<;>omega)
theorem Md (n:Int) (w:World):Calls prog 136 #[.int .u8 n] w λe w'=>e=.returned (.bool (Ib n))/\w'=w:=by
 go_enter func136,ntmps136;go_wp2_with (go_at_call 84; refine(Oi _ _).mono ?_; rintro e w' ⟨rfl,rfl⟩);all_goals (go_ret; refine⟨BJ ?_,rfl⟩; rw[FL]; simp[Ek,Ib,JH,Gf,E6]<;>omega)
theorem JI (n:Int) (w:World):Calls prog 32 #[.int .u8 n] w λe w'=>e=.returned (.bool (Ek n))/\w'=w:=by
 go_enter func32,ntmps32;go_wp2_with fail;all_goals (go_ret; refine⟨BJ ?_,rfl⟩; rw[FL]; simp[Ek,Ib,JH,Gf,E6]<;>omega)
def CA (s:ByteArray) (i:Nat):Int:=if h:i<s.size then (s[i].toNat:Int) else 0
theorem G8 {s:ByteArray} {i:Nat} (h:i<s.size):(s[i].toNat:Int)=CA s i:=by simp[CA,h]
def Al (s:ByteArray):Bool:=Gf (CA s 0)
def FM (s:ByteArray) (k:Nat):Bool:=(List.range k).all λi=>Ek (CA s i)
def AW (s:ByteArray):Bool:=decide (1<=s.size)&&decide (s.size<=8)&&!E6 (CA s 0)&&FM s s.size
theorem Me {s:ByteArray} (h:0<s.size):s.toList.isEmpty=false:=by
 rw[G3,List.isEmpty_eq_false_iff,<-Fp];simpa using h
theorem Mf {s:ByteArray} (h:¬0<s.size):s.toList.isEmpty=true:=by
 rw[G3,List.isEmpty_iff,<-EK];have:s.size=0:=by omega
 simpa using this
theorem Mg (s:ByteArray) (k:Nat):FM s (k+1)=(FM s k&&Ek (CA s k)):=by
 simp[FM,List.range_succ,List.all_append]
theorem Vc {s:ByteArray} {k n:Nat} (h:k<=n) (a:FM s k=false):FM s n=false:=by
 cases hn:FM s n with
 |false=>rfl
 |true=>
  rw[<-a]; symm
  unfold FM at hn ⊢;rw[Hx]at hn ⊢;intro x hx; exact hn x (by rw[List.mem_range] at hx ⊢; omega)
theorem Dy (s:ByteArray) (w:World):Calls prog 21 #[.string s] w λe w'=>e=.returned (.bool (Al s))/\w'=w:=by
 by_cases h:0<s.size
 ·have hb:=Aa (G8 h);have he:=Me h;go_enter func21,ntmps21;go_wp2_with fail;all_goals (go_ret; refine⟨BJ ?_,rfl⟩; have aa:=hb.o; rw[FL]; simp[Al,Gf]<;>omega)
 ·have he:=Mf h;have hv:Hid (false=Al s):=by simp[Hid,Al,CA,h,Gf]
  go_enter func21,ntmps21;go_wp2_with fail;go_ret;exact⟨BJ hv.o,rfl⟩
theorem CG (s:ByteArray) (w:World):Calls prog 59 #[.string s] w λe w'=>e=.returned (.bool (Al s))/\w'=w:=by
 by_cases h:0<s.size
 ·have hb:=Aa (G8 h);have he:=Me h;go_enter func59,ntmps59;go_wp2_with (go_at_call 84; refine(Oi _ _).mono ?_; rintro e w' ⟨rfl,rfl⟩);go_ret;refine⟨BJ ?_,rfl⟩;rw[hb.o]; rfl
 ·have he:=Mf h;have hv:Hid (false=Al s):=by simp[Hid,Al,CA,h,Gf]
  go_enter func59,ntmps59;go_wp2_with fail;go_ret;exact⟨BJ hv.o,rfl⟩
theorem II (s:ByteArray) (w:World) (h:0<s.size):Calls prog 59 #[.string s] w λe w'=>e=.returned (.bool (Al s))/\w'=w:=CG s w
theorem Oj {s:ByteArray} {k:Nat} (hk:k<s.size) (h:Ek (CA s k)=false):AW s=false:=by
 have h1:FM s (k+1)=false:=by rw[Mg,h]; simp
 have h2:=Vc (n:=s.size) (by omega) h1;simp[AW,h2]
theorem Kv (s:ByteArray) (w:World):Calls prog 117 #[.string s] w λe w'=>e=.returned (.bool (AW s))/\w'=w:=by
 by_cases h0:s.size<1
 ·have hn:Hid (false=AW s):=by simp[Hid,AW]; omega
  go_enter func117,ntmps117;go_wp2_with fail;go_ret;exact⟨BJ hn.o,rfl⟩
 ·by_cases h8:8<s.size
  ·have hn:Hid (false=AW s):=by simp[Hid,AW]; omega
   go_enter func117,ntmps117;go_wp2_with fail;all_goals (go_ret; exact⟨BJ hn.o,rfl⟩)
  ·have hb:=Aa (G8 (s:=s) (i:=0) (by omega));by_cases hd:E6 (CA s 0)=true
   ·have hn:Hid (false=AW s):=(by simp[Hid,AW,hd]);have c:=Aa hd;clear hd;go_enter func117,ntmps117;go_wp2_with (go_at_call 135; refine(Ku _ _).mono ?_; rintro e w' ⟨rfl,rfl⟩; rw[hb.o,c.o]);all_goals (go_ret; exact⟨BJ hn.o,rfl⟩)
   ·have c:Hid (E6 (CA s 0)=false):=(by simpa [Hid] using hd);clear hd;go_enter func117,ntmps117;go_wp2_with (go_at_call 135; refine(Ku _ _).mono ?_; rintro e w' ⟨rfl,rfl⟩; rw[hb.o,c.o]);go_loop [19] (λi=>∃k:Nat,k<=s.size/\i=zA k/\FM s k=true) (λi=>s.size-(intOf i).toNat)
    case atStart=>exact⟨0,AG _,rfl,rfl⟩
    case round=>
     obtain⟨k,hk,rfl,h⟩:=hrel;have g:=Aa h;clear h;by_cases j:k<s.size
     ·have aa:=Aa (G8 j);have ab:=Aa (Mg s k);cases d:Ib (CA s k) with
      |true=>
       have a:=Aa d;clear d;go_wp2_with (go_at_call 136; refine(Md _ _).mono ?_; rintro e w' ⟨rfl,rfl⟩; rw[aa.o,a.o]);go_round
       case rel=>exact⟨k+1,by omega,by go_num,by rw[ab.o,g.o,Ek,a.o]; rfl⟩
       case measure=>simp[intOf]; omega
      |false=>
       have a:=Aa d;clear d;cases f:E6 (CA s k) with
       |true=>
        have b:=Aa f;clear f;go_wp2_with (first|(go_at_call 136; refine(Md _ _).mono ?_; rintro e w' ⟨rfl,rfl⟩; rw[aa.o,a.o])|(go_at_call 135; refine(Ku _ _).mono ?_; rintro e w' ⟨rfl,rfl⟩; rw[aa.o,b.o]));go_round
        case rel=>exact⟨k+1,by omega,by go_num,by rw[ab.o,g.o,Ek,a.o,b.o]; rfl⟩
        case measure=>simp[intOf]; omega
       |false=>have b:=Aa f;clear f;go_wp2_with (first|(go_at_call 136; refine(Md _ _).mono ?_; rintro e w' ⟨rfl,rfl⟩; rw[aa.o,a.o])|(go_at_call 135; refine(Ku _ _).mono ?_; rintro e w' ⟨rfl,rfl⟩; rw[aa.o,b.o]));go_ret;exact⟨BJ (Oj j (by rw[Ek,a.o,b.o]; rfl)).symm,rfl⟩
     ·have hn:Hid (true=AW s):=(by have e:k=s.size:=(by omega);have:=g.o;rw[e]at this;simp[Hid,AW,this,c.o]; omega);go_wp2_with fail;go_ret;exact⟨BJ hn.o,rfl⟩
theorem IJ (s:ByteArray) (w:World):Calls prog 33 #[.string s] w λe w'=>e=.returned (.bool (AW s))/\w'=w:=by
 by_cases h0:0<s.size
 ·have he:=Me h0;have hb:=Aa (G8 h0);by_cases h8:8<s.size
  ·have hn:Hid (false=AW s):=by simp[Hid,AW]; omega
   go_enter func33,ntmps33;go_wp2_with fail;all_goals (go_ret; exact⟨BJ hn.o,rfl⟩)
  ·cases hd:E6 (CA s 0) with
   |true=>
    have hn:Hid (false=AW s):=(by simp[Hid,AW,hd]);have ae:48<=(s[0].toNat:Int):=by rw[hb.o]; simp[E6] at hd; exact hd.1
    have af:(s[0].toNat:Int)<=57:=by rw[hb.o]; simp[E6] at hd; exact hd.2
    clear hd;go_enter func33,ntmps33;go_wp2_with fail;all_goals (go_ret; exact⟨BJ hn.o,rfl⟩)
   |false=>
    have c:=Aa hd;clear hd;have h:(s[0].toNat:Int)<48∨(48<=(s[0].toNat:Int)/\57<(s[0].toNat:Int)):=(by have:=c.o; rw[hb.o]; simp[E6] at this; omega);rcases h with h1|⟨h1,h2⟩;all_goals
     go_enter func33,ntmps33;go_wp2_with fail;go_loop [3] (λi=>∃k:Nat,k<=s.size/\i=zA k/\FM s k=true) (λi=>s.size-(intOf i).toNat)
     case atStart=>exact⟨0,AG _,rfl,rfl⟩
     case round=>
      obtain⟨k,hk,rfl,d⟩:=hrel;have f:=Aa d;clear d;by_cases g:k<s.size
      ·have ab:=Aa (G8 g);have aa:=Aa (Mg s k);cases b:Ek (CA s k) with
       |true=>
        have a:=Aa b;clear b;go_wp2_with (go_at_call 32; refine(JI _ _).mono ?_; rintro e w' ⟨rfl,rfl⟩; rw[ab.o,a.o]);go_round
        case rel=>exact⟨k+1,by omega,by go_num,by rw[aa.o,f.o,a.o]; rfl⟩
        case measure=>simp[intOf]; omega
       |false=>have a:=Aa b;clear b;go_wp2_with (go_at_call 32; refine(JI _ _).mono ?_; rintro e w' ⟨rfl,rfl⟩; rw[ab.o,a.o]);go_ret;exact⟨BJ (Oj g a.o).symm,rfl⟩
      ·have hn:Hid (true=AW s):=(by have e:k=s.size:=(by omega);have:=f.o;rw[e]at this;simp[Hid,AW,this,c.o]; omega);go_wp2_with fail;go_ret;exact⟨BJ hn.o,rfl⟩
 ·have he:=Mf h0;have hn:Hid (false=AW s):=by simp[Hid,AW]; omega
  go_enter func33,ntmps33;go_wp2_with fail;all_goals (go_ret; exact⟨BJ hn.o,rfl⟩)
theorem Vd (s:ByteArray) (a:Option Addr) (n c:Nat) (w:World):
  Calls prog 99 #[.agg #[.string s,.slice a n c]] w λe w'=>e=.returned (.slice a n c)/\w'=w.alloc (.cells #[.string s,.slice a n c] 33):=by
 go_enter func99,ntmps99;go_wp2_with fail;go_ret;exact⟨rfl,rfl⟩
theorem Ve (M:Int) (ai:0<=M) (aj:M<=1000000) (t:Tm):∀(v:Value) (n:Int) (w:World) (X:Nat->Prop),TV w X v t->0<=n->n<=M->
  Calls prog 113 #[v,.func (.func 99) #[] #[],zA M,zA n] w λe w'=>e=.returned (zA (min (n+Ab [t]) (M+1)))/\Below w.heap.size w w':=by
 induction t using Tm.ind with
 |h s l f=>
  intro v n w X hv ak al;obtain⟨a,c,rfl,hs⟩:=hv;have g:=Aa f;clear f;have hz:Hid ((Ab [(⟨s,l⟩:Tm)]:Int)=1+Ab l):=by simp[Hid,Ab]
  go_enter func113,ntmps113;go_wp2_with (go_at_call 99; refine(Vd _ _ _ _ _).mono ?_; rintro e w' ⟨rfl,rfl⟩);have ab:Hid (Below w.heap.size w ((w.alloc (Obj.cells #[Value.string s,Value.slice a l.length c] 33)).alloc (Obj.cells #[Value.string s,Value.slice a l.length c] 33))):=((Af _ _).alloc (Ai _) _).alloc (by simp) _;have an:Hid (w.heap.size+2<=((w.alloc (Obj.cells #[Value.string s,Value.slice a l.length c] 33)).alloc (Obj.cells #[Value.string s,Value.slice a l.length c] 33)).heap.size):=by simp[Hid]
  generalize ((w.alloc (Obj.cells #[Value.string s,Value.slice a l.length c] 33)).alloc (Obj.cells #[Value.string s,Value.slice a l.length c] 33))=w0 at *;go_loopw [9,18] (λm i wr=>∃k:Nat,k<=l.length/\i=zA k/\m=zA (min (n+1+Ab (l.take k)) (M+1))/\Below w.heap.size w wr) (λm i wr=>l.length-(intOf i).toNat);case atStart=>exact⟨0,AG _,rfl,by rw[show Ab (l.take 0)=0 by simp[Ab]]; congr 1; omega,ab.o⟩
  case round=>
   obtain⟨k,hk,rfl,rfl,hb⟩:=hrel;have hl:=hs.1;have j:w.heap.size<=wr.heap.size:=hb.size;by_cases d:k<l.length
   ·obtain⟨b,o,a',c',rfl,d0,d1,hx⟩:=hs.get hb (λ_ _ h=>h) k d;by_cases hle:n+1+(Ab (l.take k):Int)<=M
    ·have aa:min (n+1+(Ab (l.take k):Int)) (M+1)=n+1+(Ab (l.take k):Int):=(by omega);rw[aa];go_wp2_with fail;refine(g.o _ (AN d) _ _ _ X (hx.alloc _) (by omega) (by omega)).mono ?_;rintro e w1 ⟨rfl,q⟩;have r:=Aa (De l k d);go_wp2_with fail;go_roundw
     case rel=>exact⟨k+1,by omega,by go_num,by rw[r.o]; congr 1; omega,(hb.alloc j _).trans (q.mono (by simp; omega))⟩
     case measure=>simp[intOf]; omega
    ·have aa:min (n+1+(Ab (l.take k):Int)) (M+1)=M+1:=(by omega);rw[aa];have ag:Ab (l.take k)<=Ab l:=Df l k;go_wp2_with fail;go_ret;refine⟨BI (by have:=hz.o; omega),?_⟩;exact hb.alloc (by omega) _
   ·have u:l.take k=l:=AX (by omega);rw[u];go_wp2_with fail;go_ret;exact⟨BI (by have:=hz.o; omega),hb⟩
theorem Vf (M:Int) (aa:0<=M) (ab:M<=1000000) (t:Tm) (v:Value) (w:World) (X:Nat->Prop) (hv:TV w X v t):
  Calls prog 98 #[v,.func (.func 99) #[] #[],zA M] w λe w'=>e=.returned (zA (min (Ab [t]:Int) (M+1)))/\Below w.heap.size w w':=by
 obtain⟨a,c,rfl,hs⟩:=hv;have hv:TV w X (.agg (zF t a c)) t:=⟨a,c,rfl,hs⟩;go_enter func98,ntmps98;go_wp2_with fail;refine(Ve M aa ab t _ _ _ X (hv.alloc _) (by omega) (by omega)).mono ?_;rintro e w1 ⟨rfl,b⟩;go_wp2_with fail;go_ret;exact⟨BI (by omega),((Af _ _).alloc (Ai _) _).trans (b.mono (by simp))⟩
theorem IK (M:Int) (aa:0<=M) (ab:M<=1000000) (t:Tm) (v:Value) (w:World) (X:Nat->Prop) (hv:TV w X v t):
  Calls prog 77 #[v,zA M] w λe w'=>e=.returned (zA (min (Ab [t]:Int) (M+1)))/\Below w.heap.size w w':=by
 obtain⟨a,c,rfl,hs⟩:=hv;have hv:TV w X (.agg (zF t a c)) t:=⟨a,c,rfl,hs⟩;go_enter func77,ntmps77;go_wp2_with fail;refine(Vf M aa ab t _ _ X (hv.alloc _)).mono ?_;rintro e w1 ⟨rfl,b⟩;go_wp2_with fail;go_ret;exact⟨BI (by omega),((Af _ _).alloc (Ai _) _).trans (b.mono (by simp))⟩
def Ah:List Tm->Int
 | []=>0
 | ⟨s,l⟩::r=>if AW s=true then (if (Al s&&decide (0<l.length))=true then 2 else if Ah l=0 then Ah r else Ah l) else 1
theorem GG (t:Tm) (r:List Tm):Ah (t::r)=if Ah [t]=0 then Ah r else Ah [t]:=by
 obtain⟨s,l⟩:=t;simp only[Ah];split
 ·split
  ·simp
  ·split<;>simp_all
 ·simp
theorem Ok (a b:List Tm):Ah (a++b)=if Ah a=0 then Ah b else Ah a:=by
 induction a with
 |nil=>simp[Ah]
 |cons t r c=>rw[Cj,GG,GG t r,c];by_cases h:Ah [t]=0<;>simp[h]
theorem Vg (l:List Tm) (k:Nat) (h:k<l.length):Ah (l.take (k+1))=if Ah (l.take k)=0 then Ah [l[k]] else Ah (l.take k):=by
 rw[Bo h,Ok]
theorem Vh {l:List Tm} {k:Nat} (h:Ah (l.take k)≠0):Ah l=Ah (l.take k):=by
 have:=Ok (l.take k) (l.drop k);rw[EJ,Aj h]at this;exact this
theorem Ol {s:ByteArray} (h:AW s=true):0<s.size:=by
 simp[AW]at h; omega
theorem Vi (t:Tm):∀(v:Value) (w:World) (X:Nat->Prop),TV w X v t->
  Calls prog 102 #[v] w λe w'=>e=.returned (zA (Ah [t]))/\Below w.heap.size w w':=by
 induction t using Tm.ind with
 |h s l r=>
  intro v w X hv;obtain⟨a,c,rfl,hs⟩:=hv;have y:=Aa r;clear r;have hl:=hs.1;cases hn:AW s with
  |false=>have hz:Hid (1=Ah [(⟨s,l⟩:Tm)]):=(by simp[Hid,Ah,hn]);have f:=Aa hn;clear hn;go_enter func102,ntmps102;go_wp2_with (go_at_call 117; refine(Kv _ _).mono ?_; rintro e w' ⟨rfl,rfl⟩; rw[f.o]);go_ret;exact⟨BI hz.o,(Af _ _).alloc (Ai _) _⟩
  |true=>
   have f:=Aa hn;have aa:=Ol hn;by_cases m:Al s=true/\0<l.length
   ·obtain⟨hv,z⟩:=m;have hz:Hid (2=Ah [(⟨s,l⟩:Tm)]):=(by simp[Hid,Ah,hn,hv,z]);have g:=Aa hv;clear hn hv;go_enter func102,ntmps102;go_wp2_with (first|(go_at_call 117; refine(Kv _ _).mono ?_; rintro e w' ⟨rfl,rfl⟩; rw[f.o])|(go_at_call 59; refine(II _ _ aa).mono ?_; rintro e w' ⟨rfl,rfl⟩; rw[g.o]));go_ret;exact⟨BI hz.o,(Af _ _).alloc (Ai _) _⟩
   ·have hz:Hid (Ah [(⟨s,l⟩:Tm)]=Ah l):=by
     have:(Al s&&decide (0<l.length))=false:=by
      rw[Jw]; intro h; simp at h; exact m ⟨h.1,by omega⟩
     simp only[Hid,Ah,hn,this];by_cases h0:Ah l=0<;>simp[h0]
    have ab:(Al s=true/\l.length<1)∨Al s=false:=by
     cases hv:Al s with
     |true=>exact Ad ⟨rfl,by apply Hw; intro h; exact m ⟨hv,by omega⟩⟩
     |false=>exact Ae rfl
    clear hn m;rcases ab with ⟨hv,ak⟩|hv
    ·have A:l=[]:=EK.1 (by omega);subst A;have g:=Aa hv;clear hv;go_enter func102,ntmps102;go_wp2_with (first|(go_at_call 117; refine(Kv _ _).mono ?_; rintro e w' ⟨rfl,rfl⟩; rw[f.o])|(go_at_call 59; refine(II _ _ aa).mono ?_; rintro e w' ⟨rfl,rfl⟩; rw[g.o]));go_loop [22] (λi=>i=zA 0) (λi=>0)
     case atStart=>rfl
     case round=>subst hrel;have d:Hid (0=Ah [(⟨s,[]⟩:Tm)]):=Aa (by rw[hz.o];simp[Ah]);go_wp2_with fail;go_ret;exact⟨BI d.o,(Af _ _).alloc (Ai _) _⟩
    ·have g:=Aa hv;clear hv;go_enter func102,ntmps102;go_wp2_with (first|(go_at_call 117; refine(Kv _ _).mono ?_; rintro e w' ⟨rfl,rfl⟩; rw[f.o])|(go_at_call 59; refine(II _ _ aa).mono ?_; rintro e w' ⟨rfl,rfl⟩; rw[g.o]));go_loopw [22] (λi wr=>∃k:Nat,k<=l.length/\i=zA k/\Ah (l.take k)=0/\Below (w.heap.size+1) (w.alloc (Obj.cells #[Value.string s,Value.slice a l.length c] 33)) wr) (λi wr=>l.length-(intOf i).toNat);case atStart=>exact⟨0,AG _,rfl,by simp[Ah],Af _ _⟩
     case round=>
      obtain⟨k,hk,rfl,he,hb⟩:=hrel;have n:=Aa he;clear he;have B:w.heap.size+1<=wr.heap.size:=by have:=hb.size; simpa using this
      by_cases q:k<l.length
      ·obtain⟨b,o,a',c',rfl,d0,d1,hx⟩:=hs.get (GF hb) (λ_ _ h=>h) k q;have u:=Aa (Vg l k q);go_wp2_with fail;refine(y.o _ (AN q) _ _ X (hx.alloc _)).mono ?_;rintro e w1 ⟨rfl,x⟩;by_cases j:Ah [l[k]]=0
       ·have d:=Aa j;rw[j];clear j;go_wp2_with fail;go_roundw
        case rel=>exact⟨k+1,by omega,by go_num,by rw[u.o,n.o,d.o]; rfl,(hb.alloc B _).trans (x.mono (by simp; omega))⟩
        case measure=>simp[intOf]; omega
       ·have ai:(Ah [l[k]]==0)=false:=(by simpa using j);have d:Hid (Ah [l[k]]=Ah [(⟨s,l⟩:Tm)]):=by
         have h1:Ah (l.take (k+1))=Ah [l[k]]:=by rw[u.o,n.o]; rfl
         unfold Hid;rw[hz.o,Vh (l:=l) (k:=k+1) (by rw[h1]; exact j),h1]
        go_wp2_with fail;go_ret;exact⟨BI d.o,((GF hb).alloc (by omega) _).trans (x.mono (by simp; omega))⟩
      ·have C:l.take k=l:=AX (by omega);have d:Hid (0=Ah [(⟨s,l⟩:Tm)]):=Aa (by rw[hz.o,<-C,n.o]);go_wp2_with fail;go_ret;exact⟨BI d.o,GF hb⟩
def AA (t:Tm):Int:=if 200<Ab [t] then 3 else Ah [t]
theorem Kw (t:Tm) (v:Value) (w:World) (X:Nat->Prop) (hv:TV w X v t):
  Calls prog 83 #[v] w λe w'=>e=.returned (zA (AA t))/\Below w.heap.size w w':=by
 obtain⟨a,c,rfl,hs⟩:=hv;have hv:TV w X (.agg (zF t a c)) t:=⟨a,c,rfl,hs⟩;go_enter func83,ntmps83;go_wp2_with fail;refine(IK 200 (by omega) (by omega) t _ _ X (hv.alloc _)).mono ?_;rintro e w1 ⟨rfl,aa⟩;have c0:w1.cell? (zD w.heap.size 0)=some (.string t.name):=by rw[aa.cell (p:=(zD _ _)) (by simp)]; simp
 have c1:w1.cell? (zD w.heap.size 1)=some (.slice a t.args.length c):=by rw[aa.cell (p:=(zD _ _)) (by simp)]; simp
 have hb2:Below w.heap.size w w1:=((Af _ _).alloc (Ai _) _).trans (aa.mono (by simp));by_cases h:200<Ab [t]
 ·have hm:Hid (3=AA t):=by simp[Hid,AA,h]
  have e:min (Ab [t]:Int) (200+1)=201:=by omega
  rw[e];go_wp2_with fail;go_ret;exact⟨BI hm.o,hb2⟩
 ·have hm:Hid (Ah [t]=AA t):=by simp[Hid,AA,h]
  have e:min (Ab [t]:Int) (200+1)=Ab [t]:=by omega
  rw[e];go_wp2_with fail;refine(Vi t _ _ X (hv.later hb2)).mono ?_;rintro e w2 ⟨rfl,ab⟩;go_wp2_with fail;go_ret;exact⟨BI hm.o,hb2.trans (ab.mono hb2.size)⟩
def BL (w:World) (X:Nat->Prop):List Tm->List Value->Prop
 | [],xs=>xs=[]
 |t::l,xs=>∃a c r,xs=.string t.name::.slice a t.args.length c::r/\Sl w X a t.args/\BL w X l r
theorem BL.len {w:World} {X:Nat->Prop}:∀ {l:List Tm} {xs:List Value},BL w X l xs->xs.length=l.length*2
 | [],xs,h=>by simp[BL] at h; simp[h]
 |t::l,xs,h=>by
  obtain⟨a,c,r,rfl,_,h⟩:=h;simp only[Bu];rw[BL.len h]; omega
theorem BL.append {w:World} {X:Nat->Prop}:∀ {l k:List Tm} {xs b:List Value},BL w X l xs->BL w X k b->BL w X (l++k) (xs++b)
 | [],k,xs,b,h,h'=>by simp[BL] at h; subst h; simpa using h'
 |t::l,k,xs,b,h,h'=>by
  obtain⟨a,c,r,rfl,hs,h⟩:=h;exact⟨a,c,r++b,rfl,hs,BL.append h h'⟩
theorem BL.one {w:World} {X:Nat->Prop}:∀ {l:List Tm} {xs:List Value},BL w X l xs->∀u∈xs,u.oneCell'=true
 | [],xs,h,u,hu=>by simp[BL] at h; subst h; cases hu
 |t::l,xs,h,u,hu=>by
  obtain⟨a,c,r,rfl,_,h⟩:=h;rcases Bq.1 hu with e|hu
  ·subst e; rfl
  ·rcases Bq.1 hu with e|hu
   ·subst e; rfl
   ·exact BL.one h u hu
theorem BL.imp {w w':World} {X Y:Nat->Prop} (hs:∀a l,Sl w X a l->Sl w' Y a l):∀ {l:List Tm} {xs:List Value},BL w X l xs->BL w' Y l xs
 | [],xs,h=>h
 |t::l,xs,h=>by
  obtain⟨a,c,r,e,h1,h⟩:=h;exact⟨a,c,r,e,hs _ _ h1,BL.imp hs h⟩
theorem BL.get {w:World} {X:Nat->Prop}:∀ {l:List Tm} {xs:List Value},BL w X l xs->∀i (h:i<l.length),
  xs[i*2]? = some (.string l[i].name)/\∃a c,xs[i*2+1]? = some (.slice a l[i].args.length c)/\Sl w X a l[i].args
 | [],xs,h,i,hi=>by simp at hi
 |t::l,xs,h,i,hi=>by
  obtain⟨a,c,r,rfl,h1,h⟩:=h;cases i with
  |zero=>exact⟨rfl,a,c,rfl,h1⟩
  |succ i=>have:=BL.get h i (by simpa using hi);rw[show(i+1)*2=i*2+2 by omega,show i*2+2+1=(i*2+1)+2 by omega];simpa using this
theorem EM (l:List Tm):l.length<=Ab l:=by
 induction l with
 |nil=>simp
 |cons t r ih=>obtain⟨s,k⟩:=t; simp only[Bu,Ab]; omega
theorem Vj {w:World} {X:Nat->Prop}:∀(l:List Tm) (b o:Nat),Dd w X b o l->∃xs,BL w X l xs/\∀j u,xs[j]? = some u->w.cell? ⟨b,o+j,none⟩=some u:=by
 intro l;induction l with
 |nil=>intro b o _; exact⟨[],rfl,by simp⟩
 |cons t r d=>
  intro b o h;obtain⟨s,k⟩:=t;simp only[Dd] at h;obtain⟨hx,h1,⟨a,c,h2,h3,e⟩,f⟩:=h;obtain⟨xs,g,hc⟩:=d b (o+2) f;refine⟨.string s::.slice a k.length c::xs,⟨a,c,xs,rfl,⟨h3,e⟩,g⟩,λj u hj=>?_⟩;match j,hj with
  |0,hj=>simp at hj; subst hj; exact h1
  |1,hj=>simp at hj; subst hj; exact h2
  |j+2,hj=>rw[show o+(j+2)=o+2+j by omega]; exact hc j u (by simpa using hj)
theorem Om {w w':World} {X Y:Nat->Prop} (b:Nat) (hb:Y b):∀(l:List Tm) (xs:List Value) (o:Nat),BL w X l xs->(∀a k,Sl w X a k->Sl w' Y a k)->(∀j u,xs[j]? = some u->w'.cell? ⟨b,o+j,none⟩=some u)->Dd w' Y b o l:=by
 intro l;induction l with
 |nil=>intro xs o _ _ _; simp[Dd]
 |cons t r d=>intro xs o h hs hc;obtain⟨s,k⟩:=t;obtain⟨a,c,e,rfl,h1,h2⟩:=h;simp only[Dd];obtain⟨h3,f⟩:=hs _ _ h1;refine⟨hb,hc 0 _ rfl,⟨a,c,hc 1 _ rfl,h3,f⟩,d e (o+2) h2 hs λj u hj=>?_⟩;have:=hc (j+2) u (by simpa using hj);rwa [show o+(j+2)=o+2+j by omega] at this
def Ao:List Tm->List Tm
 | []=>[]
 | ⟨s,l⟩::r=>⟨s,l⟩::(Ao l++Ao r)
theorem IL (a b:List Tm):Ao (a++b)=Ao a++Ao b:=by
 induction a with
 |nil=>simp[Ao]
 |cons t r c=>obtain⟨s,l⟩:=t; simp[Ao,c]
theorem JJ (l:List Tm) (k:Nat) (h:k<l.length):Ao (l.take (k+1))=Ao (l.take k)++Ao [l[k]]:=by
 rw[Bo h,IL]
theorem GH (l:List Tm):(Ao l).length=Ab l:=by
 induction l using Tm.indL with
 |h0=>simp[Ao,Ab]
 |h s l r aa ab=>simp[Ao,Ab,aa,ab]; omega
theorem Sl.back {w w':World} {X:Nat->Prop} {a:Option Addr} {l:List Tm} {B:Nat} (h:Sl w' X a l) (hb:Below B w w') (c:∀b,X b->b<B):Sl w X a l:=
 h.kept λb hx=>(hb.block b (c b hx)).symm
theorem EN {w:World} {base e size:Nat} {v:Value} {n:Nat} {xs:List Value} (h:w.ownsRow base e size v n xs) (hn:0<n):
  ∃g cap,v=.slice (some (zD g 0)) n cap/\base<=g/\g<w.heap.size/\∀j u,xs[j]? = some u->w.cell? (zD g j)=some u:=by
 have h':=h;obtain⟨hl,h1⟩:=h;rcases h1 with ⟨_,h0⟩|⟨g,cap,cur,hv,a,hh,_⟩
 ·omega
 ·subst hv;have b:=(h'.lt g rfl).2;refine⟨g,cap,rfl,a,b,λj u hj=>?_⟩;have:=h'.cells (g:=g) rfl j u hj;by_cases h0:j=0
  ·subst h0; simpa [Addr.add] using this
  ·simpa [Addr.add,h0] using this
theorem DD {P:Program} {ops:Array Oper} {rest:List Oper} {o:Oper} {a:Act} {Q:Exit->Act->World->Prop} {w w':World} {v u b:Value} (aa:o.guard=none) (s x:Operand) (t c:TypeId)
  (ho:o.op=.call { callee:=.builtin .append,args:=#[s,x],argTypes:=#[t,c]}) (hs:a.eval s=v) (hx:a.eval x=u)
  (d:(Builtin.append_ #[t,c] o.type #[v,u]).run P w=.ok b w') (h:wpList P ops Q rest (a.put o.dst b) w'):wpList P ops Q (o::rest) a w:=
 wpList_plain aa λK e=>by
  unfold Oper.wp execOp;simp only[ho,resolve,invoke,builtin,Sem.run_bind,Sem.run_pure,Result.andThen_ok,List.map_toArray,Cb,Hy,hs,hx,d];exact e _ _ h
theorem Tryz.infoTerm:(prog.info? 33).map (λi=>(i.zero,i.size,i.bytes))=some (some (.agg #[.string ByteArray.empty,zB]),2,40):=by kernel_rfl
theorem Vk {w:World} {base aa e size:Nat} {v:Value} {n:Nat} {xs:List Value} (h:w.ownsRow base e size v n xs) (hb:aa<=base):w.ownsRow aa e size v n xs:=by
 obtain⟨h0,h1⟩:=h;refine⟨h0,?_⟩;rcases h1 with h1|⟨g,cap,cur,hv,a,r⟩
 ·exact Ad h1
 ·exact Ae ⟨g,cap,cur,hv,AY hb a,r⟩
theorem Mh (t:Tm):∀(v:Value) (w:World) (X:Nat->Prop),TV w X v t->Ab [t]<=1000000->
  Calls prog 35 #[v] w λe w'=>∃r xs,e=.returned r/\w'.ownsRow w.heap.size 33 2 r (Ab [t]) xs/\BL w X (Ao [t]) xs/\Below w.heap.size w w':=by
 induction t using Tm.ind with
 |h s l y=>
  intro v w g z J;obtain⟨X,L,M,hv⟩:∃X:Nat->Prop,(∀b,X b->b<w.heap.size)/\(∀b,X b->g b)/\TV w X v ⟨s,l⟩:=⟨λb=>g b/\b<w.heap.size,λ_ h=>h.2,λ_ h=>h.1,z.mono λb h1 h2=>⟨h1,h2⟩⟩;clear z;obtain⟨a,c,rfl,hs⟩:=hv;have N:=Aa y;clear y;have hl:=hs.1;have hz:Ab [(⟨s,l⟩:Tm)]=1+Ab l:=by simp[Ab]
  rw[hz]at J ⊢;clear hz;obtain⟨i0,hi,O,R,T⟩:=CE Tryz.infoTerm;go_enter func35,ntmps35;go_wp2_with fail;go_loopw [3,4] (λv i wr=>∃(k:Nat) (xs:List Value),k<=l.length/\i=zA k/\wr.ownsRow (w.heap.size+1) 33 2 v (1+Ab (l.take k)) xs/\BL w X (⟨s,l⟩::Ao (l.take k)) xs/\Below (w.heap.size+1) (w.alloc (Obj.cells #[Value.string s,Value.slice a l.length c] 33)) wr) (λv i wr=>l.length-(intOf i).toNat);case atStart=>
   refine⟨0,[.string s,.slice a l.length c],AG _,rfl,⟨by simp[Ab],Ae ⟨w.heap.size+1,1,#[.string s,.slice a l.length c],by simp[Ab],Ai _,?_,by simp[Ab],by decide,by simp,by simp[Ab]⟩⟩,⟨a,c,[],rfl,hs,by simp[Ao,BL]⟩,(Af _ _).alloc (by simp) _⟩;have:=Et (w.alloc (Obj.cells #[Value.string s,Value.slice a l.length c] 33)) (Obj.cells #[Value.string s,Value.slice a l.length c] 33);simpa using this
  case round=>
   obtain⟨k,xs,hk,rfl,m,A,hb⟩:=hrel;have B:=Aa A;clear A;have hc:=Oh hb;have c0:wr.cell? (zD w.heap.size 0)=some (.string s):=by rw[hc.1 _ _ (by omega)]; simp
   have c1:wr.cell? (zD w.heap.size 1)=some (.slice a l.length c):=by rw[hc.1 _ _ (by omega)]; simp
   clear hc;have U:w.heap.size+1<=wr.heap.size:=by have:=hb.size; simpa using this
   by_cases n:k<l.length
   ·obtain⟨b,o,a',c',rfl,d0,d1,hx⟩:=hs.get (GF hb) (λ_ _ h=>h) k n;have C:=Aa (De l k n);have hle:=Df l (k+1);have aD:Ab (l.take k)+Ab [l[k]]<=Ab l:=by rw[<-C.o]; exact hle
    have V:0<Ab [l[k]]:=by generalize l[k]=t; obtain⟨s',l'⟩:=t; simp[Ab]; omega
    clear hle;go_wp2_with fail;refine(N.o _ (AN n) _ _ X hx (by omega)).mono ?_;rintro e w1 ⟨v1,f,rfl,ab,W,d⟩;have D:Hid (BL w X (Ao [l[k]]) f):=W.imp λa l h=>h.back (GF hb) L;have Y:=Aa ab.1;have Z:=Aa (EN ab V);obtain⟨g1,av,rfl,aH,aE,E⟩:=Z.o;have aa:w1.ownsRow (w.heap.size+1) 33 2 _ (1+Ab (l.take k)) xs:=m.kept (w':=w1) (row:=none) ⟨d.os,d.tape,d.output,d.size,λj hj _=>d.block j hj⟩ (by rcases Gx (Value.ownBlock _) with h|⟨x,h⟩; exact Ad h; exact Ae (by rw[h]; simp));have F:f.length=Ab [l[k]]*2:=Y.o;obtain⟨v2,w2,G,H,I,ar⟩:=run_append_own (P:=prog) w1 (w.heap.size+1) 31 31 33 i0 _ 2 40 underlying31 hi O R T rfl (by decide) _ _ xs aa
     (zD g1 0) (Ab [l[k]]) av f F (λj u hj=>by
      have:=E j u hj;by_cases h0:j=0
      ·subst h0; simpa [Addr.add] using this
      ·simpa [Addr.add,h0] using this) D.o.one (by unfold maxLen; omega) (by omega) (by have:=d.size; omega)
    clear ar;have hb2:Hid (Below (w.heap.size+1) (w.alloc (Obj.cells #[Value.string s,Value.slice (some (zD b o)) l.length c] 33)) w2):=
     (hb.trans (d.mono U)).grown I (by have:=d.size; omega) (λj hj=>(aa.lt j hj).1)
    have aF:Hid (BL w X (⟨s,l⟩::Ao (l.take (k+1))) (xs++f)):=Aa (by have:=B.o.append D.o;rw[JJ l k n];simpa using this);have q:=Aa H;clear ab aa H I E F;have HA:=Aa G;clear G;go_wp2_with (at_builtin; refine DD rfl _ _ _ _ rfl rfl rfl HA.o ?_);go_roundw
    case rel=>exact⟨k+1,xs++f,by omega,by go_num,by have:=q.o; rw[C.o,<-Jy]; exact this,aF.o,hb2.o⟩
    case measure=>simp[intOf]; omega
   ·have a1:l.take k=l:=AX (by omega);rw[a1]at m;have q:=Aa m;have aG:Hid (BL w g (Ao [(⟨s,l⟩:Tm)]) xs):=Aa (by have:=B.o;rw[a1]at this;have h2:BL w g (⟨s,l⟩::Ao l) xs:=this.imp λa l h=>h.mono λb hb _=>M b hb;simpa [Ao] using h2);clear m;go_wp2_with fail;go_ret;exact⟨_,xs,rfl,Vk q.o (by omega),aG.o,GF hb⟩
def Ew (t:Tm):Int:=if AW t.name=true then (if (Al t.name&&decide (0<t.args.length))=true then 2 else 0) else 1
def Dp:List Tm->Int
 | []=>0
 |t::r=>if Ew t=0 then Dp r else Ew t
theorem Mi (a b:List Tm):Dp (a++b)=if Dp a=0 then Dp b else Dp a:=by
 induction a with
 |nil=>simp[Dp]
 |cons t r c=>simp only[Cj,Dp,c]; by_cases h:Ew t=0<;>simp[h]
theorem Vl (l:List Tm):Ah l=Dp (Ao l):=by
 induction l using Tm.indL with
 |h0=>simp[Ah,Ao,Dp]
 |h s l r aa ab=>
  simp only[Ah,Ao,Dp,Mi,<-aa,<-ab,Ew];by_cases h1:AW s=true
  ·by_cases h2:(Al s&&decide (0<l.length))=true
   ·simp only[h1,h2,if_true]; simp
   ·simp only[h1,if_true]; rw[Aj h2,Aj h2]; simp
  ·rw[Aj h1,Aj h1]; simp
theorem Mj (l:List Tm) (k:Nat) (h:k<l.length):Dp (l.take (k+1))=if Dp (l.take k)=0 then Ew l[k] else Dp (l.take k):=by
 rw[Bo h,Mi];congr 1
 simp only[Dp];by_cases h:Ew l[k]=0<;>simp[h]
theorem Vm {l:List Tm} {k:Nat} (h:Dp (l.take k)≠0):Dp l=Dp (l.take k):=by
 have:=Mi (l.take k) (l.drop k);rw[EJ,Aj h]at this;exact this
theorem On {l:List Tm} {k:Nat} (h:k<l.length) (h0:Dp (l.take k)=0) (h1:Ew l[k]≠0):Dp l=Ew l[k]:=by
 have e:=Mj l k h;rw[Ar h0]at e;rw[<-e];exact Vm (by rw[e]; exact h1)
theorem Oo (t:Tm) (v:Value) (w:World) (X:Nat->Prop) (hv:TV w X v t):
  Calls prog 34 #[v] w λe w'=>e=.returned (zA (AA t))/\Below w.heap.size w w':=by
 obtain⟨a,c,rfl,hs⟩:=hv;have hv:TV w X (.agg (zF t a c)) t:=⟨a,c,rfl,hs⟩;go_enter func34,ntmps34;go_wp2_with fail;refine(IG t _ _ _ X (hv.alloc _) (by omega) (by omega)).mono ?_;rintro e w1 ⟨rfl,j⟩;have c0:w1.cell? (zD w.heap.size 0)=some (.string t.name):=by rw[j.cell (p:=(zD _ _)) (by simp)]; simp
 have c1:w1.cell? (zD w.heap.size 1)=some (.slice a t.args.length c):=by rw[j.cell (p:=(zD _ _)) (by simp)]; simp
 have hb2:Below w.heap.size w w1:=((Af _ _).alloc (Ai _) _).trans (j.mono (by simp));by_cases h:200<Ab [t]
 ·have hm:Hid (3=AA t):=by simp[Hid,AA,h]
  have e:min ((Ab [t]:Int)) (200+1)=201:=by omega
  rw[e];go_wp2_with fail;go_ret;exact⟨BI hm.o,hb2⟩
 ·have hm:Hid (Dp (Ao [t])=AA t):=by simp[Hid,AA,h,Vl]
  have e:min ((Ab [t]:Int)) (200+1)=Ab [t]:=by omega
  rw[e];go_wp2_with fail;refine(Mh t _ _ X (hv.later hb2) (by omega)).mono ?_;rintro e w2 ⟨v2,xs,rfl,aa,ab,n⟩;have q:0<Ab [t]:=by obtain⟨s',l'⟩:=t; simp[Ab]; omega
  obtain⟨g,cap,rfl,hg,ao,r⟩:=EN aa q;have m:=Aa (hb2.trans (n.mono hb2.size));have z:=Aa ab;have s:=Aa r;have u:=GH [t];generalize Ao [t]=ks at *;have aq:ks.length<=1000:=by omega
  rw[<-u];clear aa ab r n j c0 c1 u q e;go_wp2_with fail;go_loop [4] (λi=>∃k:Nat,k<=ks.length/\i=zA k/\Dp (ks.take k)=0) (λi=>ks.length-(intOf i).toNat)
  case atStart=>exact⟨0,AG _,rfl,by simp[Dp]⟩
  case round=>
   obtain⟨k,hk,rfl,he⟩:=hrel;have b:=Aa he;clear he;by_cases d:k<ks.length
   ·obtain⟨x,a',c',y,A⟩:=z.o.get k d;have d0:=s.o _ _ x;have d1:=s.o _ _ y;have ar:=A.1;clear x y;cases hn:AW ks[k].name with
    |false=>have f:=Aa hn;have hz:Hid (1=AA t):=Aa (by have:Ew ks[k]=1:=(by simp[Ew,hn]);rw[<-hm.o,On d b.o (by rw[this]; decide),this]);clear hn;go_wp2_with (go_at_call 33; refine(IJ _ _).mono ?_; rintro e w' ⟨rfl,rfl⟩; rw[f.o]);go_ret;exact⟨BI hz.o,m.o⟩
    |true=>
     have f:=Aa hn;cases hv:Al ks[k].name with
     |true=>
      have l:=Aa hv;by_cases hp:0<ks[k].args.length
      ·have hz:Hid (2=AA t):=Aa (by have:Ew ks[k]=2:=(by simp[Ew,hn,hv,hp]);rw[<-hm.o,On d b.o (by rw[this]; decide),this]);clear hn hv;go_wp2_with (first|(go_at_call 33; refine(IJ _ _).mono ?_; rintro e w' ⟨rfl,rfl⟩; rw[f.o])|(go_at_call 21; refine(Dy _ _).mono ?_; rintro e w' ⟨rfl,rfl⟩; rw[l.o]));go_ret;exact⟨BI hz.o,m.o⟩
      ·have hz:Hid (Dp (ks.take (k+1))=0):=Aa (by have:Ew ks[k]=0:=(by simp[Ew,hn,hv,hp]);rw[Mj _ _ d,b.o,this];rfl);clear hn hv;go_wp2_with (first|(go_at_call 33; refine(IJ _ _).mono ?_; rintro e w' ⟨rfl,rfl⟩; rw[f.o])|(go_at_call 21; refine(Dy _ _).mono ?_; rintro e w' ⟨rfl,rfl⟩; rw[l.o]));go_round
       case rel=>exact⟨k+1,by omega,by go_num,hz.o⟩
       case measure=>simp[intOf]; omega
     |false=>
      have l:=Aa hv;have hz:Hid (Dp (ks.take (k+1))=0):=Aa (by have:Ew ks[k]=0:=(by simp[Ew,hn,hv]);rw[Mj _ _ d,b.o,this];rfl);clear hn hv;go_wp2_with (first|(go_at_call 33; refine(IJ _ _).mono ?_; rintro e w' ⟨rfl,rfl⟩; rw[f.o])|(go_at_call 21; refine(Dy _ _).mono ?_; rintro e w' ⟨rfl,rfl⟩; rw[l.o]));go_round
      case rel=>exact⟨k+1,by omega,by go_num,hz.o⟩
      case measure=>simp[intOf]; omega
   ·have B:ks.take k=ks:=AX (by omega);have hz:Hid (0=AA t):=Aa (by rw[<-hm.o,<-B,b.o]);go_wp2_with fail;go_ret;exact⟨BI hz.o,m.o⟩
def CH (t x:Tm):Int:=if AA t=0 then AA x else AA t
theorem Vn (t x:Tm) (v u:Value) (w:World) (X:Nat->Prop) (hv:TV w X v t) (hu:TV w X u x):
  Calls prog 20 #[v,u] w λe w'=>e=.returned (zA (CH t x))/\Below w.heap.size w w':=by
 obtain⟨a,c,rfl,hs⟩:=hv;obtain⟨a2,c2,rfl,ab⟩:=hu;have hv:TV w X (.agg (zF t a c)) t:=⟨a,c,rfl,hs⟩;have hu:TV w X (.agg (zF x a2 c2)) x:=⟨a2,c2,rfl,ab⟩;go_enter func20,ntmps20;go_wp2_with fail;refine(Oo t _ _ X ((hv.alloc _).alloc _)).mono ?_;rintro e w1 ⟨rfl,aa⟩;have c0:w1.cell? (zD (w.heap.size+1) 0)=some (.string x.name):=by rw[aa.cell (p:=(zD _ _)) (by simp)]; simp
 have c1:w1.cell? (zD (w.heap.size+1) 1)=some (.slice a2 x.args.length c2):=by rw[aa.cell (p:=(zD _ _)) (by simp)]; simp
 have hb2:Below w.heap.size w w1:=(((Af _ _).alloc (Ai _) _).alloc (by simp) _).trans (aa.mono (by simp; omega));by_cases h:AA t=0
 ·have hz:Hid (AA x=CH t x):=by simp[Hid,CH,h]
  rw[h];clear h;go_wp2_with fail;refine(Oo x _ _ X (hu.later hb2)).mono ?_;rintro e w2 ⟨rfl,b⟩;go_wp2_with fail;go_ret;exact⟨BI hz.o,hb2.trans (b.mono hb2.size)⟩
 ·have hz:Hid (AA t=CH t x):=by simp[Hid,CH,h]
  have h':(AA t==0)=false:=by simpa using h
  clear h;go_wp2_with fail;go_ret;exact⟨BI hz.o,hb2⟩
theorem Oq (t:Tm) (v:Value) (w:World) (X:Nat->Prop) (hv:TV w X v t):
  Calls prog 19 #[v] w λe w'=>e=.returned (.bool (decide (3000<Ab [t])))/\Below w.heap.size w w':=by
 obtain⟨a,c,rfl,hs⟩:=hv;have hv:TV w X (.agg (zF t a c)) t:=⟨a,c,rfl,hs⟩;go_enter func19,ntmps19;go_wp2_with fail;refine(IG t _ _ _ X (hv.alloc _) (by omega) (by omega)).mono ?_;rintro e w1 ⟨rfl,aa⟩;have hb2:Below w.heap.size w w1:=((Af _ _).alloc (Ai _) _).trans (aa.mono (by simp));go_wp2_with fail;go_ret;exact⟨BJ (by rw[FL]; simp; omega),hb2⟩
structure Pr where
 l:Tm
 r:Tm
def QV (w:World) (X:Nat->Prop) (v:Value) (l:List Pr):Prop:=
 ∃a c,v=.slice a l.length c/\(l.length<=9223372036854775807/\l.length<=c)/\(l=[]∨∃b o,a=some (zD b o)/\X b/\∀i (h:i<l.length),∃a1 c1 a2 c2,w.cell? ⟨b,o+i*4,none⟩=some (.string l[i].l.name)/\w.cell? ⟨b,o+i*4+1,none⟩=some (.slice a1 l[i].l.args.length c1)/\w.cell? ⟨b,o+i*4+2,none⟩=some (.string l[i].r.name)/\w.cell? ⟨b,o+i*4+3,none⟩=some (.slice a2 l[i].r.args.length c2)/\Sl w X a1 l[i].l.args/\Sl w X a2 l[i].r.args)
theorem QV.kept {w w':World} {X:Nat->Prop} {v:Value} {l:List Pr} (h:QV w X v l) (hk:∀b,X b->w'.heap[b]? = w.heap[b]?):QV w' X v l:=by
 obtain⟨a,c,e,f,h⟩:=h;refine⟨a,c,e,f,?_⟩;rcases h with h|⟨b,o,g,d,h⟩
 ·exact Ad h
 ·refine Ae ⟨b,o,g,d,λi hi=>?_⟩;obtain⟨a1,c1,a2,c2,h1,h2,h3,j,k,h6⟩:=h i hi;have hb:=hk b d;exact⟨a1,c1,a2,c2,by simpa [World.cell?,hb] using h1,by simpa [World.cell?,hb] using h2,by simpa [World.cell?,hb] using h3,by simpa [World.cell?,hb] using j,k.kept hk,h6.kept hk⟩
theorem QV.mono {w:World} {X Y:Nat->Prop} {v:Value} {l:List Pr} (h:QV w X v l) (hk:∀b,X b->b<w.heap.size->Y b):QV w Y v l:=by
 obtain⟨a,c,e,d,h⟩:=h;refine⟨a,c,e,d,?_⟩;rcases h with h|⟨b,o,f,j,h⟩
 ·exact Ad h
 ·by_cases h0:l=[]
  ·exact Ad h0
  ·have hp:0<l.length:=Fp.2 h0;obtain⟨_,_,_,_,g,_⟩:=h 0 hp;refine Ae ⟨b,o,f,hk b j (Ej g),λi hi=>?_⟩;obtain⟨a1,c1,a2,c2,h1,h2,h3,k,m,h6⟩:=h i hi;exact⟨a1,c1,a2,c2,h1,h2,h3,k,m.mono hk,h6.mono hk⟩
theorem QV.later {w w':World} {X:Nat->Prop} {v:Value} {l:List Pr} (h:QV w X v l) (hb:Below w.heap.size w w'):QV w' X v l:=
 ((h.mono (Y:=λb=>X b/\b<w.heap.size) λb h1 h2=>⟨h1,h2⟩).kept λb hx=>hb.block b hx.2).mono λb hx _=>hx.1
theorem QV.alloc {w:World} {X:Nat->Prop} {v:Value} {l:List Pr} (h:QV w X v l) (o:Obj):QV (w.alloc o) X v l:=h.later ((Af _ _).alloc (Ai _) o)
theorem QV.get {w:World} {X:Nat->Prop} {a:Option Addr} {n c:Nat} {l:List Pr} (h:QV w X (.slice a n c) l) (i:Nat) (hi:i<l.length):
  ∃b o a1 c1 a2 c2,a=some (zD b o)/\w.cell? ⟨b,o+i*4,none⟩=some (.string l[i].l.name)/\w.cell? ⟨b,o+i*4+1,none⟩=some (.slice a1 l[i].l.args.length c1)/\w.cell? ⟨b,o+i*4+2,none⟩=some (.string l[i].r.name)/\w.cell? ⟨b,o+i*4+3,none⟩=some (.slice a2 l[i].r.args.length c2)/\Sl w X a1 l[i].l.args/\Sl w X a2 l[i].r.args:=by
 obtain⟨a2,c2,e,hl,h⟩:=h;simp at e;obtain⟨rfl,rfl,rfl⟩:=e;rcases h with h|⟨b,o,d,hX,h⟩
 ·subst h; simp at hi
 ·obtain⟨a1,c1,a2,c2,h1,h2,h3,f,g,h6⟩:=h i hi;exact⟨b,o,a1,c1,a2,c2,d,h1,h2,h3,f,g,h6⟩
def Ey (ls:List Pr):Nat->Int
 |0=>0
 |k+1=>if Ey ls k=0 then (match ls[k]? with|some p=>CH p.l p.r|none=>0) else Ey ls k
def Co (ls:List Pr):Int:=if 40<ls.length then 3 else Ey ls ls.length
theorem Ml {ls:List Pr} {k:Nat} (h:Ey ls k≠0):∀n,k<=n->Ey ls n=Ey ls k
 |0,hn=>by
  have:k=0:=by omega
  subst this; rfl
 |n+1,hn=>by
  by_cases e:k=n+1
  ·subst e; rfl
  ·have a:=Ml h n (by omega);rw[Ey,Aj (by rw[a]; exact h)];exact a
theorem Mm {ls:List Pr} {k:Nat} (hk:k<ls.length) (h0:Ey ls k=0):Ey ls (k+1)=CH ls[k].l ls[k].r:=by rw[Ey,Ar h0,G4 hk]
theorem Vo {ls:List Pr} {k:Nat} (hk:k<ls.length) (aa:¬40<ls.length) (h0:Ey ls k=0) (a:CH ls[k].l ls[k].r≠0):Co ls=CH ls[k].l ls[k].r:=by
 unfold Co;rw[Aj aa];have h1:=Mm hk h0;rw[<-h1];exact Ml (by rw[h1]; exact a) _ (by omega)
theorem Ot {ls:List Pr} (h:Co ls=0):ls.length<=40:=by
 unfold Co at h;split at h
 ·cases h
 ·omega
theorem Vp {ls:List Pr} (h:Co ls=0):∀p∈ls,AA p.l=0/\AA p.r=0:=by
 intro p hp;obtain⟨k,hk,rfl⟩:=Hz hp;have aa:=Ot h;unfold Co at h;rw[Aj (by omega)]at h;have h0:∀n,n<=ls.length->Ey ls n=0:=λn hn=>by
  by_cases e:Ey ls n=0
  ·exact e
  ·have:=Ml e _ hn;rw[this]at h;exact absurd h e
 have h1:=Mm hk (h0 k (by omega));rw[h0 (k+1) (by omega)]at h1;have h2:=h1.symm;unfold CH at h2;by_cases e:AA ls[k].l=0
 ·rw[Ar e]at h2; exact⟨e,h2⟩
 ·rw[Aj e]at h2; exact absurd h2 e
def E7 (l:List Bd) (s:ByteArray) (es0 bs:List Tm):Tm:=
 match As l s with
 |some x=>if es0.isEmpty=true then x else ⟨s,bs⟩
 |none=>⟨s,bs⟩
def Ap (l:List Bd):List Tm->List Tm
 | []=>[]
 | ⟨s,es0⟩::r=>E7 l s es0 (Ap l es0)::Ap l r
def Ag (l:List Bd) (t:Tm):Tm:=E7 l t.name t.args (Ap l t.args)
theorem Bb (l:List Bd) (t:Tm) (r:List Tm):Ap l (t::r)=Ag l t::Ap l r:=by
 obtain⟨s,aa⟩:=t;simp only[Ap,Ag]
theorem Kx (l:List Bd):∀aa,(Ap l aa).length=aa.length
 | []=>by simp[Ap]
 |t::r=>by rw[Bb]; simp[Kx l r]
theorem Ic (l:List Bd) (b:List Tm):∀a,Ap l (a++b)=Ap l a++Ap l b
 | []=>by simp[Ap]
 |t::r=>by rw[Cj,Bb,Bb,Ic l b r]; rfl
theorem G9 (l:List Bd) (aa:List Tm) (k:Nat) (h:k<aa.length):Ap l (aa.take (k+1))=Ap l (aa.take k)++[Ag l aa[k]]:=by
 rw[Bo h,Ic,Bb];simp[Ap]
theorem IM {l:List Bd} {s:ByteArray} {x:Tm} (h:As l s=some x):Ag l ⟨s,[]⟩=x:=by simp[Ag,E7,h]
theorem FN {l:List Bd} {s:ByteArray} {aa:List Tm} (h:aa≠[]∨As l s=none):Ag l ⟨s,aa⟩=⟨s,Ap l aa⟩:=by
 unfold Ag E7;rcases h with h|h
 ·cases As l s with
  |none=>rfl
  |some x=>simp[h]
 ·rw[h]
theorem Ou (l:List Bd) (aa:List Tm) (k:Nat) (h:k<aa.length):Ab (Ap l (aa.take (k+1)))=Ab (Ap l (aa.take k))+Ab [Ag l aa[k]]:=by rw[G9 l aa k h,Eb]
theorem Ov (l:List Bd) (aa:List Tm) (k:Nat):Ab (Ap l (aa.take k))<=Ab (Ap l aa):=by
 have:=Eb (Ap l (aa.take k)) (Ap l (aa.drop k));rw[<-Ic,EJ]at this;omega
def Ac (w:World) (b:Nat) (cs:Array Value) (T:Nat):Prop:=w.heap[b]? = some (.cells cs T (0,0))
theorem Ac.lt {w:World} {b:Nat} {cs:Array Value} {T:Nat} (h:Ac w b cs T):b<w.heap.size:=by
 apply Hw;intro hn;have e:w.heap[b]? = none:=Jv (by omega);rw[Ac,e]at h; cases h
theorem Ac.cell {w:World} {b:Nat} {cs:Array Value} {T:Nat} (h:Ac w b cs T) (i:Nat):w.cell? (zD b i)=cs[i]? := by
 unfold Ac at h; simp[World.cell?,h]
theorem Ac.c0 {w:World} {b:Nat} {v:Value} {l:List Value} {T:Nat} (h:Ac w b (List.toArray (v::l)) T):w.cell? (zD b 0)=some v:=h.cell 0
theorem Ac.c1 {w:World} {b:Nat} {v0 v:Value} {l:List Value} {T:Nat} (h:Ac w b (List.toArray (v0::v::l)) T):w.cell? (zD b 1)=some v:=h.cell 1
theorem Ac.c2 {w:World} {b:Nat} {v0 v1 v:Value} {l:List Value} {T:Nat} (h:Ac w b (List.toArray (v0::v1::v::l)) T):w.cell? (zD b 2)=some v:=h.cell 2
theorem Ac.c3 {w:World} {b:Nat} {v0 v1 v2 v:Value} {l:List Value} {T:Nat} (h:Ac w b (List.toArray (v0::v1::v2::v::l)) T):w.cell? (zD b 3)=some v:=h.cell 3
theorem Ac.frozen {w:World} {b:Nat} {cs:Array Value} {T:Nat} (h:Ac w b cs T) (i:Nat):w.frozen? (zD b i)=false:=by
 unfold Ac at h; simp[World.frozen?,h]
theorem Ac.new (w:World) (cs:Array Value) (T:Nat):Ac (w.alloc (.cells cs T)) w.heap.size cs T:=Et w _
theorem Ac.alloc {w:World} {b:Nat} {cs:Array Value} {T:Nat} (h:Ac w b cs T) (o:Obj):Ac (w.alloc o) b cs T:=by
 unfold Ac at *; rw[AL w o b (Ac.lt h)]; exact h
theorem Ac.below {w w':World} {b B:Nat} {cs:Array Value} {T:Nat} (h:Ac w b cs T) (hb:Below B w w') (a:b<B):Ac w' b cs T:=by
 unfold Ac at *; rw[hb.block b a]; exact h
theorem Ac.drewN {w:World} {b:Nat} {cs:Array Value} {T:Nat} (h:Ac w b cs T) (n:Nat):Ac (w.drewN n) b cs T:=h
theorem Ac.grown {w w':World} {b:Nat} {cs:Array Value} {T:Nat} {row:Option Nat} (h:Ac w b cs T) (a:w.grownBy w' row) (c:some b≠row):Ac w' b cs T:=by
 unfold Ac at *; rw[a.block b (Ac.lt h) c]; exact h
theorem Ac.set {w:World} {b:Nat} {cs:Array Value} {T:Nat} (h:Ac w b cs T) (i:Nat) (v:Value):Ac (w.setCell (zD b i) v) b (cs.setIfInBounds i v) T:=by
 unfold Ac at *;simp[World.setCell,Array.getElem?_modify,h]
theorem Ac.setOther {w:World} {b b':Nat} {cs:Array Value} {T:Nat} (h:Ac w b cs T) (i:Nat) (v:Value) (a:b≠b'):Ac (w.setCell (zD b' i) v) b cs T:=by
 unfold Ac at *; rw[Aq _ _ _ _ (by simpa using a)]; exact h
structure AK (w:World) (N:Nat) (T:Nat) (Y:Nat->Prop) (v:Value) (l:List Tm) (xs:List Value):Prop where
 own:w.ownsRow N T 2 v l.length xs
 row:BL w (λb=>Y b∨(N<=b/\some b≠v.ownBlock)) l xs
theorem AK.start (w:World) (N T:Nat) (Y:Nat->Prop):AK w N T Y zB [] []:=⟨Gy w N T 2,rfl⟩
theorem AK.below {w w':World} {N T:Nat} {Y:Nat->Prop} {v:Value} {l:List Tm} {xs:List Value} (h:AK w N T Y v l xs) (hb:Below w.heap.size w w'):AK w' N T Y v l xs:=
 ⟨h.own.kept (w' := w') (row := none) ⟨hb.os, hb.tape, hb.output, hb.size, λj hj _ => hb.block j hj⟩ (by rcases Gx (Value.ownBlock v) with h | ⟨x, h⟩; exact Ad h; exact Ae (by rw [h]; simp)),
  h.row.imp λa l h=>h.later hb⟩
theorem AK.ne {w:World} {N T:Nat} {Y:Nat->Prop} {v:Value} {l:List Tm} {xs:List Value} (h:AK w N T Y v l xs) {b:Nat} (hb:b<N):some b≠v.ownBlock:=λe=>by
 have:=(h.own.lt b e.symm).1; omega
theorem AK.push {w w1 w2 w3:World} {N T:Nat} {Y:Nat->Prop} {v:Value} {l:List Tm} {xs:List Value} (h:AK w N T Y v l xs) (hN:N<=w.heap.size) (i:∀b,Y b->b<N) (hb:Below w.heap.size w w1) {s:ByteArray} {a:Option Addr} {n c:Nat} {t:Tm}
  (ht:TV w1 (λb=>Y b∨w.heap.size<=b) (.agg #[.string s,.slice a n c]) t) (o:Obj) (q:w2=w1.alloc o) {g cap:Nat}
  (aa:w3.ownsRow N T 2 (.slice (some (zD g 0)) (l.length+1) cap) (l.length+1) (xs++[.string s,.slice a n c])) (j:w2.grownBy w3 v.ownBlock) (ab:v.ownBlock=some g∨g=w2.heap.size):
  AK w3 N T Y (.slice (some (zD g 0)) (l.length+1) cap) (l++[t]) (xs++[.string s,.slice a n c]):=by
 subst q;have d:=h.own.lt;refine⟨by simpa using aa,?_⟩;have ae:w1.heap.size<=(w1.alloc o).heap.size:=by simp
 have af:=hb.size;have ag:N<=g:=by
  rcases ab with e|e
  ·exact(d g e).1
  ·simp at e; omega
 refine BL.append (h.row.imp λk m hs=>?_) ?_
 ·have h1:Sl w (λb=>(Y b∨(N<=b/\some b≠v.ownBlock))/\b<w.heap.size) k m:=hs.mono λb h1 h2=>⟨h1,h2⟩;have h2:Sl w3 (λb=>(Y b∨(N<=b/\some b≠v.ownBlock))/\b<w.heap.size) k m:=h1.kept λb hx=>by
   have f:some b≠v.ownBlock:=by
    rcases hx.1 with hy|hy
    ·exact h.ne (i b hy)
    ·exact hy.2
   rw[j.block b (by simp; omega) f,AL _ _ _ (by omega),hb.block b hx.2]
  refine h2.mono λb hx _=>?_;rcases hx.1 with hy|hy
  ·exact Ad hy
  ·refine Ae ⟨hy.1,λe=>?_⟩;simp[Value.ownBlock]at e;rcases ab with e'|e'
   ·exact hy.2 (by rw[e',e])
   ·simp at e'; omega
 ·obtain⟨a2,c2,e,hs⟩:=ht;simp at e;obtain⟨rfl,rfl,rfl,rfl⟩:=e;refine⟨a,c,[],rfl,?_,rfl⟩;have h1:Sl w1 (λb=>(Y b∨w.heap.size<=b)/\b<w1.heap.size) a t.args:=hs.mono λb h1 h2=>⟨h1,h2⟩;have h2:Sl w3 (λb=>(Y b∨w.heap.size<=b)/\b<w1.heap.size) a t.args:=h1.kept λb hx=>by
   have f:some b≠v.ownBlock:=by
    rcases hx.1 with hy|hy
    ·exact h.ne (i b hy)
    ·intro e; have:=(d b e.symm).2; omega
   rw[j.block b (by simp; omega) f,AL _ _ _ hx.2]
  refine h2.mono λb hx _=>?_;rcases hx.1 with hy|hy
  ·exact Ad hy
  ·refine Ae ⟨by omega,λe=>?_⟩;simp[Value.ownBlock]at e;rcases ab with e'|e'
   ·have:=(d g e').2; omega
   ·simp at e'; omega
theorem AK.setCell {w:World} {N T:Nat} {Y:Nat->Prop} {v:Value} {l:List Tm} {xs:List Value} (h:AK w N T Y v l xs) {b i:Nat} (hb:b<N) (d:¬Y b) (u:Value):AK (w.setCell (zD b i) u) N T Y v l xs:=
 ⟨ownsRow_setCell_below h.own (by simpa using hb) u, h.row.imp λa k hs => hs.kept λc hc => Aq _ _ _ _ (by
  simp;rcases hc with hc|hc
  ·intro e; subst e; exact d hc
  ·omega)⟩
theorem AK.sl {w:World} {N T:Nat} {Y:Nat->Prop} {v:Value} {l:List Tm} {xs:List Value} (h:AK w N T Y v l xs):∃a c,v=.slice a l.length c/\Sl w (λb=>Y b∨N<=b) a l:=by
 have aa:l.length<=9223372036854775807:=by
  rcases h.own.2 with ⟨_,h0⟩|⟨g,cap,cur,_,_,_,h1,h2,_⟩
  ·omega
  ·unfold maxLen at h2; omega
 by_cases h0:0<l.length
 ·obtain⟨g,cap,rfl,d,hlt,hc⟩:=EN h.own h0;exact⟨_,_,rfl,aa,Ae ⟨g,0,rfl,Om g (Ae d) l xs 0 h.row (λa k hs=>hs.mono λb hb _=>hb.imp id (λh=>h.1)) (λj u hj=>by simpa using hc j u hj)⟩⟩
 ·have e:l=[]:=EK.1 (by omega);subst e;rcases h.own.2 with ⟨hv,_⟩|⟨g,cap,cur,hv,_⟩
  ·exact⟨none,0,hv,aa,Ad rfl⟩
  ·exact⟨_,_,hv,aa,Ad rfl⟩
theorem Mn {wr w1 w3:World} {a c:Obj} {b T:Nat} {cs:Array Value} {row:Option Nat} (h:Ac wr b cs T) (aa:Below (wr.alloc a).drew.heap.size (wr.alloc a).drew w1) (d:(w1.alloc c).grownBy w3 row) (e:some b≠row):Ac w3 b cs T:=
 (((((h.alloc a).drewN 1).below aa (by have:=h.lt; simp; omega)).alloc c).grown d e)
abbrev Bc:=Bd×Option Addr×Nat
instance:Inhabited Bc:=⟨(⟨⟨#[]⟩,⟨⟨#[]⟩,[]⟩⟩,none,0)⟩
def Dt (x:Bc):List Value:=[.string x.1.nm,.string x.1.t.name,.slice x.2.1 x.1.t.args.length x.2.2]
def Dg:List Bc->List Value
 | []=>[]
 |x::r=>Dt x++Dg r
theorem Ow (b:List Bc):∀a,Dg (a++b)=Dg a++Dg b
 | []=>rfl
 |x::r=>by rw[Cj,Dg,Dg,Ow b r,Gz]
theorem Ox:∀a:List Bc,(Dg a).length=a.length*3
 | []=>rfl
 |x::r=>by rw[Dg,Dx,Ox r]; simp[Dt]; omega
theorem JK:∀(a:List Bc) (i:Nat) (h:i<a.length) (j:Nat),j<3->(Dg a)[i*3+j]? = (Dt a[i])[j]?
 | [],i,h,j,hj=>by simp at h
 |x::r,0,h,j,hj=>by
  rw[Dg,List.getElem?_append_left (by simp[Dt]; omega)]; simp
 |x::r,i+1,h,j,hj=>by
  rw[Dg,Of (by simp[Dt]; omega)];have e:(i+1)*3+j-(Dt x).length=i*3+j:=by simp[Dt]; omega
  rw[e,JK r i (by simpa using h) j hj];simp
structure Bj (w:World) (N:Nat) (Y:Nat->Prop) (v:Value) (cs:List Bc):Prop where
 own:w.ownsRow N 90 3 v cs.length (Dg cs)
 row:∀x∈cs,Sl w (λb=>Y b∨(N<=b/\some b≠v.ownBlock)) x.2.1 x.1.t.args
theorem Bj.start (w:World) (N:Nat) (Y:Nat->Prop):Bj w N Y zB []:=⟨Gy w N _ 3,by simp⟩
theorem Bj.below {w w':World} {N:Nat} {Y:Nat->Prop} {v:Value} {cs:List Bc} (h:Bj w N Y v cs) (hb:Below w.heap.size w w'):Bj w' N Y v cs:=
 ⟨h.own.kept (w' := w') (row := none) ⟨hb.os, hb.tape, hb.output, hb.size, λj hj _ => hb.block j hj⟩ (by rcases Gx (Value.ownBlock v) with h | ⟨x, h⟩; exact Ad h; exact Ae (by rw [h]; simp)),
  λx hx=>(h.row x hx).later hb⟩
theorem Bj.ne {w:World} {N:Nat} {Y:Nat->Prop} {v:Value} {cs:List Bc} (h:Bj w N Y v cs) {b:Nat} (hb:b<N):some b≠v.ownBlock:=λe=>by
 have:=(h.own.lt b e.symm).1; omega
theorem Bj.kept {w w':World} {N:Nat} {Y:Nat->Prop} {v:Value} {cs:List Bc} {r:Nat} (h:Bj w N Y v cs) (a:r<N) (c:¬Y r) (ho:w'.os=w.os) (ht:w'.tape=w.tape) (hu:w'.output=w.output) (hz:w.heap.size<=w'.heap.size) (hk:∀j,j≠r->j<w.heap.size->w'.heap[j]? = w.heap[j]?):Bj w' N Y v cs:=
 ⟨h.own.kept (w' := w') (row := some r) ⟨ho, ht, hu, hz, λj hj d => hk j (λe => d (by rw [e])) hj⟩ (Ae (λe => h.ne a e.symm)),
  λx hx=>by
  have h1:=(h.row x hx).mono (Y:=λb=>(Y b∨(N<=b/\some b≠v.ownBlock))/\b<w.heap.size) λb h1 h2=>⟨h1,h2⟩;refine(h1.kept λb hb=>hk b (λe=>?_) hb.2).mono λb hb _=>hb.1;rcases hb.1 with h2|h2
  ·exact c (e▸h2)
  ·omega⟩
theorem Bj.push {w w1 w2 w3:World} {N:Nat} {Y:Nat->Prop} {v:Value} {cs:List Bc} (h:Bj w N Y v cs) (hN:N<=w.heap.size) (d:∀b,Y b->b<N) (hb:Below w.heap.size w w1) {x:Bc}
  (ht:Sl w1 (λb=>Y b∨w.heap.size<=b) x.2.1 x.1.t.args) (o:Obj) (i:w2=w1.alloc o) {g cap:Nat}
  (aa:w3.ownsRow N 90 3 (.slice (some (zD g 0)) (cs.length+1) cap) (cs.length+1) (Dg cs++Dt x)) (f:w2.grownBy w3 v.ownBlock) (ab:v.ownBlock=some g∨g=w2.heap.size):
  Bj w3 N Y (.slice (some (zD g 0)) (cs.length+1) cap) (cs++[x]):=by
 subst i;have a:=h.own.lt;refine⟨by rw[Ow]; simpa [Dg] using aa,λy hy=>?_⟩;have ae:w1.heap.size<=(w1.alloc o).heap.size:=by simp
 have af:=hb.size;have ag:N<=g:=by
  rcases ab with e|e
  ·exact(a g e).1
  ·simp at e; omega
 rcases Bg.1 hy with hy|hy
 ·have h1:Sl w (λb=>(Y b∨(N<=b/\some b≠v.ownBlock))/\b<w.heap.size) y.2.1 y.1.t.args:=(h.row y hy).mono λb h1 h2=>⟨h1,h2⟩;have h2:Sl w3 (λb=>(Y b∨(N<=b/\some b≠v.ownBlock))/\b<w.heap.size) y.2.1 y.1.t.args:=h1.kept λb hx=>by
   have c:some b≠v.ownBlock:=by
    rcases hx.1 with hy|hy
    ·exact h.ne (d b hy)
    ·exact hy.2
   rw[f.block b (by simp; omega) c,AL _ _ _ (by omega),hb.block b hx.2]
  refine h2.mono λb hx _=>?_;rcases hx.1 with hy|hy
  ·exact Ad hy
  ·refine Ae ⟨hy.1,λe=>?_⟩;simp[Value.ownBlock]at e;rcases ab with e'|e'
   ·exact hy.2 (by rw[e',e])
   ·simp at e'; omega
 ·have e:y=x:=by simpa using hy
  subst e;have h1:Sl w1 (λb=>(Y b∨w.heap.size<=b)/\b<w1.heap.size) y.2.1 y.1.t.args:=ht.mono λb h1 h2=>⟨h1,h2⟩;have h2:Sl w3 (λb=>(Y b∨w.heap.size<=b)/\b<w1.heap.size) y.2.1 y.1.t.args:=h1.kept λb hx=>by
   have c:some b≠v.ownBlock:=by
    rcases hx.1 with hy|hy
    ·exact h.ne (d b hy)
    ·intro e; have:=(a b e.symm).2; omega
   rw[f.block b (by simp; omega) c,AL _ _ _ hx.2]
  refine h2.mono λb hx _=>?_;rcases hx.1 with hy|hy
  ·exact Ad hy
  ·refine Ae ⟨by omega,λe=>?_⟩;simp[Value.ownBlock]at e;rcases ab with e'|e'
   ·have:=(a g e').2; omega
   ·simp at e'; omega
theorem Bj.bv {w:World} {N:Nat} {Y:Nat->Prop} {v:Value} {cs:List Bc} (h:Bj w N Y v cs):BV w (λb=>Y b∨N<=b) v (cs.map (·.1)):=by
 have a:cs.length<=9223372036854775807:=by
  rcases h.own.2 with ⟨_,h0⟩|⟨g,cap,cur,_,_,_,h1,h2,_⟩
  ·omega
  ·unfold maxLen at h2; omega
 by_cases h0:0<cs.length
 ·obtain⟨g,cap,rfl,c,hlt,hc⟩:=EN h.own h0;have ab:cs.length<=cap:=by
   rcases h.own.2 with ⟨e,_⟩|⟨g',ae,cur,e,_,_,h1,_⟩
   ·cases e
   ·simp at e; omega
  refine⟨_,cap,by simp,⟨by simpa using a,by simpa using ab⟩,Ae ⟨g,0,rfl,Ae c,λi hi=>?_⟩⟩;have aa:i<cs.length:=by simpa using hi
  have g0:=hc (i*3+0) (.string cs[i].1.nm) (by rw[JK cs i aa 0 (by decide)]; rfl);have g1:=hc (i*3+1) (.string cs[i].1.t.name) (by rw[JK cs i aa 1 (by decide)]; rfl);have g2:=hc (i*3+2) (.slice cs[i].2.1 cs[i].1.t.args.length cs[i].2.2) (by rw[JK cs i aa 2 (by decide)]; rfl);simp only[Jz,EL];exact⟨g0,g1,_,_,g2,(h.row cs[i] (AN aa)).mono λb hb _=>hb.imp id (λh=>h.1)⟩
 ·have e:cs=[]:=EK.1 (by omega);subst e;rcases h.own.2 with ⟨hv,_⟩|⟨g,cap,cur,hv,_⟩
  ·exact⟨none,0,hv,by simp,Ad rfl⟩
  ·exact⟨_,_,hv,by simp,Ad rfl⟩
def Cw (a b:ByteArray):Bool:=Op.bytesLess a.toList b.toList
theorem Oy:∀a:List UInt8,Op.bytesLess a a=false
 | []=>rfl
 |x::r=>by simp[Op.bytesLess,Oy r]
theorem Oz:∀a b c:List UInt8,Op.bytesLess a b=true->Op.bytesLess b c=true->Op.bytesLess a c=true
 |_,[],_,h,_=>by simp[Op.bytesLess] at h
 |_,_::_,[],_,h=>by simp[Op.bytesLess] at h
 | [],_::_,_::_,_,_=>by simp[Op.bytesLess]
 |x::a,y::b,z::c,h1,h2=>by
  simp only[Op.bytesLess,Bool.or_eq_true,G5,decide_eq_true_eq,beq_iff_eq] at h1 h2 ⊢;rw[UInt8.lt_iff_toNat_lt]at h1 h2 ⊢;rcases h1 with h1|⟨rfl,h1⟩<;>rcases h2 with h2|⟨rfl,h2⟩
  ·left; omega
  ·left; exact h1
  ·left; exact h2
  ·right; exact⟨rfl,Oz a b c h1 h2⟩
theorem OC:∀a b:List UInt8,Op.bytesLess a b=false->Op.bytesLess b a=false->a=b
 | [],[],_,_=>rfl
 | [],_::_,h,_=>by simp[Op.bytesLess] at h
 |_::_,[],_,h=>by simp[Op.bytesLess] at h
 |x::a,y::b,h1,h2=>by
  simp only[Op.bytesLess,Bool.or_eq_false_iff,decide_eq_false_iff_not] at h1 h2;obtain⟨h1,h3⟩:=h1;obtain⟨h2,c⟩:=h2;rw[UInt8.lt_iff_toNat_lt]at h1 h2;have e:x=y:=UInt8.toNat_inj.mp (by omega);subst e;simp only[BEq.rfl,Bool.true_and] at h3 c;rw[OC a b h3 c]
theorem OD (a:ByteArray):Cw a a=false:=Oy _
theorem Mo {a b c:ByteArray} (h1:Cw a b=true) (h2:Cw b c=true):Cw a c=true:=Oz _ _ _ h1 h2
theorem Mp {a b:ByteArray} (h1:Cw a b=false) (h2:Cw b a=false):a=b:=Eu (OC _ _ h1 h2)
theorem OG {a b:ByteArray} (h:Cw a b=true):Cw b a=false:=by
 cases hb:Cw b a with
 |false=>rfl
 |true=>have:=Mo h hb; rw[OD] at this; cases this
theorem Vq {a b c:ByteArray} (h1:Cw a b=false) (h2:Cw b c=false):Cw a c=false:=by
 cases h:Cw a c with
 |false=>rfl
 |true=>
  cases h3:Cw b a with
  |true=>rw[Mo h3 h] at h2; cases h2
  |false=>have e:=Mp h1 h3;subst e;rw[h]at h2; cases h2
def Fg (l:List Bd):Prop:=l.Pairwise λa b=>Cw a.nm b.nm=true
def Cx (l:List Bd):Prop:=l.Pairwise λa b=>a.nm≠b.nm
theorem Fg.apart {l:List Bd} (h:Fg l):Cx l:=h.imp fun {a b} h e=>by rw[e,OD] at h; cases h
theorem Cx.perm {l k:List Bd} (h:Cx l) (hp:k.Perm l):Cx k:=(hp.pairwise_iff (fun {_ _} a=>Eh a)).2 h
theorem Mq {l k:List Bd} (hp:l.Perm k) (h1:Fg l) (h2:Fg k):l=k:=
 List.Perm.eq_of_pairwise (le:=λa b:Bd=>Cw a.nm b.nm=true) (λa b _ _ h3 c=>by rw[OG h3] at c; cases c) h1 h2 hp
theorem Mr {l:List Bd} (c:Cx l) (h:l.Pairwise λa b=>Cw b.nm a.nm=false):Fg l:=by
 unfold Fg Cx at *;refine(List.pairwise_and_iff.2 ⟨c,h⟩).imp fun {a b} ⟨h1,h2⟩=>?_;cases h3:Cw a.nm b.nm with
 |true=>rfl
 |false=>exact absurd (Mp h3 h2) h1
def GI (x:Bc):ByteArray×Value:=(x.1.nm,.agg #[.string x.1.t.name,.slice x.2.1 x.1.t.args.length x.2.2])
def LV {α:Type} (f:α->Value) (w:World) (X:Nat->Prop) (v:Value) (l:List α):Prop:=
 ∃a c,v=.slice a l.length c/\(l.length<=9223372036854775807/\l.length<=c)/\(l=[]∨∃b o,a=some (zD b o)/\X b/\∀i (h:i<l.length),w.cell? ⟨b,o+i,none⟩=some (f l[i]))
theorem LV.kept {α:Type} {f:α->Value} {w w':World} {X:Nat->Prop} {v:Value} {l:List α} (h:LV f w X v l) (hk:∀b,X b->w'.heap[b]? = w.heap[b]?):LV f w' X v l:=by
 obtain⟨a,c,e,d,h⟩:=h;refine⟨a,c,e,d,?_⟩;rcases h with h|⟨b,o,e,hx,h⟩
 ·exact Ad h
 ·exact Ae ⟨b,o,e,hx,λi hi=>by rw[CV (hk b hx)]; exact h i hi⟩
theorem LV.mono {α:Type} {f:α->Value} {w:World} {X Y:Nat->Prop} {v:Value} {l:List α} (h:LV f w X v l) (hk:∀b,X b->b<w.heap.size->Y b):LV f w Y v l:=by
 obtain⟨a,c,e,d,h⟩:=h;refine⟨a,c,e,d,?_⟩;rcases h with h|⟨b,o,e,hx,h⟩
 ·exact Ad h
 ·by_cases h0:l=[]
  ·exact Ad h0
  ·have hp:0<l.length:=Fp.2 h0;exact Ae ⟨b,o,e,hk b hx (World.block_lt_of_cell? w _ (h 0 hp)),h⟩
theorem LV.below {α:Type} {f:α->Value} {w w':World} {X:Nat->Prop} {v:Value} {l:List α} {B:Nat} (h:LV f w X v l) (hb:Below B w w') (a:∀b,X b->b<w.heap.size->b<B):LV f w' X v l:=by
 have h1:LV f w (λb=>X b/\b<B) v l:=h.mono λb hx hs=>⟨hx,a b hx hs⟩;have h2:LV f w' (λb=>X b/\b<B) v l:=h1.kept λb hx=>hb.block b hx.2;exact h2.mono λb hx _=>hx.1
theorem LV.later {α:Type} {f:α->Value} {w w':World} {X:Nat->Prop} {v:Value} {l:List α} (h:LV f w X v l) (hb:Below w.heap.size w w'):LV f w' X v l:=h.below hb (λ_ _ h=>h)
theorem LV.alloc {α:Type} {f:α->Value} {w:World} {X:Nat->Prop} {v:Value} {l:List α} (h:LV f w X v l) (o:Obj):LV f (w.alloc o) X v l:=h.later ((Af _ _).alloc (Ai _) o)
theorem LV.of_own {α:Type} {f:α->Value} {w:World} {N T:Nat} {v:Value} {l:List α} (h:w.ownsRow N T 1 v l.length (l.map f)):LV f w (λb=>N<=b) v l:=by
 have h':=h;obtain⟨_,h1⟩:=h;rcases h1 with ⟨rfl,h0⟩|⟨g,cap,cur,hv,a,hh,ab,c,_⟩
 ·have e:l=[]:=EK.1 h0;subst e;exact⟨none,0,rfl,by simp,Ad rfl⟩
 ·unfold maxLen at c;refine⟨some (zD g 0),cap,hv,⟨by omega,ab⟩,?_⟩;by_cases h0:l=[]
  ·exact Ad h0
  ·have hp:0<l.length:=Fp.2 h0;obtain⟨g2,ae,aa,_,_,hc⟩:=EN h' hp;rw[hv]at aa;simp at aa;obtain⟨rfl,rfl⟩:=aa;exact Ae ⟨g,0,rfl,a,λi hi=>by rw[EL]; exact hc i _ (by simp[hi])⟩
def AJ (x:ByteArray) (l:List ByteArray):Bool:=l.any λy=>y.toList==x.toList
theorem OH {x:ByteArray} {l:List ByteArray} {k:Nat} (h:k<l.length) (h0:AJ x (l.take k)=false) (h1:(l[k].toList==x.toList)=false):AJ x (l.take (k+1))=false:=by
 unfold AJ at *;rw[Bo h,HH,h0];simpa using h1
theorem OI {x:ByteArray} {l:List ByteArray} {k:Nat} (h:k<l.length) (h1:(l[k].toList==x.toList)=true):AJ x l=true:=by
 unfold AJ;rw[Ei];exact⟨l[k],AN h,h1⟩
theorem Id (x:ByteArray) (l:List ByteArray) (v:Value) (w:World) (X:Nat->Prop) (hv:LV Value.string w X v l):
  Calls prog 23 #[.string x,v] w λe w'=>e=.returned (.bool (AJ x l))/\w'=w:=by
 obtain⟨a,c,rfl,⟨hl,_⟩,h1⟩:=hv;go_enter func23,ntmps23;go_wp2_with fail;go_loop [5] (λi=>∃k:Nat,k<=l.length/\i=zA k/\AJ x (l.take k)=false) (λi=>l.length-(intOf i).toNat)
 case atStart=>exact⟨0,AG _,rfl,by simp[AJ]⟩
 case round=>
  obtain⟨k,hk,rfl,g⟩:=hrel;have j:=Aa g;clear g;by_cases d:k<l.length
  ·obtain⟨b,o,rfl,_,hc⟩:=h1.resolve_left (λh=>by rw[h] at d; simp at d);have d1:=hc k d;clear hc h1;cases hq:(l[k].toList==x.toList) with
   |true=>have f:=Aa (OI d hq);go_wp2_with fail;go_ret;exact⟨BJ f.o.symm,rfl⟩
   |false=>
    have f:=Aa (OH d j.o hq);go_wp2_with fail;go_round
    case rel=>exact⟨k+1,by omega,by go_num,f.o⟩
    case measure=>simp[intOf]; omega
  ·have aa:l.take k=l:=AX (by omega);have m:Hid (false=AJ x l):=Aa (by rw[<-j.o,aa]);go_wp2_with fail;go_ret;exact⟨BJ m.o,rfl⟩
theorem Tryz.infoStr:(prog.info? 9).map (λi=>(i.zero,i.size,i.bytes))=some (some (.string ByteArray.empty),1,16):=by kernel_rfl
theorem OJ (a b:ByteArray):(a.toList==b.toList)=(b.toList==a.toList):=by
 rw[FL]; simp; exact eq_comm
theorem Vr (x:ByteArray) (l:List ByteArray) (v:Value) (w:World) (X:Nat->Prop) (hv:LV Value.string w X v l):
  Calls prog 118 #[v,.string x] w λe w'=>(∃n:Int,e=.returned (zA n)/\decide (0<=n)=AJ x l)/\w'=w:=by
 obtain⟨a,c,rfl,⟨hl,_⟩,h1⟩:=hv;go_enter func118,ntmps118;go_wp2_with fail;go_loop [8] (λi=>∃k:Nat,k<=l.length/\i=zA k/\AJ x (l.take k)=false) (λi=>l.length-(intOf i).toNat)
 case atStart=>exact⟨0,AG _,rfl,by simp[AJ]⟩
 case round=>
  obtain⟨k,hk,rfl,g⟩:=hrel;have j:=Aa g;clear g;by_cases d:k<l.length
  ·obtain⟨b,o,rfl,_,hc⟩:=h1.resolve_left (λh=>by rw[h] at d; simp at d);have d1:=hc k d;clear hc h1;cases hq:(x.toList==l[k].toList) with
   |true=>have f:=Aa (OI d (by rw[OJ]; exact hq));go_wp2_with fail;go_ret;exact⟨⟨k,rfl,by rw[f.o]; simp⟩,rfl⟩
   |false=>
    have f:=Aa (OH d j.o (by rw[OJ]; exact hq));go_wp2_with fail;go_round
    case rel=>exact⟨k+1,by omega,by go_num,f.o⟩
    case measure=>simp[intOf]; omega
  ·have aa:l.take k=l:=AX (by omega);have m:Hid (false=AJ x l):=Aa (by rw[<-j.o,aa]);go_wp2_with fail;go_ret;exact⟨⟨-1,rfl,by rw[<-m.o]; decide⟩,rfl⟩
theorem OK (x:ByteArray) (l:List ByteArray) (v:Value) (w:World) (X:Nat->Prop) (hv:LV Value.string w X v l):
  Calls prog 103 #[v,.string x] w λe w'=>e=.returned (.bool (AJ x l))/\w'=w:=by
 have a:=Aa hv;clear hv;go_enter func103,ntmps103;go_wp2_with fail;refine(Vr x l _ _ X a.o).mono ?_;rintro e w1 ⟨⟨n,rfl,hn⟩,rfl⟩;have b:=Aa hn;clear hn;go_wp2_with fail;go_ret;exact⟨BJ b.o,rfl⟩
def Bl (acc:List ByteArray) (s:ByteArray):List ByteArray:=if (Al s&&!AJ s acc)=true then acc++[s] else acc
def At (acc:List ByteArray) (ks:List Tm):List ByteArray:=ks.foldl (λacc k=>Bl acc k.name) acc
theorem Jx {acc:List ByteArray} {s:ByteArray} (h:Al s=true) (h2:AJ s acc=false):Bl acc s=acc++[s]:=by simp[Bl,h,h2]
theorem IP {acc:List ByteArray} {s:ByteArray} (h:Al s=true) (h2:AJ s acc=true):Bl acc s=acc:=by simp[Bl,h,h2]
theorem GJ {acc:List ByteArray} {s:ByteArray} (h:Al s=false):Bl acc s=acc:=by simp[Bl,h]
theorem Ky (acc:List ByteArray) (s:ByteArray):(Bl acc s).length<=acc.length+1:=by
 unfold Bl; split<;>simp
theorem IQ (acc:List ByteArray) (a b:List Tm):At acc (a++b)=At (At acc a) b:=by simp[At,List.foldl_append]
theorem Ie (ks:List Tm):∀acc,(At acc ks).length<=acc.length+ks.length:=by
 induction ks with
 |nil=>intro acc; simp[At]
 |cons k r a=>intro acc; have:=a (Bl acc k.name); have h2:=Ky acc k.name; simp only[At,List.foldl_cons,Bu] at *; omega
theorem Vs (acc:List ByteArray) (ks:List Tm) (k:Nat) (h:k<ks.length):At acc (ks.take (k+1))=Bl (At acc (ks.take k)) ks[k].name:=by
 rw[Bo h,IQ]; rfl
theorem IR (t:Tm) (v:Value) (w:World) (X:Nat->Prop) (hv:TV w X v t) (u:Ab [t]<=1000000):
  Calls prog 22 #[v] w λe w'=>∃y,e=.returned y/\LV Value.string w' (λb=>w.heap.size<=b) y (At [] (Ao [t]))/\Below w.heap.size w w':=by
 obtain⟨a,c,rfl,hs⟩:=hv;have N:=Aa (show TV w X (.agg (zF t a c)) t from ⟨a,c,rfl,hs⟩);clear hs;obtain⟨i0,hi,a1,O,R⟩:=CE Tryz.infoStr;go_enter func22,ntmps22;go_wp2_with fail;refine(Mh t _ _ X (by exact N.o.alloc _) u).mono ?_;rintro e w2 ⟨v2,xs,rfl,aa,z,A⟩;have B:0<Ab [t]:=by obtain⟨s',l'⟩:=t; simp[Ab]; omega
 obtain⟨g,cap,rfl,hg,aE,C⟩:=EN aa B;have n:=Aa (((Af w.heap.size w).alloc (Ai _) (.cells (zF t a c) 33)).trans (A.mono (by simp)));have T:=Aa z;have U:=Aa C;have D:=GH [t];generalize E:Ao [t]=ks at *;have V:=Aa E;clear E;have aF:ks.length<=1000000:=by omega
 rw[<-D];clear aa z C A D B u;go_wp2_with fail;go_loopw [4,5] (λq i wr=>∃k:Nat,k<=ks.length/\i=zA k/\wr.ownsRow w2.heap.size 9 1 q (At [] (ks.take k)).length ((At [] (ks.take k)).map Value.string)/\Below w2.heap.size w2 wr) (λq i wr=>ks.length-(intOf i).toNat);case atStart=>exact⟨0,AG _,rfl,by simpa [At] using Gy w2 w2.heap.size 9 1,Af _ _⟩
 case round=>
  obtain⟨k,hk,rfl,aa,hb⟩:=hrel;have ab:=Aa aa;have f:=Aa hb;by_cases F:k<ks.length
  ·obtain⟨G,a',c',W,Y⟩:=T.o.get k F;have d0:=cell_later hb (U.o _ _ G);have r:=Aa (Vs [] ks k F);have H:=Ie (ks.take k) [];have hlen:(At [] (ks.take k)).length<=1000000:=by
    have:(ks.take k).length<=k:=List.length_take_le _ _;simp at H; omega
   clear G W Y aa hb H;generalize I:At [] (ks.take k)=acc at *;have aA:=Aa I;clear I;cases d:Al ks[k].name with
   |false=>
    have l:=Aa (GJ (acc:=acc) d);have m:=Aa d;clear d;go_wp2_with (go_at_call 21; refine(Dy _ _).mono ?_; rintro e w' ⟨rfl,rfl⟩; rw[m.o]);go_roundw
    case rel=>exact⟨k+1,by omega,by go_num,by rw[r.o,l.o]; exact ab.o,f.o⟩
    case measure=>simp[intOf]; omega
   |true=>
    have m:=Aa d;cases h:AJ ks[k].name acc with
    |true=>
     have l:=Aa (IP d h);have s:=Aa h;clear d h;go_wp2_with (first|(go_at_call 21; refine(Dy _ _).mono ?_; rintro e w' ⟨rfl,rfl⟩; rw[m.o])|(go_at_call 23; refine(Id _ _ _ _ _ (LV.of_own ab.o)).mono ?_; rintro e w' ⟨rfl,rfl⟩; rw[s.o]));go_roundw
     case rel=>exact⟨k+1,by omega,by go_num,by rw[r.o,l.o]; exact ab.o,f.o⟩
     case measure=>simp[intOf]; omega
    |false=>
     have l:=Aa (Jx d h);have s:=Aa h;clear d h;obtain⟨q2,w3,J,L,M,_⟩:=run_append_own (P:=prog) (wr.alloc (.cells #[.string ks[k].name] 9)) w2.heap.size 29 29 9 i0 _ 1 16 underlying29 hi a1 O R rfl (by decide) _ acc.length (acc.map Value.string) (ab.o.alloc _)
      (zD wr.heap.size 0) 1 1 [.string ks[k].name] rfl (cell_one_new _ _ _) (λx hx=>by simp at hx; subst hx; rfl) (by unfold maxLen; omega) (by omega) (by have:=f.o.size; simp; omega)
     have Z:=Aa J;have aB:=Aa L;have aC:=Aa ((f.o.alloc f.o.size _).grown M (by have:=f.o.size; simp; omega) (λj hj=>(ab.o.lt j hj).1));clear J L M;go_wp2_with (first|(go_at_call 21; refine(Dy _ _).mono ?_; rintro e w' ⟨rfl,rfl⟩; rw[m.o])|(go_at_call 23; refine(Id _ _ _ _ _ (LV.of_own ab.o)).mono ?_; rintro e w' ⟨rfl,rfl⟩; rw[s.o])|(at_builtin; refine DD rfl _ _ _ _ rfl rfl rfl Z.o ?_));go_roundw
     case rel=>exact⟨k+1,by omega,by go_num,by rw[r.o,l.o]; simpa using aB.o,aC.o⟩
     case measure=>simp[intOf]; omega
  ·have aD:ks.take k=ks:=AX (by omega);rw[aD]at aa;have HO:=Aa aa;clear aa hb;go_wp2_with fail;go_ret;exact⟨_,rfl,by rw[V.o]; exact(LV.of_own HO.o).mono λb hb _=>AY n.o.size hb,n.o.trans (f.o.mono n.o.size)⟩
theorem Ha {w w1 w2:World} {r a:Option Nat} (h:w.grownBy w1 r) (h1:w1.grownBy w2 a) (c:∀k,a=some k->r=some k∨w.heap.size<=k):w.grownBy w2 r:=
 ⟨h1.os.trans h.os,h1.tape.trans h.tape,h1.output.trans h.output,AY h.size h1.size,λk hk b=>(h1.block k (Cn hk h.size) (λe=>by
  rcases c k e.symm with h2|h2
  ·exact b h2.symm
  ·omega)).trans (h.block k hk b)⟩
theorem GK {w w':World} (hb:Below w.heap.size w w') (r:Option Nat):w.grownBy w' r:=⟨hb.os,hb.tape,hb.output,hb.size,λk hk _=>hb.block k hk⟩
theorem TV.grown {w w':World} {X:Nat->Prop} {v:Value} {t:Tm} {r:Option Nat} (h:TV w X v t) (a:w.grownBy w' r) (c:∀b,X b->some b≠r):TV w' X v t:=by
 have h1:TV w (λb=>X b/\b<w.heap.size) v t:=h.mono λb h1 h2=>⟨h1,h2⟩;have h2:TV w' (λb=>X b/\b<w.heap.size) v t:=h1.kept λb hx=>a.block b hx.2 (c b hx.1);exact h2.mono λb hx _=>hx.1
def DN (w0:World) (B:Nat) (q0:Value) (acc:List ByteArray) (q:Value) (wr:World):Prop:=
 wr.ownsRow B 9 1 q acc.length (acc.map Value.string)/\w0.grownBy wr q0.ownBlock/\(∀k,q.ownBlock=some k->q0.ownBlock=some k∨w0.heap.size<=k)
theorem DN.step {a w1 w2:World} {B:Nat} {b c d:Value} {ab aa:List ByteArray} (h1:DN a B b ab c w1) (h2:DN w1 B c aa d w2):DN a B b aa d w2:=by
 refine⟨h2.1,Ha h1.2.1 h2.2.1 h1.2.2,λk hk=>?_⟩;rcases h2.2.2 k hk with h|h
 ·exact h1.2.2 k h
 ·exact Ae (AY h1.2.1.size h)
theorem DN.below {b w1 w2:World} {B:Nat} {c a:Value} {aa:List ByteArray} (h1:DN b B c aa a w1) (hb:Below w1.heap.size w1 w2):DN b B c aa a w2:=
 ⟨h1.1.kept (w' := w2) (row := none) ⟨hb.os, hb.tape, hb.output, hb.size, λj hj _ => hb.block j hj⟩ (by rcases Gx (Value.ownBlock a) with h | ⟨x, h⟩; exact Ad h; exact Ae (by rw [h]; simp)),
  Ha h1.2.1 (GK hb a.ownBlock) h1.2.2,h1.2.2⟩
def Ig (d:Bd):List Bd->List Bd
 | []=>[d]
 |e::r=>if Cw d.nm e.nm=true then d::e::r else e::Ig d r
def Ih:List Bd->List Bd
 | []=>[]
 |d::r=>Ig d (Ih r)
theorem Ms (d:Bd):∀l,(Ig d l).Perm (d::l)
 | []=>Kj _
 |e::r=>by
  rw[Ig];split
  ·exact Kj _
  ·exact((Ms d r).cons e).trans (List.Perm.swap d e r)
theorem EO:∀l,(Ih l).Perm l
 | []=>Kj _
 |d::r=>(Ms d _).trans ((EO r).cons d)
theorem OL (d:Bd):∀l,Fg l->(∀e∈l,d.nm≠e.nm)->Fg (Ig d l)
 | [],_,_=>by simp[Ig,Fg]
 |e::r,h,hn=>by
  obtain⟨h1,h2⟩:=JB.1 h;rw[Ig];split
  ·rename_i a;refine JB.2 ⟨λx hx=>?_,h⟩;rcases Bq.1 hx with rfl|hx
   ·exact a
   ·exact Mo a (h1 x hx)
  ·rename_i a;refine JB.2 ⟨λx hx=>?_,OL d r h2 λe he=>hn e (by simp[he])⟩;rcases Bq.1 ((Ms d r).subset hx) with rfl|hx
   ·cases h3:Cw e.nm x.nm with
    |true=>rfl
    |false=>exact absurd (Mp (by simpa using a) h3) (hn e (by simp))
   ·exact h1 x hx
theorem Kz:∀l,Cx l->Fg (Ih l)
 | [],_=>by simp[Ih,Fg]
 |d::r,h=>by
  obtain⟨h1,h2⟩:=JB.1 h;exact OL d _ (Kz r h2) λe he=>h1 e ((EO r).subset he)
inductive UO where
 |go (s:List Bd) (l:List Pr)
 |stop (e:Int) (s:List Bd)
def Az:List Tm->List Tm->List Pr
 |a::r,b::q=>⟨a,b⟩::Az r q
 |_,_=>[]
def Br (x:ByteArray) (t:Tm) (d:Bd):Bd:=⟨d.nm,Ag [⟨x,t⟩] d.t⟩
def AF (s:List Bd):Bool:=s.any λd=>decide (2000<Ab [d.t])
def CI (lim:Bool) (s:List Bd) (l:List Pr) (x:ByteArray) (t:Tm):UO:=
 if AJ x (At [] (Ao [t]))=true then .stop 6 s
 else if (lim&&AF (s.map (Br x t)))=true then .stop 8 s
 else .go (Ih (s.map (Br x t)++[⟨x,t⟩])) l
def Bh (lim:Bool) (s:List Bd) (l:List Pr) (a b:Tm):UO:=
 if 2000<Ab [a]∨2000<Ab [b] then .stop 8 s
 else if Al a.name=true then (if a.name=b.name then .go s l else CI lim s l a.name b)
 else if Al b.name=true then CI lim s l b.name a
 else if a.name=b.name/\a.args.length=b.args.length then .go s (Az a.args b.args++l)
 else .stop 5 s
def Ez (lim:Bool) (s:List Bd):List Pr->UO
 | []=>.stop 0 s
 |p::l=>Bh lim s l (Ag s p.l) (Ag s p.r)
theorem E8 (lim:Bool) (s:List Bd) (p:Pr) (l:List Pr):Ez lim s (p::l)=Bh lim s l (Ag s p.l) (Ag s p.r):=rfl
def AU (lim:Bool):Nat->List Bd->List Pr->Option (Int×List Bd)
 |0,_,_=>none
 |n+1,s,l=>match Ez lim s l with
  | .stop e s'=>some (e,s')
  | .go s' l'=>AU lim n s' l'
theorem KE (t:Tm):1<=Ab [t]:=by
 obtain⟨s,l⟩:=t;simp[Ab]
theorem Vt (ls:List Bd):∀l:List Tm,Ab l<=Ab (Ap ls l):=by
 intro l;induction l using Tm.indL with
 |h0=>simp[Ap,Ab]
 |h s l r aa ab=>
  have b:Ab (Ap ls (⟨s,l⟩::r))=Ab [Ag ls ⟨s,l⟩]+Ab (Ap ls r):=(by rw[Bb];generalize Ag ls ⟨s,l⟩=x;obtain⟨s2,m⟩:=x;simp[Ab]);have c:Ab (⟨s,l⟩::r)=(1+Ab l)+Ab r:=by simp[Ab]
  have h1:1+Ab l<=Ab [Ag ls ⟨s,l⟩]:=by
   by_cases a:l=[]
   ·subst a;have:=KE (Ag ls ⟨s,[]⟩);simpa [Ab] using this
   ·rw[FN (Ad a)];simp only[Ab];omega
  rw[b,c];omega
theorem Mu (ls:List Bd) (t:Tm):Ab [t]<=Ab [Ag ls t]:=by
 have h:=Vt ls [t];rw[Bb]at h;simpa [Ap] using h
theorem OM {l k:List Bd} (h:l.Perm k):AF l=AF k:=by
 unfold AF;rw[FL,Ei,Ei];exact⟨λ⟨d,hd,e⟩=>⟨d,h.subset hd,e⟩,λ⟨d,hd,e⟩=>⟨d,h.symm.subset hd,e⟩⟩
theorem Vu {s:List Bd} (x:ByteArray) (t:Tm) (h:AF s=true):AF (s.map (Br x t))=true:=by
 unfold AF at *;rw[Ei]at *;obtain⟨d,hd,e⟩:=h;refine⟨Br x t d,Ce.2 ⟨d,hd,rfl⟩,?_⟩;have h1:=Mu [⟨x,t⟩] d.t;simp only[decide_eq_true_eq] at e ⊢;exact Cn e h1
theorem JM {s:List Bd} (x:ByteArray) (t:Tm):AF (Ih (s.map (Br x t)++[⟨x,t⟩]))=(AF (s.map (Br x t))||decide (2000<Ab [t])):=by
 rw[OM (EO _)];unfold AF;rw[HH];simp
theorem Vv {lim:Bool} {s s':List Bd} {l l':List Pr} (h:Ez lim s l=.go s' l') (c:AF s=true):AF s'=true:=by
 cases l with
 |nil=>cases h
 |cons p l=>
  have bind:∀x t,CI lim s l x t=.go s' l'->AF s'=true:=λx t h=>by
   unfold CI at h;split at h
   ·cases h
   ·split at h
    ·cases h
    ·cases h;rw[JM,Vu x t c];rfl
  rw[E8]at h;unfold Bh at h;generalize Ag s p.l=a at h;generalize Ag s p.r=b at h;split at h
  ·cases h
  ·split at h
   ·split at h
    ·cases h; exact c
    ·exact bind _ _ h
   ·split at h
    ·exact bind _ _ h
    ·split at h
     ·cases h; exact c
     ·cases h
theorem ON {lim:Bool} {s s':List Bd} {l:List Pr} {e:Int} (h:Ez lim s l=.stop e s'):s'=s:=by
 cases l with
 |nil=>cases h; rfl
 |cons p l=>
  have bind:∀x t,CI lim s l x t=.stop e s'->s'=s:=λx t h=>by
   unfold CI at h;split at h
   ·cases h; rfl
   ·split at h
    ·cases h; rfl
    ·cases h
  rw[E8]at h;unfold Bh at h;generalize Ag s p.l=a at h;generalize Ag s p.r=b at h;split at h
  ·cases h; rfl
  ·split at h
   ·split at h
    ·cases h
    ·exact bind _ _ h
   ·split at h
    ·exact bind _ _ h
    ·split at h
     ·cases h
     ·cases h; rfl
theorem Mv {lim:Bool}:∀(n:Nat) (s:List Bd) (l:List Pr) (e:Int) (sf:List Bd),AU lim n s l=some (e,sf)->AF s=true->AF sf=true
 |0,_,_,_,_,h,_=>by cases h
 |n+1,s,l,e,sf,h,a=>by
  rw[AU]at h;cases hn:Ez lim s l with
  |stop e' s'=>rw[hn]at h;cases h;rw[ON hn]; exact a
  |go s' l'=>rw[hn]at h;exact Mv n s' l' e sf h (Vv hn a)
theorem Vw {s:List Bd} {l:List Pr}:Ez true s l=Ez false s l∨(Ez true s l=.stop 8 s/\∃s' l',Ez false s l=.go s' l'/\AF s'=true):=by
 cases l with
 |nil=>exact Ad rfl
 |cons p l=>
  have bind:∀x t,CI true s l x t=CI false s l x t∨(CI true s l x t=.stop 8 s/\∃s' l',CI false s l x t=.go s' l'/\AF s'=true):=λx t=>by
   unfold CI;by_cases h1:AJ x (At [] (Ao [t]))=true
   ·rw[Ar h1,Ar h1]; exact Ad rfl
   ·rw[Aj h1,Aj h1];cases h2:AF (s.map (Br x t)) with
    |true=>exact Ae ⟨rfl,_,_,rfl,by rw[JM,h2]; rfl⟩
    |false=>exact Ad rfl
  rw[E8,E8];unfold Bh;generalize Ag s p.l=a;generalize Ag s p.r=b;by_cases h1:2000<Ab [a]∨2000<Ab [b]
  ·rw[Ar h1,Ar h1]; exact Ad rfl
  ·rw[Aj h1,Aj h1];by_cases h2:Al a.name=true
   ·rw[Ar h2,Ar h2];by_cases h3:a.name=b.name
    ·rw[Ar h3,Ar h3]; exact Ad rfl
    ·rw[Aj h3,Aj h3]; exact bind _ _
   ·rw[Aj h2,Aj h2];by_cases h3:Al b.name=true
    ·rw[Ar h3,Ar h3]; exact bind _ _
    ·rw[Aj h3,Aj h3]; exact Ad rfl
theorem OO:∀(n:Nat) (s:List Bd) (l:List Pr) (e:Int) (sf:List Bd),AU false n s l=some (e,sf)->AF s=false->∃e' aa,AU true n s l=some (e',aa)/\(AF sf=true->e'=8)/\(AF sf=false->e'=e/\aa=sf)
 |0,_,_,_,_,h,_=>by cases h
 |n+1,s,l,e,sf,h,f=>by
  rw[AU]at h;rcases Vw (s:=s) (l:=l) with h1|⟨h1,s',l',h2,h3⟩
  ·rw[AU,h1];cases hn:Ez false s l with
   |stop e' s'=>rw[hn]at h;cases h;refine⟨e,sf,rfl,λc=>?_,λ_=>⟨rfl,rfl⟩⟩;rw[ON hn,f]at c;cases c
   |go s' l'=>
    rw[hn]at h;cases c:AF s' with
    |false=>exact OO n s' l' e sf h c
    |true=>
     exfalso;rw[hn]at h1;have d:AF s'=false:=by
      cases l with
      |nil=>cases hn
      |cons p l=>
       have bind:∀x t,Ab [t]<=2000->CI true s l x t=.go s' l'->AF s'=false:=λx t ht h=>by
        unfold CI at h;split at h
        ·cases h
        ·split at h
         ·cases h
         ·rename_i h6;cases h;rw[JM];simp only[Bool.true_and,Bool.not_eq_true] at h6;rw[h6];simp; omega
       rw[E8]at h1;unfold Bh at h1;generalize Ag s p.l=a at h1;generalize Ag s p.r=b at h1;split at h1
       ·cases h1
       ·rename_i h7;split at h1
        ·split at h1
         ·cases h1; exact f
         ·exact bind _ _ (by omega) h1
        ·split at h1
         ·exact bind _ _ (by omega) h1
         ·split at h1
          ·cases h1; exact f
          ·cases h1
     rw[d]at c;cases c
  ·rw[h2]at h;have c:=Mv n s' l' e sf h h3;refine⟨8,s,by rw[AU,h1],λ_=>rfl,λd=>?_⟩;rw[c]at d;cases d
structure Ex (B:Nat) (w w':World):Prop where
 os:w'.os=w.os
 tape:w'.tape=w.tape
 output:w'.output=w.output
 size:w.heap.size<=w'.heap.size
 block:∀k,k<w.heap.size->k≠B->w'.heap[k]? = w.heap[k]?
theorem Ex.refl (B:Nat) (w:World):Ex B w w:=⟨rfl,rfl,rfl,Ai _,λ_ _ _=>rfl⟩
theorem Ex.trans {B:Nat} {a b c:World} (h:Ex B a b) (k:Ex B b c):Ex B a c:=
 ⟨k.os.trans h.os,k.tape.trans h.tape,k.output.trans h.output,AY h.size k.size,λi hi hn=>(k.block i (Cn hi h.size) hn).trans (h.block i hi hn)⟩
theorem Ex.drewN {B:Nat} {a w:World} (h:Ex B a w) (n:Nat):Ex B a (w.drewN n):=⟨h.os,h.tape,h.output,h.size,h.block⟩
theorem Ex.drew {B:Nat} {a w:World} (h:Ex B a w):Ex B a w.drew:=⟨h.os,h.tape,h.output,h.size,h.block⟩
theorem Ex.set {B:Nat} {a w:World} (h:Ex B a w) (i:Nat) (v:Value):Ex B a (w.setCell (zD B i) v):=
 ⟨h.os,h.tape,h.output,by simpa [World.setCell] using h.size,λk hk hn=>(Aq _ _ _ _ (by simpa using hn)).trans (h.block k hk hn)⟩
theorem Ex.alloc {B:Nat} {a w:World} (h:Ex B a w) (o:Obj):Ex B a (w.alloc o):=
 ⟨h.os,h.tape,h.output,by have:=h.size; simp; omega,λk hk hn=>(AL _ _ _ (Cn hk h.size)).trans (h.block k hk hn)⟩
theorem Ac.ex {w w':World} {B b T:Nat} {cs:Array Value} (h:Ac w b cs T) (he:Ex B w w') (a:b≠B):Ac w' b cs T:=by
 unfold Ac at *;rw[he.block b (Ac.lt h) a]; exact h
theorem Ex.mid {B:Nat} {w w1:World} (h:Ex B w w1):∃a,Below a.heap.size a w1/\a.heap.size=w.heap.size/\Ex B w a:=by
 by_cases b:B<w.heap.size
 ·have aa:B<w1.heap.size:=Cn b h.size;refine⟨{ w with heap:=w.heap.setIfInBounds B w1.heap[B]},⟨h.os,h.tape,h.output,by simpa using h.size,λk hk=>?_⟩,by simp,⟨rfl,rfl,rfl,by simp,λk hk hn=>?_⟩⟩
  ·simp at hk;by_cases e:k=B
   ·subst e;simp[Array.getElem?_setIfInBounds,b,aa]
   ·rw[h.block k hk e];simp[Array.getElem?_setIfInBounds,Eh e]
  ·simp[Array.getElem?_setIfInBounds,Eh hn]
 ·exact⟨w,⟨h.os,h.tape,h.output,h.size,λk hk=>h.block k hk (by omega)⟩,rfl,Ex.refl _ _⟩
theorem AK.ex {w w':World} {B N T:Nat} {Y:Nat->Prop} {v:Value} {l:List Tm} {xs:List Value} (h:AK w N T Y v l xs) (he:Ex B w w') (hB:B<N) (c:¬Y B):AK w' N T Y v l xs:=
 ⟨h.own.kept (w' := w') (row := some B) ⟨he.os, he.tape, he.output, he.size, λj hj hn => he.block j hj (λe => hn (by rw [e]))⟩ (Ae (λe => by have := (h.own.lt B e).1; omega)),
  h.row.imp λa l hs=>((hs.mono (Y:=λb=>(Y b∨(N<=b/\some b≠v.ownBlock))/\b<w.heap.size) λb h1 h2=>⟨h1,h2⟩).kept λb hb=>he.block b hb.2 (λe=>by
   rcases hb.1 with h1|h1
   ·rw[e]at h1; exact c h1
   ·omega)).mono λb hb _=>hb.1⟩
theorem Ex.grown {B:Nat} {a w w':World} {row:Option Nat} (h:Ex B a w) (b:w.grownBy w' row) (c:∀k,row=some k->a.heap.size<=k):Ex B a w':=
 ⟨b.os.trans h.os,b.tape.trans h.tape,b.output.trans h.output,AY h.size b.size,λk hk hn=>(b.block k (Cn hk h.size) (λe=>by have:=c k e.symm; omega)).trans (h.block k hk hn)⟩
theorem Ex.setNew {B:Nat} {a w:World} (h:Ex B a w) {b:Nat} (hb:a.heap.size<=b) (i:Nat) (v:Value):Ex B a (w.setCell (zD b i) v):=
 ⟨h.os,h.tape,h.output,by simpa [World.setCell] using h.size,λk hk hn=>(Aq _ _ _ _ (by simp; omega)).trans (h.block k hk hn)⟩
def AV:Tm->List Int->Option Tm
 |t,[]=>some t
 |t,i::r=>if h:0<=i/\i.toNat<t.args.length then AV (t.args[i.toNat]'h.2) r else none
def PV (w:World) (X:Nat->Prop) (v:Value) (zs:List Int):Prop:=
 ∃a c,v=.slice a zs.length c/\(zs.length<=9223372036854775807/\zs.length<=c)/\(zs=[]∨∃b o,a=some (zD b o)/\X b/\∀i (h:i<zs.length),w.cell? ⟨b,o+i,none⟩=some (zA zs[i]))
theorem PV.kept {w w':World} {X:Nat->Prop} {v:Value} {d:List Int} (h:PV w X v d) (hk:∀b,X b->w'.heap[b]? = w.heap[b]?):PV w' X v d:=by
 obtain⟨a,c,e,f,h⟩:=h;refine⟨a,c,e,f,?_⟩;rcases h with h|⟨b,o,e,hx,h⟩
 ·exact Ad h
 ·exact Ae ⟨b,o,e,hx,λi hi=>by rw[CV (hk b hx)]; exact h i hi⟩
theorem PV.mono {w:World} {X Y:Nat->Prop} {v:Value} {d:List Int} (h:PV w X v d) (hk:∀b,X b->b<w.heap.size->Y b):PV w Y v d:=by
 obtain⟨a,c,e,f,h⟩:=h;refine⟨a,c,e,f,?_⟩;rcases h with h|⟨b,o,e,hx,h⟩
 ·exact Ad h
 ·by_cases h0:d=[]
  ·exact Ad h0
  ·have hp:0<d.length:=Fp.2 h0;exact Ae ⟨b,o,e,hk b hx (World.block_lt_of_cell? w _ (h 0 hp)),h⟩
theorem PV.below {w w':World} {X:Nat->Prop} {v:Value} {a:List Int} {B:Nat} (h:PV w X v a) (hb:Below B w w') (c:∀b,X b->b<w.heap.size->b<B):PV w' X v a:=by
 have h1:PV w (λb=>X b/\b<B) v a:=h.mono λb hx hs=>⟨hx,c b hx hs⟩;have h2:PV w' (λb=>X b/\b<B) v a:=h1.kept λb hx=>hb.block b hx.2;exact h2.mono λb hx _=>hx.1
theorem PV.later {w w':World} {X:Nat->Prop} {v:Value} {a:List Int} (h:PV w X v a) (hb:Below w.heap.size w w'):PV w' X v a:=h.below hb (λ_ _ h=>h)
theorem PV.alloc {w:World} {X:Nat->Prop} {v:Value} {a:List Int} (h:PV w X v a) (o:Obj):PV (w.alloc o) X v a:=h.later ((Af _ _).alloc (Ai _) o)
def KH:Value:=.agg #[.string ⟨#[]⟩,zB]
theorem CX {w:World} (a b:Obj):Below w.heap.size w ((w.alloc a).alloc b):=((Af _ _).alloc (Ai _) _).alloc (by simp) _
theorem PV.tail {w:World} {X:Nat->Prop} {b o c:Nat} {z:Int} {a:List Int} (hl:a.length+1<=9223372036854775807/\a.length+1<=c) (hx:X b) (h:∀i (h:i<(z::a).length),w.cell? ⟨b,o+i,none⟩=some (zA (z::a)[i])):
  PV w X (.slice (some ⟨b,o+1,none⟩) a.length (c-1)) a:=by
 refine⟨_,_,rfl,by omega,Ae ⟨b,o+1,rfl,hx,λi hi=>?_⟩⟩;have:=h (i+1) (by simpa using hi);rw[show o+1+i=o+(i+1) by omega];simpa using this
theorem TV.back {w w':World} {X:Nat->Prop} {v:Value} {t:Tm} {B:Nat} (h:TV w' X v t) (hb:Below B w w') (d:∀b,X b->b<B):TV w X v t:=by
 obtain⟨a,c,e,h⟩:=h;exact⟨a,c,e,h.back hb d⟩
theorem Vx {w:World} {X:Nat->Prop} {b:Value} {o:Option Tm} (h1:∀x,o=some x->TV w X b x) (h2:o=none->b=KH):∃s a n c,b=.agg #[.string s,.slice a n c]:=by
 cases o with
 |none=>exact⟨_,_,_,_,h2 rfl⟩
 |some x=>obtain⟨a,c,e,_⟩:=h1 x rfl; exact⟨_,_,_,_,e⟩
theorem Vy {w w':World} {X:Nat->Prop} {v:Value} {t:Tm} (hb:Below w.heap.size w w') (h:TV w X v t):TV w' X v t:=h.later hb
theorem Vz {w w1:World} {b:Obj} {a c:Value} {T n:Nat} (hb:Below (((w.alloc b).alloc (.cells #[a,c] T)).drewN n).heap.size (((w.alloc b).alloc (.cells #[a,c] T)).drewN n) w1):w1.cell? (zD (w.heap.size+1) 0)=some a:=by rw[hb.cell (p:=(zD _ _)) (by simp)]; simp
theorem VA {w w1:World} {b:Obj} {c a:Value} {T n:Nat} (hb:Below (((w.alloc b).alloc (.cells #[c,a] T)).drewN n).heap.size (((w.alloc b).alloc (.cells #[c,a] T)).drewN n) w1):w1.cell? (zD (w.heap.size+1) 1)=some a:=by rw[hb.cell (p:=(zD _ _)) (by simp)]; simp
theorem VB {w w1:World} {a:Obj} {b c:Value} {T n:Nat} (hb:Below (((w.alloc a).alloc (.cells #[b,c] T)).drewN n).heap.size (((w.alloc a).alloc (.cells #[b,c] T)).drewN n) w1):∀i,w1.frozen? (zD (w.heap.size+1) i)=false:=by intro i; rw[hb.frozen (p:=(zD _ _)) (by simp)]; simp
theorem VC {w w1:World} {b a:Value} {c:Obj} {T n:Nat} (hb:Below (((w.alloc (.cells #[b,a] T)).alloc c).drewN n).heap.size (((w.alloc (.cells #[b,a] T)).alloc c).drewN n) w1):w1.cell? (zD w.heap.size 1)=some a:=by rw[hb.cell (p:=(zD _ _)) (by simp; omega)]; simp
theorem Mw {w w1:World} {a b:Obj} {n:Nat} {p:Addr} {v:Value} (hb:Below (((w.alloc a).alloc b).drewN n).heap.size (((w.alloc a).alloc b).drewN n) w1) (h:w.cell? p=some v):w1.cell? p=some v:=
 cell_later ((below_drewN (CX a b) n).trans (hb.mono (by simp; omega))) h
theorem Fq {w:World} {K i j:Nat} {u a v:Value} {p:Addr} (h:w.cell? p=some v) (hp:p.block≠K):((w.setCell (zD K i) u).setCell (zD K j) a).cell? p=some v:=by
 rw[CV (Aq _ _ _ _ (by simpa using hp)),CV (Aq _ _ _ _ (by simpa using hp)),h]
theorem VD {w:World} {K i j:Nat} {u a v1 v2 v3 v4:Value} {b c d e:Addr} (h:w.cell? b=some v1/\w.cell? c=some v2/\w.cell? d=some v3/\w.cell? e=some v4) (h1:b.block≠K) (h2:c.block≠K) (h3:d.block≠K) (f:e.block≠K):
  ((w.setCell (zD K i) u).setCell (zD K j) a).cell? b=some v1/\((w.setCell (zD K i) u).setCell (zD K j) a).cell? c=some v2/\((w.setCell (zD K i) u).setCell (zD K j) a).cell? d=some v3/\((w.setCell (zD K i) u).setCell (zD K j) a).cell? e=some v4:=
 ⟨Fq h.1 h1,Fq h.2.1 h2,Fq h.2.2.1 h3,Fq h.2.2.2 f⟩
theorem VE (d:List Int):∀(t:Tm) (v p:Value) (w:World) (X:Nat->Prop),TV w X v t->PV w X p d->
  Calls prog 38 #[v,p] w λe w'=>∃j,e=.returned (.tuple #[j,.bool (AV t d).isSome])/\(∀x,AV t d=some x->TV w X j x)/\(AV t d=none->j=KH)/\Below w.heap.size w w':=by
 induction d with
 |nil=>
  intro t v p w X hv hp;obtain⟨a,c,rfl,hs⟩:=hv;obtain⟨M,i,rfl,B,hz⟩:=hp;have q:Hid (AV t []=some t):=by simp[Hid,AV]
  go_enter func38,ntmps38;go_wp2_with fail;refine An (v:=.tuple #[.agg (zF t a c),.bool true]) (by simp[results,results38,go_sem]) rfl ⟨_,by rw[q.o]; rfl,?_,?_,CX _ _⟩
  ·intro x hx;rw[q.o]at hx;obtain rfl:=H6 hx;exact⟨a,c,rfl,hs⟩
  ·intro h; rw[q.o] at h; cases h
 |cons z d C=>
  intro t v p w D E F;have N:=Aa C;clear C;obtain⟨X,O,P,hv,hp⟩:∃X:Nat->Prop,(∀b,X b->b<w.heap.size)/\(∀b,X b->D b)/\TV w X v t/\PV w X p (z::d):=⟨λb=>D b/\b<w.heap.size,λ_ h=>h.2,λ_ h=>h.1,E.mono λb h1 h2=>⟨h1,h2⟩,F.mono λb h1 h2=>⟨h1,h2⟩⟩;clear E F;obtain⟨a,c,rfl,hs⟩:=hv;obtain⟨M,i,rfl,B,hz⟩:=hp;obtain⟨b,o,rfl,hx,aa⟩:=hz.resolve_left (λh=>by cases h);have h0:=aa 0 (by simp);simp only[F9,EI] at h0;have aC:=λf g=>cell_later (CX (w:=w) f g) h0;have hne:(((z::d).length:Nat):Int)=(d.length:Int)+1:=by simp
  have aD:=hs.1;have R:d.length+1<=9223372036854775807/\d.length+1<=i:=by simpa using B
  obtain⟨T,U⟩:=R;simp only[Bu] at *;by_cases G:0<=z/\z.toNat<t.args.length
  ·obtain⟨V,H⟩:=G;obtain⟨k,f,a2,c2,rfl,l,r,a1⟩:=hs.get (Af w.heap.size w) (λ_ _ h=>h) _ H;have d0:=λf g=>cell_later (CX (w:=w) f g) l;have d1:=λf g=>cell_later (CX (w:=w) f g) r;have W:=l;have Y:=r;have s:Hid (AV t (z::d)=AV (t.args[z.toNat]) d):=by
    unfold Hid; simp only[AV]; rw[D7 ⟨V,H⟩]
   have aE:¬z<0:=(by omega);have aF:z<(t.args.length:Int):=(by omega);obtain⟨m,Z,HT⟩:∃m:Option Addr,Hid ((if i=1 then some ((zD b o):Addr) else some ⟨b,o+1,none⟩)=m)/\Hid (PV w X (.slice m d.length (i-1)) d):=by
    by_cases h1:i=1
    ·refine⟨_,rfl,?_⟩;have:d=[]:=EK.1 (by omega);subst this;exact⟨_,_,rfl,by simp,Ad rfl⟩
    ·refine⟨_,rfl,?_⟩;rw[Aj h1];exact PV.tail ⟨T,U⟩ hx aa
   have HX:=Aa a1;clear aa;have u:∀f g n,PV (((w.alloc f).alloc g).drewN n) X (.slice m d.length (i-1)) d:=λf g n=>HT.o.later (below_drewN (CX _ _) _);have aA:b<w.heap.size:=World.block_lt_of_cell? w _ h0;have aw:k<w.heap.size:=World.block_lt_of_cell? w _ l;clear l r;have u:=Aa u;by_cases y:i=1;all_goals
    have A:=Z.o;first|rw[Ar y] at A|rw[Aj y] at A
    subst A;try (have an:d=[]:=EK.1 (by omega); subst an; subst y)
    go_enter func38,ntmps38;go_wp2_with fail;go_quiet (fail)
    go_wp2_with fail;go_region_held (λw'=>w'.cell? (zD w.heap.size 1)=some (.slice (some (zD k f)) t.args.length c)/\w'.cell? (zD b o)=some (zA z)/\w'.cell? ⟨k,f+z.toNat*2,none⟩=some (.string t.args[z.toNat].name)/\w'.cell? ⟨k,f+z.toNat*2+1,none⟩=some (.slice a2 t.args[z.toNat].args.length c2)) (first|assumption|(simp[*]; done)|exact VD aB (by simp) (by simp; omega) (by simp; omega) (by simp; omega))
     ((go_at_call 38; refine(N.o _ _ _ _ X (by exact Vy (below_drewN (CX _ _) _) HX.o) (by exact u.o _ _ _)).mono ?_; rintro e w1 ⟨j,rfl,I,J,ab⟩; obtain⟨s1,a3,n3,c3,rfl⟩:=Vx I J; have f0:=Vz ab; have f1:=VA ab; have f2:=VB ab; have aB:=And.intro (VC ab) (And.intro (Mw ab h0) (And.intro (Mw ab W) (Mw ab Y)))))
    go_wp2_with fail;refine An (v:=.tuple #[.agg #[.string s1,.slice a3 n3 c3],.bool _]) (by simp[results,results38,go_sem,f0,f1,Ay,Aw]; rfl) rfl ⟨_,by rw[s.o],?_,?_,?_⟩
    ·rw[s.o]; intro x hx; exact((I x hx).back (below_drewN (CX _ _) _) O).mono λb hb _=>P b hb
    ·rw[s.o]; exact J
    ·exact(((below_drewN (CX _ _) _).trans (ab.mono (by simp; omega))).setCell (by simp) _).setCell (by simp) _
  ·have L:Hid (AV t (z::d)=none):=Aa (by simp only[AV];rw[dif_neg G]);have ae:z<0∨(¬z<0/\(t.args.length:Int)<=z):=(by omega);rcases ae with h0|⟨h0,h1⟩;all_goals
    go_enter func38,ntmps38;go_wp2_with fail;go_quiet (fail)
    go_wp2_with fail;refine An (v:=.tuple #[KH,.bool false]) (by simp[results,results38,go_sem,KH]) rfl ⟨_,by rw[L.o]; rfl,?_,λ_=>rfl,((below_drewN (CX _ _) _).setCell (by simp) _).setCell (by simp) _⟩;intro x hx;rw[L.o]at hx;cases hx
theorem Fr {w:World} (a b c:Obj):Below w.heap.size w (((w.alloc a).alloc b).alloc c):=(CX a b).alloc (by simp; omega) c
theorem VG {w:World} (a b c d:Obj):Below w.heap.size w ((((w.alloc a).alloc b).alloc c).alloc d):=(Fr a b c).alloc (by simp; omega) d
theorem VH {w wr w1 w3:World} {T k:Nat} {u:Value} {l:List Tm} {xs:List Value} {c d:Obj} {s s':ByteArray} {a1:Option Addr} {m c1 g cap:Nat} {c0:Array Value} (ab:AK wr (w.heap.size+3) T (λ_=>False) u (l.take k) xs) (hb:Below w.heap.size w wr)
  (h1:Ac wr (w.heap.size+1) c0 T) (h2:Ac wr (w.heap.size+1+1) #[.string s,u] T) (al:w.heap.size+3<=wr.heap.size) (o:k<l.length)
  (f:Below (wr.alloc c).drew.heap.size (wr.alloc c).drew w1) (ht:TV w1 (λb=>(wr.alloc c).drew.heap.size<=b) (.agg #[.string s',.slice a1 m c1]) l[k])
  (q:w3.ownsRow (w.heap.size+3) T 2 (.slice (some (zD g 0)) ((l.take k).length+1) cap) ((l.take k).length+1) (xs++[.string s',.slice a1 m c1])) (i:(w1.alloc d).grownBy w3 u.ownBlock) (r:u.ownBlock=some g∨g=(w1.alloc d).heap.size):
  let a:=w3.setCell (zD (w.heap.size+1+1) 1) (.slice (some (zD g 0)) ((l.take k).length+1) cap)
  AK a (w.heap.size+3) T (λ_=>False) (.slice (some (zD g 0)) ((l.take k).length+1) cap) (l.take (k+1)) (xs++[.string s',.slice a1 m c1])/\Below w.heap.size w a/\Ac a (w.heap.size+1) c0 T/\Ac a (w.heap.size+1+1) #[.string s,.slice (some (zD g 0)) ((l.take k).length+1) cap] T/\w.heap.size+3<=a.heap.size:=by
 intro a;have n:Below wr.heap.size wr (wr.alloc c).drew:=((Af _ _).alloc (Ai _) c).drew;have t:=ab.below n;have aa:=ab.own.lt;have v:=f.size;have x:=i.size;simp at v x;have hp:=t.push (w1:=w1) (w2:=w1.alloc d) (w3:=w3) (by simp; omega) (λ_ h=>h.elim) f (ht.mono λb h _=>Ae h) d rfl q i r;have y:Below w.heap.size w w3:=(((hb.trans (n.mono (by omega))).trans (f.mono (by simp; omega))).alloc (by omega) d).grown i (by simp; omega) (λj hj=>by have:=(aa j hj).1; omega);have z:Below w.heap.size w a:=y.setCell (p:=(zD (w.heap.size+1+1) 1)) (by simp; omega) _;refine⟨?_,z,(Mn h1 f i (λe=>by have:=(aa _ e.symm).1; omega)).setOther _ _ (by omega),?_,by simp[a,World.setCell]; omega⟩
 ·rw[Bo o];exact hp.setCell (by omega) (λh=>h) _
 ·exact(Mn h2 f i (λe=>by have:=(aa _ e.symm).1; omega)).set 1 _
theorem VI (t:Tm):∀(v:Value) (w:World) (X:Nat->Prop),TV w X v t->Ab [t]<=1000000->
  Calls prog 79 #[v] w λe w'=>∃r,e=.returned r/\TV w' (λb=>w.heap.size<=b) r t/\Below w.heap.size w w':=by
 induction t using Tm.ind with
 |h s l y=>
  intro v w X hv N;have O:=Aa y;clear y;obtain⟨a,c,rfl,hs⟩:=hv;have hl:=hs.1;have hz:Ab [(⟨s,l⟩:Tm)]=1+Ab l:=by simp[Ab]
  rw[hz]at N;clear hz;have hlen:=EM l;obtain⟨i0,hi,P,R,T⟩:=CE Tryz.infoTerm;go_enter func79,ntmps79;go_wp2_with fail;go_loopw [12] (λi wr=>∃(k:Nat) (u:Value) (xs:List Value),k<=l.length/\i=zA k/\AK wr (w.heap.size+3) 33 (λ_=>False) u (l.take k) xs/\Below w.heap.size w wr/\Ac wr (w.heap.size+1) #[.string ⟨#[]⟩,zB] 33/\Ac wr (w.heap.size+1+1) #[.string s,u] 33/\w.heap.size+3<=wr.heap.size) (λi wr=>l.length-(intOf i).toNat);case atStart=>
   refine⟨0,zB,[],AG _,rfl,AK.start _ _ _ _,Fr _ _ _,?_,?_,by simp⟩
   ·have:=((Ac.new (w.alloc (.cells #[.string s,.slice a l.length c] 33)) #[.string ⟨#[]⟩,zB] 33)).alloc (.cells #[.string s,zB] 33);simpa using this
   ·have:=Ac.new ((w.alloc (.cells #[.string s,.slice a l.length c] 33)).alloc (.cells #[.string ⟨#[]⟩,zB] 33)) #[.string s,zB] 33;simpa using this
  case round=>
   obtain⟨k,u,xs,hk,rfl,z,hb,A,ab,U⟩:=hrel;have f:=Aa z;have j:=Aa A;have m:=Aa ab;have B:=Aa hb;clear z A;by_cases n:k<l.length
   ·obtain⟨b,o,a',c',rfl,d0,d1,hx⟩:=hs.get hb (λ_ _ h=>h) k n;have V:∀o,(wr.alloc o).cell? (zD (w.heap.size+1+1) 1)=some u:=λo=>(ab.alloc o).cell 1;have W:=Aa hx;have Y:Ab [l[k]]<=1000000:=by
     have:=De l k n; have:=Df l (k+1); omega
    clear ab hb hx;go_wp2_with fail;go_region_law (first
     | (go_simp; go_at_call 79; refine(O.o _ (AN n) _ _ X (by exact(W.o.alloc _).later (below_drewN (Af _ _) 1)) Y).mono ?_; rintro e w1 ⟨v1,rfl,Z,d⟩; obtain⟨a1,c1,rfl,a8⟩:=Z; have aA:∀o,(w1.alloc o).cell? (zD (w.heap.size+1+1) 1)=some u:=λo=>((((m.o.alloc _).drewN 1).below d (by simp; omega)).alloc o).cell 1; have aB:w1.cell? (zD (w.heap.size+1+1) 1)=some u:=(((m.o.alloc _).drewN 1).below d (by simp; omega)).cell 1)
     | (refine step_append_lies _ rfl _ _ 31 rfl (w.heap.size+3) 33 i0 _ 2 40 underlying31 hi P R T rfl (by decide) u (l.take k).length xs rfl (by exact(((f.o.below ((Af _ _).alloc (Ai _) _)).below (below_drewN (Af _ _) 1)).below d).own.alloc _) (zD w1.heap.size 0) 1 1 [.string l[k].name,.slice a1 l[k].args.length c1] rfl rfl (cell_two_new _ _ _ _) (λx hx=>by simp at hx; rcases hx with rfl|rfl<;>rfl) (by decide) (by unfold maxLen; simp; omega) (by simp; omega) (by have:=d.size; simp at this ⊢; omega) _ rfl ?_; intro g cap w3 C aa D aC; have E:=Aa (Mn m.o d aa (f.o.ne (D8 _))); have aI:w3.cell? (zD (w.heap.size+1+1) 1)=some u:=E.o.cell 1; have aJ:=E.o.frozen 1))
    all_goals
     have ao:=Aa (VH f.o B.o j.o m.o U n d ⟨a1,c1,rfl,a8⟩ C aa D);clear C aa D V aA aB;go_wp2_with fail;go_roundw
     case rel=>
      have aD:(l.take k).length=k:=by simp; omega
      obtain⟨F,G,H,I,J⟩:=ao.o;simp only[aD] at F G H I J;exact⟨k+1,_,_,by omega,by go_num,F,G,H,I,J⟩
     case measure=>simp[intOf]; omega
   ·have L:l.take k=l:=AX (by omega);have aK:=ab.cell 0;have aL:=ab.cell 1;have aE:=j.o.cell 0;have aF:=j.o.cell 1;have aM:=j.o.frozen;obtain⟨a9,c9,M,q⟩:=f.o.sl;rw[L]at M q;have aG:=Aa q;subst M;clear q L ab;go_wp2_with fail;refine An (v:=.agg #[.string s,.slice a9 l.length c9]) (by simp[results,results79,go_sem,aE,aF,Ay,Aw]) rfl ⟨_,rfl,?_,?_⟩
    ·refine⟨a9,c9,rfl,?_⟩;have aH:Sl wr (λb=>w.heap.size+3<=b) a9 l:=aG.o.mono λb h _=>h.elim False.elim id;exact((aH.kept λb hb=>by rw[Aq _ _ _ _ (by simp; omega),Aq _ _ _ _ (by simp; omega)]).mono λb hb _=>by omega)
    ·exact(B.o.setCell (by simp) _).setCell (by simp) _
