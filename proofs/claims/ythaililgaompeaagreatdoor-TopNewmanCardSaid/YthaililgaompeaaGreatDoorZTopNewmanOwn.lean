import Derived.Test.YthaililgaompeaaGreatDoorSq
import Derived.WalkKit
import Derived.WalkSpells
import Derived.WalkLawsBesides
import Derived.Test.YthaililgaompeaaGreatDoorRows
import Derived.BigQuiet
import Derived.Deep.RegionHeld
import Derived.Deep.RegionHeld3
import Derived.Deep.AppendLies
import Derived.Deep.AppendSrc
namespace Go.Proofs.YthaililgaompeaaGreatDoor
set_option linter.all false
set_option maxRecDepth 20000
set_option maxHeartbeats 8000000
open Go.RowKit Go.Proofs.Tryz
variable {w w' w1 w2 w3 wr:World} {X Y Z:Nat->Prop} {a:Option Addr} {B N T b c cap g i k n o:Nat} {u v v0 v1 v2:Value} {s s2 x:ByteArray} {l xs:List Value} {d:List Int} {cs:Array Value} {r row:Option Nat} {α:Type} {aa acc:List ByteArray}
theorem Aa {p:Prop} (h:p):Hid p:=h
structure Tm where
 name:ByteArray
 args:List Tm
abbrev zF (t:Tm) (a:Option Addr) (c:Nat):Array Value:=#[.string t.name,.slice a t.args.length c]
abbrev ze (t:Tm) (a:Option Addr) (c:Nat):Obj:=.cells (zF t a c) 31
theorem Tm.ind {P:Tm->Prop} (h:∀s l,(∀x∈l,P x)->P ⟨s,l⟩) (t:Tm):P t:=
 Tm.rec (motive_1:=P) (motive_2:=λl=>∀x∈l,P x) (λs l b=>h s l b) (λx hx=>by cases hx)
  (λa l ha c x hx=>by
   rcases Bh.1 hx with e|e
   ·subst e; exact ha
   ·exact c x e) t
theorem Tm.indL {P:List Tm->Prop} (h0:P []) (h:∀s l r,P l->P r->P (⟨s,l⟩::r)) (l:List Tm):P l:=
 Tm.rec_1 (motive_1:=λt=>P t.args) (motive_2:=P) (λ_ _ b=>b) h0 (λa l ha c=>by obtain⟨s,k⟩:=a; exact h s k l ha c) l
def Ab:List Tm->Nat
 | []=>0
 | ⟨_,l⟩::r=>1+Ab l+Ab r
theorem Ej (a b:List Tm):Ab (a++b)=Ab a+Ab b:=by
 induction a with
 |nil=>simp[Ab]
 |cons t r c=>obtain⟨s,l⟩:=t; simp only[Bj,Ab,c]; omega
def C4 (w:World) (X:Nat->Prop):Nat->Nat->List Tm->Prop
 |_,_,[]=>True
 |b,o,⟨s,l⟩::r=>X b/\w.cell? (zD b o)=some (.string s)/\
   (∃a c,w.cell? ⟨b,o+1,none⟩=some (.slice a l.length c)/\l.length<=9223372036854775807/\(l=[]∨∃b' o',a=some (zD b' o')/\C4 w X b' o' l))/\C4 w X b (o+2) r
def Sl (w:World) (X:Nat->Prop) (a:Option Addr) (l:List Tm):Prop:=l.length<=9223372036854775807/\(l=[]∨∃b o,a=some (zD b o)/\C4 w X b o l)
def TV (w:World) (X:Nat->Prop) (v:Value) (t:Tm):Prop:=∃a c,v=.agg (zF t a c)/\Sl w X a t.args
theorem Xs (h:∀b,X b->w'.heap[b]? = w.heap[b]?) (l:List Tm):∀b o,C4 w X b o l->C4 w' X b o l:=by
 induction l using Tm.indL with
 |h0=>intro b o _; simp[C4]
 |h s l r aa ab=>
  intro b o d;simp only[C4] at d ⊢;obtain⟨hx,h1,⟨a,c,h2,e,h3⟩,f⟩:=d;refine⟨hx,by rw[Ce (h b hx)]; exact h1,⟨a,c,by rw[Ce (h b hx)]; exact h2,e,?_⟩,ab _ _ f⟩;rcases h3 with h3|⟨b',o',h3,g⟩
  ·exact Ae h3
  ·exact Ad ⟨b',o',h3,aa _ _ g⟩
theorem Xt (h:∀b,X b->b<w.heap.size->Y b) (l:List Tm):∀b o,C4 w X b o l->C4 w Y b o l:=by
 induction l using Tm.indL with
 |h0=>intro b o _; simp[C4]
 |h s l r aa ab=>
  intro b o d;simp only[C4] at d ⊢;obtain⟨hx,h1,⟨a,c,h2,f,h3⟩,g⟩:=d;have hb:b<w.heap.size:=by
   apply EX;intro hn;have e:w.heap[b]? = none:=Jo (by omega);simp[World.cell?,e]at h1
  refine⟨h b hx hb,h1,⟨a,c,h2,f,?_⟩,ab _ _ g⟩;rcases h3 with h3|⟨b',o',h3,i⟩
  ·exact Ae h3
  ·exact Ad ⟨b',o',h3,aa _ _ i⟩
theorem Sl.kept {l:List Tm} (h:Sl w X a l) (hk:∀b,X b->w'.heap[b]? = w.heap[b]?):Sl w' X a l:=by
 obtain⟨c,h⟩:=h;refine⟨c,?_⟩;rcases h with h|⟨b,o,e,h⟩
 ·exact Ae h
 ·exact Ad ⟨b,o,e,Xs hk _ _ _ h⟩
theorem Sl.mono {l:List Tm} (h:Sl w X a l) (hk:∀b,X b->b<w.heap.size->Y b):Sl w Y a l:=by
 obtain⟨c,h⟩:=h;refine⟨c,?_⟩;rcases h with h|⟨b,o,e,h⟩
 ·exact Ae h
 ·exact Ad ⟨b,o,e,Xt hk _ _ _ h⟩
theorem Sl.below {l:List Tm} (h:Sl w X a l) (hb:Below B w w') (c:∀b,X b->b<w.heap.size->b<B):Sl w' X a l:=by
 have h1:Sl w (λb=>X b/\b<B) a l:=h.mono λb hx hs=>⟨hx,c b hx hs⟩;have h2:Sl w' (λb=>X b/\b<B) a l:=h1.kept λb hx=>hb.block b hx.2;exact h2.mono λb hx _=>hx.1
theorem TV.kept {t:Tm} (h:TV w X v t) (hk:∀b,X b->w'.heap[b]? = w.heap[b]?):TV w' X v t:=by
 obtain⟨a,c,e,h⟩:=h;exact⟨a,c,e,h.kept hk⟩
theorem TV.mono {t:Tm} (h:TV w X v t) (hk:∀b,X b->b<w.heap.size->Y b):TV w Y v t:=by
 obtain⟨a,c,e,h⟩:=h;exact⟨a,c,e,h.mono hk⟩
theorem TV.below {t:Tm} (h:TV w X v t) (hb:Below B w w') (d:∀b,X b->b<w.heap.size->b<B):TV w' X v t:=by
 obtain⟨a,c,e,h⟩:=h;exact⟨a,c,e,h.below hb d⟩
theorem TV.alloc {t:Tm} (h:TV w X v t) (o:Obj):TV (w.alloc o) X v t:=
 h.below ((Ag _ _).alloc (Al _) o) (λ_ _ h=>h)
theorem TV.later {t:Tm} (h:TV w X v t) (hb:Below w.heap.size w w'):TV w' X v t:=h.below hb (λ_ _ h=>h)
theorem Sl.later {l:List Tm} (h:Sl w X a l) (hb:Below w.heap.size w w'):Sl w' X a l:=h.below hb (λ_ _ h=>h)
theorem Ip:∀(l:List Tm) (b o:Nat),C4 w X b o l->∀i (h:i<l.length),
  X b/\w.cell? ⟨b,o+i*2,none⟩=some (.string l[i].name)/\∃a c,w.cell? ⟨b,o+i*2+1,none⟩=some (.slice a l[i].args.length c)/\Sl w X a l[i].args:=by
 intro l;induction l with
 |nil=>intro b o _ i h; simp at h
 |cons t r e=>
  intro b o d i h;obtain⟨s,k⟩:=t;simp only[C4] at d;obtain⟨hx,h1,⟨a,c,h2,h3⟩,f⟩:=d;cases i with
  |zero=>exact⟨hx,h1,a,c,h2,h3⟩
  |succ i=>have:=e b (o+2) f i (by simpa using h);simp only[FX];rw[show o+(i+1)*2=o+2+i*2 by omega];exact this
theorem N8:∀(l:List Tm) (b o:Nat),(∀i (h:i<l.length),
  X b/\w.cell? ⟨b,o+i*2,none⟩=some (.string l[i].name)/\∃a c,w.cell? ⟨b,o+i*2+1,none⟩=some (.slice a l[i].args.length c)/\Sl w X a l[i].args)->C4 w X b o l:=by
 intro l;induction l with
 |nil=>intro b o _; simp[C4]
 |cons t r e=>intro b o d;obtain⟨s,k⟩:=t;simp only[C4];obtain⟨hx,h1,a,c,h2,h3⟩:=d 0 (by simp);refine⟨hx,h1,⟨a,c,h2,h3⟩,e b (o+2) λi h=>?_⟩;have:=d (i+1) (by simpa using h);simp only[FX] at this;rw[show o+(i+1)*2=o+2+i*2 by omega]at this;exact this
theorem Sl.get {l:List Tm} (h:Sl w X a l) (hb:Below B w wr) (c:∀b,X b->b<w.heap.size->b<B) (k:Nat) (hk:k<l.length):
  ∃b o a' c',a=some (zD b o)/\wr.cell? ⟨b,o+k*2,none⟩=some (.string l[k].name)/\wr.cell? ⟨b,o+k*2+1,none⟩=some (.slice a' l[k].args.length c')/\TV wr X (.agg (zF l[k] a' c')) l[k]:=by
 have h':=h.below hb c;obtain⟨_,h1⟩:=h';rcases h1 with h1|⟨b,o,e,h1⟩
 ·subst h1; simp at hk
 ·obtain⟨_,h2,a',c',h3,d⟩:=Ip _ _ _ h1 k hk;exact⟨b,o,a',c',e,h2,h3,a',c',rfl,d⟩
theorem Xu {W:World} (hb:Below B W w1):(∀b o,b<B->w1.cell? (zD b o)=W.cell? (zD b o))/\(∀b o,b<B->w1.frozen? (zD b o)=W.frozen? (zD b o)):=
 ⟨λb o h=>hb.cell (p:=(zD b o)) h,λb o h=>hb.frozen (p:=(zD b o)) h⟩
theorem DP (l:List Tm) (k:Nat) (h:k<l.length):Ab (l.take (k+1))=Ab (l.take k)+Ab [l[k]]:=by
 rw[Ci h,Ej]
theorem Eu (l:List Tm) (k:Nat):Ab (l.take k)<=Ab l:=by
 have:=Ej (l.take k) (l.drop k);rw[DM]at this;omega
theorem Cj {k:IntKind} {a b:Int} (h:a=b):Ending.returned (.int k a)=.returned (.int k b):=by rw[h]
theorem JC {o:Obj} (hb:Below (w.heap.size+1) (w.alloc o) wr):Below w.heap.size w wr:=
 ((Ag _ _).alloc (Al _) _).trans (hb.mono (Nat.le_succ _))
theorem QN (t:Tm):∀(v:Value) (most:Int) (w:World) (X:Nat->Prop),TV w X v t->0<=most->most<=1000000->
  Calls prog 15 #[v,zA most] w λe w'=>e=.returned (zA (min (Ab [t]) (most+1)))/\Below w.heap.size w w':=by
 induction t using Tm.ind with
 |h s l f=>
  intro v most w X hv ah ai;obtain⟨a,c,rfl,hs⟩:=hv;have j:=Aa f;clear f;go_enter func15,ntmps15;go_wp2_with fail;go_loopw [5,6] (λn i wr=>∃k:Nat,k<=l.length/\i=zA k/\n=zA (min (1+Ab (l.take k)) (most+1))/\Below (w.heap.size+1) (w.alloc (Obj.cells #[Value.string s,Value.slice a l.length c] 31)) wr) (λn i wr=>l.length-(intOf i).toNat);case atStart=>exact⟨0,Be _,rfl,by simp[Ab]; omega,Ag _ _⟩
  case round=>
   obtain⟨k,hk,rfl,rfl,hb⟩:=hrel;have hc:=Xu hb;have c0:wr.cell? (zD w.heap.size 0)=some (.string s):=by rw[hc.1 _ _ (by omega)]; simp
   have c1:wr.cell? (zD w.heap.size 1)=some (.slice a l.length c):=by rw[hc.1 _ _ (by omega)]; simp
   have hl:=hs.1;have hn:0<=((1:Int)+Ab (l.take k)):=(by omega);by_cases d:k<l.length
   ·obtain⟨b,o,a',c',rfl,d0,d1,hx⟩:=hs.get (((Ag _ _).alloc (Al _) _).trans (hb.mono (Nat.le_succ _))) (λ_ _ h=>h) k d;by_cases hle:1+(Ab (l.take k):Int)<=most
    ·have aa:min (1+(Ab (l.take k):Int)) (most+1)=1+(Ab (l.take k):Int):=(by omega);rw[aa];go_wp2_with fail;refine(j.o _ (AM d) _ _ _ X hx (by omega) (by omega)).mono ?_;rintro e w1 ⟨rfl,ab⟩;have m:w.heap.size+1<=wr.heap.size:=by have:=hb.size; simpa using this
     have q:=Aa (DP l k d);have aj:0<=min ((Ab [l[k]]:Int)) (most-(1+(Ab (l.take k):Int))+1):=(by omega);have ak:min ((Ab [l[k]]:Int)) (most-(1+(Ab (l.take k):Int))+1)<=1000001:=(by omega);go_wp2_with fail;go_roundw
     case rel=>exact⟨k+1,by omega,by go_num,by rw[q.o]; congr 1; omega,hb.trans (ab.mono m)⟩
     case measure=>simp[intOf]; omega
    ·have aa:min (1+(Ab (l.take k):Int)) (most+1)=most+1:=(by omega);rw[aa];have hz:(Ab [(⟨s,l⟩:Tm)]:Int)=1+Ab l:=(by simp[Ab]);have af:Ab (l.take k)<=Ab l:=Eu l k;have r:=Aa (show(most+1:Int)=min (Ab [(⟨s,l⟩:Tm)]:Int) (most+1) by omega);clear hz;go_wp2_with fail;go_ret;exact⟨Cj r.o,JC hb⟩
   ·have u:l.take k=l:=BH (by omega);rw[u];have hz:(Ab [(⟨s,l⟩:Tm)]:Int)=1+Ab l:=(by simp[Ab]);have g:=Aa hz;clear hz;go_wp2_with fail
    ·go_ret;exact⟨Cj (by have:=g.o; omega),JC hb⟩
    ·go_ret;exact⟨Cj (by have:=g.o; omega),JC hb⟩
def Fo (n:Int):Bool:=decide (48<=n)&&decide (n<=57)
def GZ (n:Int):Bool:=decide (65<=n)&&decide (n<=90)
def KM (n:Int):Bool:=decide (97<=n)&&decide (n<=122)
def IQ (n:Int):Bool:=KM n||GZ n
def DQ (n:Int):Bool:=IQ n||Fo n
theorem Ck {a b:Bool} (h:a=b):Ending.returned (.bool a)=.returned (.bool b):=by rw[h]
theorem Mg (n:Int) (w:World):Calls prog 103 #[.int .u8 n] w λe w'=>e=.returned (.bool (Fo n))/\w'=w:=by
 go_enter func103,ntmps103;go_wp2_with fail;all_goals (go_ret; refine⟨Ck ?_,rfl⟩; rw[Io]; simp[DQ,IQ,KM,GZ,Fo]<;>omega)
theorem QO (n:Int) (w:World):Calls prog 92 #[.int .u8 n] w λe w'=>e=.returned (.bool (GZ n))/\w'=w:=by
 go_enter func92,ntmps92;go_wp2_with fail;all_goals (go_ret; refine⟨Ck ?_,rfl⟩; rw[Io]; simp[DQ,IQ,KM,GZ,Fo]<;>omega)
theorem N9 (n:Int) (w:World):Calls prog 104 #[.int .u8 n] w λe w'=>e=.returned (.bool (IQ n))/\w'=w:=by
 go_enter func104,ntmps104;go_wp2_with (go_at_call 92; refine(QO _ _).mono ?_; rintro e w' ⟨rfl,rfl⟩);all_goals (go_ret; refine⟨Ck ?_,rfl⟩; rw[Io]; simp[DQ,IQ,KM,GZ,Fo]<;>omega)
theorem KN (n:Int) (w:World):Calls prog 42 #[.int .u8 n] w λe w'=>e=.returned (.bool (DQ n))/\w'=w:=by
 go_enter func42,ntmps42;go_wp2_with fail;all_goals (go_ret; refine⟨Ck ?_,rfl⟩; rw[Io]; simp[DQ,IQ,KM,GZ,Fo]<;>omega)
def Cq (s:ByteArray) (i:Nat):Int:=if h:i<s.size then (s[i].toNat:Int) else 0
theorem Iq (h:i<s.size):(s[i].toNat:Int)=Cq s i:=by simp[Cq,h]
def Aj (s:ByteArray):Bool:=GZ (Cq s 0)
def Fz (s:ByteArray) (k:Nat):Bool:=(List.range k).all λi=>DQ (Cq s i)
def AF (s:ByteArray):Bool:=decide (1<=s.size)&&decide (s.size<=8)&&!Fo (Cq s 0)&&Fz s s.size
theorem Oa (h:0<s.size):s.toList.isEmpty=false:=by
 rw[Jp,List.isEmpty_eq_false_iff,<-Gq];simpa using h
theorem Ob (h:¬0<s.size):s.toList.isEmpty=true:=by
 rw[Jp,List.isEmpty_iff,<-Fj];have:s.size=0:=by omega
 simpa using this
theorem Oc (s:ByteArray) (k:Nat):Fz s (k+1)=(Fz s k&&DQ (Cq s k)):=by
 simp[Fz,List.range_succ,List.all_append]
theorem Xv (h:k<=n) (b:Fz s k=false):Fz s n=false:=by
 cases a:Fz s n with
 |false=>rfl
 |true=>
  rw[<-b]; symm
  unfold Fz at a ⊢;rw[GR]at a ⊢;intro x hx; exact a x (by rw[List.mem_range] at hx ⊢; omega)
theorem Xw (s:ByteArray) (w:World):Calls prog 44 #[.string s] w λe w'=>e=.returned (.bool (Aj s))/\w'=w:=by
 by_cases h:0<s.size
 ·have hb:=Aa (Iq h);have he:=Oa h;go_enter func44,ntmps44;go_wp2_with fail;all_goals (go_ret; refine⟨Ck ?_,rfl⟩; have aa:=hb.o; rw[Io]; simp[Aj,GZ]<;>omega)
 ·have he:=Ob h;have hv:Hid (false=Aj s):=by simp[Hid,Aj,Cq,h,GZ]
  go_enter func44,ntmps44;go_wp2_with fail;go_ret;exact⟨Ck hv.o,rfl⟩
theorem BR (s:ByteArray) (w:World):Calls prog 65 #[.string s] w λe w'=>e=.returned (.bool (Aj s))/\w'=w:=by
 by_cases h:0<s.size
 ·have hb:=Aa (Iq h);have he:=Oa h;go_enter func65,ntmps65;go_wp2_with (go_at_call 92; refine(QO _ _).mono ?_; rintro e w' ⟨rfl,rfl⟩);go_ret;refine⟨Ck ?_,rfl⟩;rw[hb.o]; rfl
 ·have he:=Ob h;have hv:Hid (false=Aj s):=by simp[Hid,Aj,Cq,h,GZ]
  go_enter func65,ntmps65;go_wp2_with fail;go_ret;exact⟨Ck hv.o,rfl⟩
theorem JD (s:ByteArray) (w:World) (h:0<s.size):Calls prog 65 #[.string s] w λe w'=>e=.returned (.bool (Aj s))/\w'=w:=BR s w
theorem QP (hk:k<s.size) (h:DQ (Cq s k)=false):AF s=false:=by
 have h1:Fz s (k+1)=false:=by rw[Oc,h]; simp
 have h2:=Xv (n:=s.size) (by omega) h1;simp[AF,h2]
theorem Ir (s:ByteArray) (w:World):Calls prog 79 #[.string s] w λe w'=>e=.returned (.bool (AF s))/\w'=w:=by
 by_cases h0:s.size<1
 ·have a:Hid (false=AF s):=by simp[Hid,AF]; omega
  go_enter func79,ntmps79;go_wp2_with fail;go_ret;exact⟨Ck a.o,rfl⟩
 ·by_cases h8:8<s.size
  ·have a:Hid (false=AF s):=by simp[Hid,AF]; omega
   go_enter func79,ntmps79;go_wp2_with fail;all_goals (go_ret; exact⟨Ck a.o,rfl⟩)
  ·have hb:=Aa (Iq (s:=s) (i:=0) (by omega));by_cases hd:Fo (Cq s 0)=true
   ·have a:Hid (false=AF s):=(by simp[Hid,AF,hd]);have d:=Aa hd;clear hd;go_enter func79,ntmps79;go_wp2_with (go_at_call 103; refine(Mg _ _).mono ?_; rintro e w' ⟨rfl,rfl⟩; rw[hb.o,d.o]);all_goals (go_ret; exact⟨Ck a.o,rfl⟩)
   ·have d:Hid (Fo (Cq s 0)=false):=(by simpa [Hid] using hd);clear hd;go_enter func79,ntmps79;go_wp2_with (go_at_call 103; refine(Mg _ _).mono ?_; rintro e w' ⟨rfl,rfl⟩; rw[hb.o,d.o]);go_loop [19] (λi=>∃k:Nat,k<=s.size/\i=zA k/\Fz s k=true) (λi=>s.size-(intOf i).toNat)
    case atStart=>exact⟨0,Be _,rfl,rfl⟩
    case round=>
     obtain⟨k,hk,rfl,ha⟩:=hrel;have h:=Aa ha;clear ha;by_cases j:k<s.size
     ·have aa:=Aa (Iq j);have ab:=Aa (Oc s k);cases f:IQ (Cq s k) with
      |true=>
       have b:=Aa f;clear f;go_wp2_with (go_at_call 104; refine(N9 _ _).mono ?_; rintro e w' ⟨rfl,rfl⟩; rw[aa.o,b.o]);go_round
       case rel=>exact⟨k+1,by omega,by go_num,by rw[ab.o,h.o,DQ,b.o]; rfl⟩
       case measure=>simp[intOf]; omega
      |false=>
       have b:=Aa f;clear f;cases g:Fo (Cq s k) with
       |true=>
        have c:=Aa g;clear g;go_wp2_with (first|(go_at_call 104; refine(N9 _ _).mono ?_; rintro e w' ⟨rfl,rfl⟩; rw[aa.o,b.o])|(go_at_call 103; refine(Mg _ _).mono ?_; rintro e w' ⟨rfl,rfl⟩; rw[aa.o,c.o]));go_round
        case rel=>exact⟨k+1,by omega,by go_num,by rw[ab.o,h.o,DQ,b.o,c.o]; rfl⟩
        case measure=>simp[intOf]; omega
       |false=>have c:=Aa g;clear g;go_wp2_with (first|(go_at_call 104; refine(N9 _ _).mono ?_; rintro e w' ⟨rfl,rfl⟩; rw[aa.o,b.o])|(go_at_call 103; refine(Mg _ _).mono ?_; rintro e w' ⟨rfl,rfl⟩; rw[aa.o,c.o]));go_ret;exact⟨Ck (QP j (by rw[DQ,b.o,c.o]; rfl)).symm,rfl⟩
     ·have a:Hid (true=AF s):=(by have e:k=s.size:=(by omega);have:=h.o;rw[e]at this;simp[Hid,AF,this,d.o]; omega);go_wp2_with fail;go_ret;exact⟨Ck a.o,rfl⟩
theorem QQ (s:ByteArray) (w:World):Calls prog 43 #[.string s] w λe w'=>e=.returned (.bool (AF s))/\w'=w:=by
 by_cases h0:0<s.size
 ·have he:=Oa h0;have hb:=Aa (Iq h0);by_cases h8:8<s.size
  ·have a:Hid (false=AF s):=by simp[Hid,AF]; omega
   go_enter func43,ntmps43;go_wp2_with fail;all_goals (go_ret; exact⟨Ck a.o,rfl⟩)
  ·cases hd:Fo (Cq s 0) with
   |true=>
    have a:Hid (false=AF s):=(by simp[Hid,AF,hd]);have ae:48<=(s[0].toNat:Int):=by rw[hb.o]; simp[Fo] at hd; exact hd.1
    have af:(s[0].toNat:Int)<=57:=by rw[hb.o]; simp[Fo] at hd; exact hd.2
    clear hd;go_enter func43,ntmps43;go_wp2_with fail;all_goals (go_ret; exact⟨Ck a.o,rfl⟩)
   |false=>
    have d:=Aa hd;clear hd;have h:(s[0].toNat:Int)<48∨(48<=(s[0].toNat:Int)/\57<(s[0].toNat:Int)):=(by have:=d.o; rw[hb.o]; simp[Fo] at this; omega);rcases h with h1|⟨h1,h2⟩;all_goals
     go_enter func43,ntmps43;go_wp2_with fail;go_loop [3] (λi=>∃k:Nat,k<=s.size/\i=zA k/\Fz s k=true) (λi=>s.size-(intOf i).toNat)
     case atStart=>exact⟨0,Be _,rfl,rfl⟩
     case round=>
      obtain⟨k,hk,rfl,ha⟩:=hrel;have f:=Aa ha;clear ha;by_cases g:k<s.size
      ·have ab:=Aa (Iq g);have aa:=Aa (Oc s k);cases c:DQ (Cq s k) with
       |true=>
        have b:=Aa c;clear c;go_wp2_with (go_at_call 42; refine(KN _ _).mono ?_; rintro e w' ⟨rfl,rfl⟩; rw[ab.o,b.o]);go_round
        case rel=>exact⟨k+1,by omega,by go_num,by rw[aa.o,f.o,b.o]; rfl⟩
        case measure=>simp[intOf]; omega
       |false=>have b:=Aa c;clear c;go_wp2_with (go_at_call 42; refine(KN _ _).mono ?_; rintro e w' ⟨rfl,rfl⟩; rw[ab.o,b.o]);go_ret;exact⟨Ck (QP g b.o).symm,rfl⟩
      ·have a:Hid (true=AF s):=(by have e:k=s.size:=(by omega);have:=f.o;rw[e]at this;simp[Hid,AF,this,d.o]; omega);go_wp2_with fail;go_ret;exact⟨Ck a.o,rfl⟩
 ·have he:=Ob h0;have a:Hid (false=AF s):=by simp[Hid,AF]; omega
  go_enter func43,ntmps43;go_wp2_with fail;all_goals (go_ret; exact⟨Ck a.o,rfl⟩)
theorem Xx (s:ByteArray) (a:Option Addr) (n c:Nat) (w:World):
  Calls prog 56 #[.agg #[.string s,.slice a n c]] w λe w'=>e=.returned (.slice a n c)/\w'=w.alloc (zh #[.string s,.slice a n c] 31):=by
 go_enter func56,ntmps56;go_wp2_with fail;go_ret;exact⟨rfl,rfl⟩
theorem Xy (M:Int) (ai:0<=M) (aj:M<=1000000) (t:Tm):∀(v:Value) (n:Int) (w:World) (X:Nat->Prop),TV w X v t->0<=n->n<=M->
  Calls prog 84 #[v,.func (.func 56) #[] #[],zA M,zA n] w λe w'=>e=.returned (zA (min (n+Ab [t]) (M+1)))/\Below w.heap.size w w':=by
 induction t using Tm.ind with
 |h s l f=>
  intro v n w X hv ak al;obtain⟨a,c,rfl,hs⟩:=hv;have g:=Aa f;clear f;have hz:Hid ((Ab [(⟨s,l⟩:Tm)]:Int)=1+Ab l):=by simp[Hid,Ab]
  go_enter func84,ntmps84;go_wp2_with (go_at_call 56; refine(Xx _ _ _ _ _).mono ?_; rintro e w' ⟨rfl,rfl⟩);have ab:Hid (Below w.heap.size w ((w.alloc (Obj.cells #[Value.string s,Value.slice a l.length c] 31)).alloc (Obj.cells #[Value.string s,Value.slice a l.length c] 31))):=((Ag _ _).alloc (Al _) _).alloc (by simp) _;have an:Hid (w.heap.size+2<=((w.alloc (Obj.cells #[Value.string s,Value.slice a l.length c] 31)).alloc (Obj.cells #[Value.string s,Value.slice a l.length c] 31)).heap.size):=by simp[Hid]
  generalize ((w.alloc (Obj.cells #[Value.string s,Value.slice a l.length c] 31)).alloc (Obj.cells #[Value.string s,Value.slice a l.length c] 31))=w0 at *;go_loopw [9,18] (λm i wr=>∃k:Nat,k<=l.length/\i=zA k/\m=zA (min (n+1+Ab (l.take k)) (M+1))/\Below w.heap.size w wr) (λm i wr=>l.length-(intOf i).toNat);case atStart=>exact⟨0,Be _,rfl,by rw[show Ab (l.take 0)=0 by simp[Ab]]; congr 1; omega,ab.o⟩
  case round=>
   obtain⟨k,hk,rfl,rfl,hb⟩:=hrel;have hl:=hs.1;have j:w.heap.size<=wr.heap.size:=hb.size;by_cases d:k<l.length
   ·obtain⟨b,o,a',c',rfl,d0,d1,hx⟩:=hs.get hb (λ_ _ h=>h) k d;by_cases hle:n+1+(Ab (l.take k):Int)<=M
    ·have aa:min (n+1+(Ab (l.take k):Int)) (M+1)=n+1+(Ab (l.take k):Int):=(by omega);rw[aa];go_wp2_with fail;refine(g.o _ (AM d) _ _ _ X (hx.alloc _) (by omega) (by omega)).mono ?_;rintro e w1 ⟨rfl,q⟩;have r:=Aa (DP l k d);go_wp2_with fail;go_roundw
     case rel=>exact⟨k+1,by omega,by go_num,by rw[r.o]; congr 1; omega,(hb.alloc j _).trans (q.mono (by simp; omega))⟩
     case measure=>simp[intOf]; omega
    ·have aa:min (n+1+(Ab (l.take k):Int)) (M+1)=M+1:=(by omega);rw[aa];have ag:Ab (l.take k)<=Ab l:=Eu l k;go_wp2_with fail;go_ret;refine⟨Cj (by have:=hz.o; omega),?_⟩;exact hb.alloc (by omega) _
   ·have u:l.take k=l:=BH (by omega);rw[u];go_wp2_with fail;go_ret;exact⟨Cj (by have:=hz.o; omega),hb⟩
theorem Xz (M:Int) (aa:0<=M) (ab:M<=1000000) (t:Tm) (v:Value) (w:World) (X:Nat->Prop) (hv:TV w X v t):
  Calls prog 55 #[v,.func (.func 56) #[] #[],zA M] w λe w'=>e=.returned (zA (min (Ab [t]:Int) (M+1)))/\Below w.heap.size w w':=by
 obtain⟨a,c,rfl,hs⟩:=hv;have hv:TV w X (.agg (zF t a c)) t:=⟨a,c,rfl,hs⟩;go_enter func55,ntmps55;go_wp2_with fail;refine(Xy M aa ab t _ _ _ X (hv.alloc _) (by omega) (by omega)).mono ?_;rintro e w1 ⟨rfl,b⟩;go_wp2_with fail;go_ret;exact⟨Cj (by omega),((Ag _ _).alloc (Al _) _).trans (b.mono (by simp))⟩
theorem Is (M:Int) (aa:0<=M) (ab:M<=1000000) (t:Tm) (v:Value) (w:World) (X:Nat->Prop) (hv:TV w X v t):
  Calls prog 35 #[v,zA M] w λe w'=>e=.returned (zA (min (Ab [t]:Int) (M+1)))/\Below w.heap.size w w':=by
 obtain⟨a,c,rfl,hs⟩:=hv;have hv:TV w X (.agg (zF t a c)) t:=⟨a,c,rfl,hs⟩;go_enter func35,ntmps35;go_wp2_with fail;refine(Xz M aa ab t _ _ X (hv.alloc _)).mono ?_;rintro e w1 ⟨rfl,b⟩;go_wp2_with fail;go_ret;exact⟨Cj (by omega),((Ag _ _).alloc (Al _) _).trans (b.mono (by simp))⟩
def Af:List Tm->Int
 | []=>0
 | ⟨s,l⟩::r=>if AF s=true then (if (Aj s&&decide (0<l.length))=true then 2 else if Af l=0 then Af r else Af l) else 1
theorem FD (t:Tm) (r:List Tm):Af (t::r)=if Af [t]=0 then Af r else Af [t]:=by
 obtain⟨s,l⟩:=t;simp only[Af];split
 ·split
  ·simp
  ·split<;>simp_all
 ·simp
theorem QT (a b:List Tm):Af (a++b)=if Af a=0 then Af b else Af a:=by
 induction a with
 |nil=>simp[Af]
 |cons t r c=>rw[Bj,FD,FD t r,c];by_cases h:Af [t]=0<;>simp[h]
theorem XA (l:List Tm) (k:Nat) (h:k<l.length):Af (l.take (k+1))=if Af (l.take k)=0 then Af [l[k]] else Af (l.take k):=by
 rw[Ci h,QT]
theorem XB {l:List Tm} (h:Af (l.take k)≠0):Af l=Af (l.take k):=by
 have:=QT (l.take k) (l.drop k);rw[DM,Ah h]at this;exact this
theorem QU (h:AF s=true):0<s.size:=by
 simp[AF]at h; omega
theorem XC (t:Tm):∀(v:Value) (w:World) (X:Nat->Prop),TV w X v t->
  Calls prog 81 #[v] w λe w'=>e=.returned (zA (Af [t]))/\Below w.heap.size w w':=by
 induction t using Tm.ind with
 |h s l u=>
  intro v w X hv;obtain⟨a,c,rfl,hs⟩:=hv;have z:=Aa u;clear u;have hl:=hs.1;cases d:AF s with
  |false=>have hz:Hid (1=Af [(⟨s,l⟩:Tm)]):=(by simp[Hid,Af,d]);have g:=Aa d;clear d;go_enter func81,ntmps81;go_wp2_with (go_at_call 79; refine(Ir _ _).mono ?_; rintro e w' ⟨rfl,rfl⟩; rw[g.o]);go_ret;exact⟨Cj hz.o,(Ag _ _).alloc (Al _) _⟩
  |true=>
   have g:=Aa d;have aa:=QU d;by_cases n:Aj s=true/\0<l.length
   ·obtain⟨hv,A⟩:=n;have hz:Hid (2=Af [(⟨s,l⟩:Tm)]):=(by simp[Hid,Af,d,hv,A]);have j:=Aa hv;clear d hv;go_enter func81,ntmps81;go_wp2_with (first|(go_at_call 79; refine(Ir _ _).mono ?_; rintro e w' ⟨rfl,rfl⟩; rw[g.o])|(go_at_call 65; refine(JD _ _ aa).mono ?_; rintro e w' ⟨rfl,rfl⟩; rw[j.o]));go_ret;exact⟨Cj hz.o,(Ag _ _).alloc (Al _) _⟩
   ·have hz:Hid (Af [(⟨s,l⟩:Tm)]=Af l):=by
     have:(Aj s&&decide (0<l.length))=false:=by
      rw[Bool.eq_false_iff]; intro h; simp at h; exact n ⟨h.1,by omega⟩
     simp only[Hid,Af,d,this];by_cases h0:Af l=0<;>simp[h0]
    have ab:(Aj s=true/\l.length<1)∨Aj s=false:=by
     cases hv:Aj s with
     |true=>exact Ae ⟨rfl,by apply EX; intro h; exact n ⟨hv,by omega⟩⟩
     |false=>exact Ad rfl
    clear d n;rcases ab with ⟨hv,ak⟩|hv
    ·have B:l=[]:=Fj.1 (by omega);subst B;have j:=Aa hv;clear hv;go_enter func81,ntmps81;go_wp2_with (first|(go_at_call 79; refine(Ir _ _).mono ?_; rintro e w' ⟨rfl,rfl⟩; rw[g.o])|(go_at_call 65; refine(JD _ _ aa).mono ?_; rintro e w' ⟨rfl,rfl⟩; rw[j.o]));go_loop [22] (λi=>i=zA 0) (λi=>0)
     case atStart=>rfl
     case round=>subst hrel;have f:Hid (0=Af [(⟨s,[]⟩:Tm)]):=Aa (by rw[hz.o];simp[Af]);go_wp2_with fail;go_ret;exact⟨Cj f.o,(Ag _ _).alloc (Al _) _⟩
    ·have j:=Aa hv;clear hv;go_enter func81,ntmps81;go_wp2_with (first|(go_at_call 79; refine(Ir _ _).mono ?_; rintro e w' ⟨rfl,rfl⟩; rw[g.o])|(go_at_call 65; refine(JD _ _ aa).mono ?_; rintro e w' ⟨rfl,rfl⟩; rw[j.o]));go_loopw [22] (λi wr=>∃k:Nat,k<=l.length/\i=zA k/\Af (l.take k)=0/\Below (w.heap.size+1) (w.alloc (Obj.cells #[Value.string s,Value.slice a l.length c] 31)) wr) (λi wr=>l.length-(intOf i).toNat);case atStart=>exact⟨0,Be _,rfl,by simp[Af],Ag _ _⟩
     case round=>
      obtain⟨k,hk,rfl,he,hb⟩:=hrel;have q:=Aa he;clear he;have C:w.heap.size+1<=wr.heap.size:=by have:=hb.size; simpa using this
      by_cases r:k<l.length
      ·obtain⟨b,o,a',c',rfl,d0,d1,hx⟩:=hs.get (JC hb) (λ_ _ h=>h) k r;have x:=Aa (XA l k r);go_wp2_with fail;refine(z.o _ (AM r) _ _ X (hx.alloc _)).mono ?_;rintro e w1 ⟨rfl,y⟩;by_cases m:Af [l[k]]=0
       ·have f:=Aa m;rw[m];clear m;go_wp2_with fail;go_roundw
        case rel=>exact⟨k+1,by omega,by go_num,by rw[x.o,q.o,f.o]; rfl,(hb.alloc C _).trans (y.mono (by simp; omega))⟩
        case measure=>simp[intOf]; omega
       ·have ai:(Af [l[k]]==0)=false:=(by simpa using m);have f:Hid (Af [l[k]]=Af [(⟨s,l⟩:Tm)]):=by
         have h1:Af (l.take (k+1))=Af [l[k]]:=by rw[x.o,q.o]; rfl
         unfold Hid;rw[hz.o,XB (l:=l) (k:=k+1) (by rw[h1]; exact m),h1]
        go_wp2_with fail;go_ret;exact⟨Cj f.o,((JC hb).alloc (by omega) _).trans (y.mono (by simp; omega))⟩
      ·have D:l.take k=l:=BH (by omega);have f:Hid (0=Af [(⟨s,l⟩:Tm)]):=Aa (by rw[hz.o,<-D,q.o]);go_wp2_with fail;go_ret;exact⟨Cj f.o,JC hb⟩
def Av (t:Tm):Int:=if 200<Ab [t] then 3 else Af [t]
theorem JE (t:Tm) (v:Value) (w:World) (X:Nat->Prop) (hv:TV w X v t):
  Calls prog 51 #[v] w λe w'=>e=.returned (zA (Av t))/\Below w.heap.size w w':=by
 obtain⟨a,c,rfl,hs⟩:=hv;have hv:TV w X (.agg (zF t a c)) t:=⟨a,c,rfl,hs⟩;go_enter func51,ntmps51;go_wp2_with fail;refine(Is 200 (by omega) (by omega) t _ _ X (hv.alloc _)).mono ?_;rintro e w1 ⟨rfl,aa⟩;have c0:w1.cell? (zD w.heap.size 0)=some (.string t.name):=by rw[aa.cell (p:=(zD _ _)) (by simp)]; simp
 have c1:w1.cell? (zD w.heap.size 1)=some (.slice a t.args.length c):=by rw[aa.cell (p:=(zD _ _)) (by simp)]; simp
 have hb2:Below w.heap.size w w1:=((Ag _ _).alloc (Al _) _).trans (aa.mono (by simp));by_cases h:200<Ab [t]
 ·have hm:Hid (3=Av t):=by simp[Hid,Av,h]
  have e:min (Ab [t]:Int) (200+1)=201:=by omega
  rw[e];go_wp2_with fail;go_ret;exact⟨Cj hm.o,hb2⟩
 ·have hm:Hid (Af [t]=Av t):=by simp[Hid,Av,h]
  have e:min (Ab [t]:Int) (200+1)=Ab [t]:=by omega
  rw[e];go_wp2_with fail;refine(XC t _ _ X (hv.later hb2)).mono ?_;rintro e w2 ⟨rfl,ab⟩;go_wp2_with fail;go_ret;exact⟨Cj hm.o,hb2.trans (ab.mono hb2.size)⟩
def BK (w:World) (X:Nat->Prop):List Tm->List Value->Prop
 | [],xs=>xs=[]
 |t::l,xs=>∃a c r,xs=.string t.name::.slice a t.args.length c::r/\Sl w X a t.args/\BK w X l r
theorem BK.len:∀ {l:List Tm} {xs:List Value},BK w X l xs->xs.length=l.length*2
 | [],xs,h=>by simp[BK] at h; simp[h]
 |t::l,xs,h=>by
  obtain⟨a,c,r,rfl,_,h⟩:=h;simp only[Bg];rw[BK.len h]; omega
theorem BK.append:∀ {l k:List Tm} {xs b:List Value},BK w X l xs->BK w X k b->BK w X (l++k) (xs++b)
 | [],k,xs,b,h,h'=>by simp[BK] at h; subst h; simpa using h'
 |t::l,k,xs,b,h,h'=>by
  obtain⟨a,c,r,rfl,hs,h⟩:=h;exact⟨a,c,r++b,rfl,hs,BK.append h h'⟩
theorem BK.one:∀ {l:List Tm} {xs:List Value},BK w X l xs->∀u∈xs,u.oneCell'=true
 | [],xs,h,u,hu=>by simp[BK] at h; subst h; cases hu
 |t::l,xs,h,u,hu=>by
  obtain⟨a,c,r,rfl,_,h⟩:=h;rcases Bh.1 hu with e|hu
  ·subst e; rfl
  ·rcases Bh.1 hu with e|hu
   ·subst e; rfl
   ·exact BK.one h u hu
theorem BK.imp (hs:∀a l,Sl w X a l->Sl w' Y a l):∀ {l:List Tm} {xs:List Value},BK w X l xs->BK w' Y l xs
 | [],xs,h=>h
 |t::l,xs,h=>by
  obtain⟨a,c,r,e,h1,h⟩:=h;exact⟨a,c,r,e,hs _ _ h1,BK.imp hs h⟩
theorem BK.get:∀ {l:List Tm} {xs:List Value},BK w X l xs->∀i (h:i<l.length),
  xs[i*2]? = some (.string l[i].name)/\∃a c,xs[i*2+1]? = some (.slice a l[i].args.length c)/\Sl w X a l[i].args
 | [],xs,h,i,hi=>by simp at hi
 |t::l,xs,h,i,hi=>by
  obtain⟨a,c,r,rfl,h1,h⟩:=h;cases i with
  |zero=>exact⟨rfl,a,c,rfl,h1⟩
  |succ i=>have:=BK.get h i (by simpa using hi);rw[show(i+1)*2=i*2+2 by omega,show i*2+2+1=(i*2+1)+2 by omega];simpa using this
theorem E4 (l:List Tm):l.length<=Ab l:=by
 induction l with
 |nil=>simp
 |cons t r ih=>obtain⟨s,k⟩:=t; simp only[Bg,Ab]; omega
theorem XG:∀(l:List Tm) (b o:Nat),C4 w X b o l->∃xs,BK w X l xs/\∀j u,xs[j]? = some u->w.cell? ⟨b,o+j,none⟩=some u:=by
 intro l;induction l with
 |nil=>intro b o _; exact⟨[],rfl,by simp⟩
 |cons t r d=>
  intro b o h;obtain⟨s,k⟩:=t;simp only[C4] at h;obtain⟨hx,h1,⟨a,c,h2,h3,e⟩,f⟩:=h;obtain⟨xs,g,hc⟩:=d b (o+2) f;refine⟨.string s::.slice a k.length c::xs,⟨a,c,xs,rfl,⟨h3,e⟩,g⟩,λj u hj=>?_⟩;match j,hj with
  |0,hj=>simp at hj; subst hj; exact h1
  |1,hj=>simp at hj; subst hj; exact h2
  |j+2,hj=>rw[show o+(j+2)=o+2+j by omega]; exact hc j u (by simpa using hj)
theorem Od (b:Nat) (hb:Y b):∀(l:List Tm) (xs:List Value) (o:Nat),BK w X l xs->(∀a k,Sl w X a k->Sl w' Y a k)->(∀j u,xs[j]? = some u->w'.cell? ⟨b,o+j,none⟩=some u)->C4 w' Y b o l:=by
 intro l;induction l with
 |nil=>intro xs o _ _ _; simp[C4]
 |cons t r d=>intro xs o h hs hc;obtain⟨s,k⟩:=t;obtain⟨a,c,e,rfl,h1,h2⟩:=h;simp only[C4];obtain⟨h3,f⟩:=hs _ _ h1;refine⟨hb,hc 0 _ rfl,⟨a,c,hc 1 _ rfl,h3,f⟩,d e (o+2) h2 hs λj u hj=>?_⟩;have:=hc (j+2) u (by simpa using hj);rwa [show o+(j+2)=o+2+j by omega] at this
def Ap:List Tm->List Tm
 | []=>[]
 | ⟨s,l⟩::r=>⟨s,l⟩::(Ap l++Ap r)
theorem Mh (a b:List Tm):Ap (a++b)=Ap a++Ap b:=by
 induction a with
 |nil=>simp[Ap]
 |cons t r c=>obtain⟨s,l⟩:=t; simp[Ap,c]
theorem Mi (l:List Tm) (k:Nat) (h:k<l.length):Ap (l.take (k+1))=Ap (l.take k)++Ap [l[k]]:=by
 rw[Ci h,Mh]
theorem Mj (l:List Tm):(Ap l).length=Ab l:=by
 induction l using Tm.indL with
 |h0=>simp[Ap,Ab]
 |h s l r aa ab=>simp[Ap,Ab,aa,ab]; omega
theorem Sl.back {l:List Tm} (h:Sl w' X a l) (hb:Below B w w') (c:∀b,X b->b<B):Sl w X a l:=
 h.kept λb hx=>(hb.block b (c b hx)).symm
theorem G0 {base e size:Nat} (h:w.ownsRow base e size v n xs) (hn:0<n):
  ∃g cap,v=.slice (some (zD g 0)) n cap/\base<=g/\g<w.heap.size/\∀j u,xs[j]? = some u->w.cell? (zD g j)=some u:=by
 have h':=h;obtain⟨hl,h1⟩:=h;rcases h1 with ⟨_,h0⟩|⟨g,cap,cur,hv,a,hh,_⟩
 ·omega
 ·subst hv;have b:=(h'.lt g rfl).2;refine⟨g,cap,rfl,a,b,λj u hj=>?_⟩;have:=h'.cells (g:=g) rfl j u hj;by_cases h0:j=0
  ·subst h0; simpa [Addr.add] using this
  ·simpa [Addr.add,h0] using this
theorem Gt {P:Program} {ops:Array Oper} {rest:List Oper} {o:Oper} {a:Act} {Q:Exit->Act->World->Prop} {b:Value} (aa:o.guard=none) (s x:Operand) (t t':TypeId)
  (ho:o.op=.call { callee:=.builtin .append,args:=#[s,x],argTypes:=#[t,t']}) (hs:a.eval s=v) (hx:a.eval x=u)
  (c:(Builtin.append_ #[t,t'] o.type #[v,u]).run P w=.ok b w') (h:wpList P ops Q rest (a.put o.dst b) w'):wpList P ops Q (o::rest) a w:=
 wpList_plain aa λK d=>by
  unfold Oper.wp execOp;simp only[ho,resolve,invoke,builtin,Sem.run_bind,Sem.run_pure,Result.andThen_ok,List.map_toArray,Bo,Ky,hs,hx,c];exact d _ _ h
theorem Tryz.infoTerm:(prog.info? 31).map (λi=>(i.zero,i.size,i.bytes))=some (some (.agg #[.string ByteArray.empty,zB]),2,40):=by kernel_rfl
def CJ (t x:Tm):Int:=if Av t=0 then Av x else Av t
def AA:Tm->List Int->Option Tm
 |t,[]=>some t
 |t,i::r=>if h:0<=i/\i.toNat<t.args.length then AA (t.args[i.toNat]'h.2) r else none
def PV (w:World) (X:Nat->Prop) (v:Value) (zs:List Int):Prop:=
 ∃a c,v=.slice a zs.length c/\(zs.length<=9223372036854775807/\zs.length<=c)/\(zs=[]∨∃b o,a=some (zD b o)/\X b/\∀i (h:i<zs.length),w.cell? ⟨b,o+i,none⟩=some (zA zs[i]))
theorem PV.kept (h:PV w X v d) (hk:∀b,X b->w'.heap[b]? = w.heap[b]?):PV w' X v d:=by
 obtain⟨a,c,e,f,h⟩:=h;refine⟨a,c,e,f,?_⟩;rcases h with h|⟨b,o,e,hx,h⟩
 ·exact Ae h
 ·exact Ad ⟨b,o,e,hx,λi hi=>by rw[Ce (hk b hx)]; exact h i hi⟩
theorem PV.mono (h:PV w X v d) (hk:∀b,X b->b<w.heap.size->Y b):PV w Y v d:=by
 obtain⟨a,c,e,f,h⟩:=h;refine⟨a,c,e,f,?_⟩;rcases h with h|⟨b,o,e,hx,h⟩
 ·exact Ae h
 ·by_cases h0:d=[]
  ·exact Ae h0
  ·have hp:0<d.length:=Gq.2 h0;exact Ad ⟨b,o,e,hk b hx (World.block_lt_of_cell? w _ (h 0 hp)),h⟩
theorem PV.below {a:List Int} (h:PV w X v a) (hb:Below B w w') (c:∀b,X b->b<w.heap.size->b<B):PV w' X v a:=by
 have h1:PV w (λb=>X b/\b<B) v a:=h.mono λb hx hs=>⟨hx,c b hx hs⟩;have h2:PV w' (λb=>X b/\b<B) v a:=h1.kept λb hx=>hb.block b hx.2;exact h2.mono λb hx _=>hx.1
theorem PV.later {a:List Int} (h:PV w X v a) (hb:Below w.heap.size w w'):PV w' X v a:=h.below hb (λ_ _ h=>h)
theorem PV.alloc {a:List Int} (h:PV w X v a) (o:Obj):PV (w.alloc o) X v a:=h.later ((Ag _ _).alloc (Al _) o)
theorem EJ (a b:Obj):Below w.heap.size w ((w.alloc a).alloc b):=((Ag _ _).alloc (Al _) _).alloc (by simp) _
theorem PV.tail {z:Int} {a:List Int} (hl:a.length+1<=9223372036854775807/\a.length+1<=c) (hx:X b) (h:∀i (h:i<(z::a).length),w.cell? ⟨b,o+i,none⟩=some (zA (z::a)[i])):
  PV w X (.slice (some ⟨b,o+1,none⟩) a.length (c-1)) a:=by
 refine⟨_,_,rfl,by omega,Ad ⟨b,o+1,rfl,hx,λi hi=>?_⟩⟩;have:=h (i+1) (by simpa using hi);rw[show o+1+i=o+(i+1) by omega];simpa using this
theorem TV.back {t:Tm} (h:TV w' X v t) (hb:Below B w w') (d:∀b,X b->b<B):TV w X v t:=by
 obtain⟨a,c,e,h⟩:=h;exact⟨a,c,e,h.back hb d⟩
theorem It {K j:Nat} {a:Value} {p:Addr} (h:w.cell? p=some v) (hp:p.block≠K):((w.setCell (zD K i) u).setCell (zD K j) a).cell? p=some v:=by
 rw[Ce (An _ _ _ _ (by simpa using hp)),Ce (An _ _ _ _ (by simpa using hp)),h]
theorem Ml {a b c d e f:Addr} {v3 v4 v5 v6:Value} (hb:Below (w.drewN n).heap.size (w.drewN n) w1)
  (h:w.cell? a=some v1/\w.cell? b=some v2/\w.cell? c=some v3/\w.cell? d=some v4/\w.cell? e=some v5/\w.cell? f=some v6):
  w1.cell? a=some v1/\w1.cell? b=some v2/\w1.cell? c=some v3/\w1.cell? d=some v4/\w1.cell? e=some v5/\w1.cell? f=some v6:=by
 have aa:Below w.heap.size w w1:=(below_drewN (Ag _ _) n).trans (hb.mono (by simp));exact⟨cell_later aa h.1,cell_later aa h.2.1,cell_later aa h.2.2.1,cell_later aa h.2.2.2.1,cell_later aa h.2.2.2.2.1,cell_later aa h.2.2.2.2.2⟩
structure Bd where
 nm:ByteArray
 t:Tm
def BV (w:World) (X:Nat->Prop) (v:Value) (l:List Bd):Prop:=
 ∃a c,v=.slice a l.length c/\(l.length<=9223372036854775807/\l.length<=c)/\(l=[]∨∃b o,a=some (zD b o)/\X b/\∀i (h:i<l.length),w.cell? ⟨b,o+i*3,none⟩=some (.string l[i].nm)/\w.cell? ⟨b,o+i*3+1,none⟩=some (.string l[i].t.name)/\∃a' c',w.cell? ⟨b,o+i*3+2,none⟩=some (.slice a' l[i].t.args.length c')/\Sl w X a' l[i].t.args)
theorem BV.kept {l:List Bd} (h:BV w X v l) (hk:∀b,X b->w'.heap[b]? = w.heap[b]?):BV w' X v l:=by
 obtain⟨a,c,e,f,h⟩:=h;refine⟨a,c,e,f,?_⟩;rcases h with h|⟨b,o,g,d,h⟩
 ·exact Ae h
 ·refine Ad ⟨b,o,g,d,λi hi=>?_⟩;obtain⟨h1,h2,a',c',h3,j⟩:=h i hi;have hb:=hk b d;exact⟨by simpa [World.cell?,hb] using h1,by simpa [World.cell?,hb] using h2,a',c',by simpa [World.cell?,hb] using h3,j.kept hk⟩
theorem DR (h:w.cell? (zD b o)=some v):b<w.heap.size:=by
 rcases Nat.lt_or_ge b w.heap.size with h'|h'
 ·exact h'
 ·simp[World.cell?,Jo h']at h
theorem BV.mono {l:List Bd} (h:BV w X v l) (hk:∀b,X b->b<w.heap.size->Y b):BV w Y v l:=by
 obtain⟨a,c,e,d,h⟩:=h;refine⟨a,c,e,d,?_⟩;rcases h with h|⟨b,o,f,g,h⟩
 ·exact Ae h
 ·by_cases h0:l=[]
  ·exact Ae h0
  ·have hp:0<l.length:=Gq.2 h0;refine Ad ⟨b,o,f,hk b g (DR (h 0 hp).1),λi hi=>?_⟩;obtain⟨h1,h2,a',c',h3,j⟩:=h i hi;exact⟨h1,h2,a',c',h3,j.mono hk⟩
theorem BV.later {l:List Bd} (h:BV w X v l) (hb:Below w.heap.size w w'):BV w' X v l:=
 ((h.mono (Y:=λb=>X b/\b<w.heap.size) λb h1 h2=>⟨h1,h2⟩).kept λb hx=>hb.block b hx.2).mono λb hx _=>hx.1
theorem BV.alloc {l:List Bd} (h:BV w X v l) (o:Obj):BV (w.alloc o) X v l:=h.later ((Ag _ _).alloc (Al _) o)
theorem BV.get {l:List Bd} (h:BV w X (.slice a n c) l) (i:Nat) (hi:i<l.length):
  ∃b o a' c',a=some (zD b o)/\w.cell? ⟨b,o+i*3,none⟩=some (.string l[i].nm)/\w.cell? ⟨b,o+i*3+1,none⟩=some (.string l[i].t.name)/\w.cell? ⟨b,o+i*3+2,none⟩=some (.slice a' l[i].t.args.length c')/\Sl w X a' l[i].t.args:=by
 obtain⟨a2,c2,e,hl,h⟩:=h;simp at e;obtain⟨rfl,rfl,rfl⟩:=e;rcases h with h|⟨b,o,d,hX,h⟩
 ·subst h; simp at hi
 ·obtain⟨h1,h2,a',c',h3,f⟩:=h i hi;exact⟨b,o,a',c',d,h1,h2,h3,f⟩
theorem Ew {a b:ByteArray} (h:a.toList=b.toList):a=b:=by
 rw[Jp,Jp]at h;cases a with
 |mk x=>
  cases b with
  |mk y=>congr 1; exact Array.toList_inj.1 h
theorem KO {a b:ByteArray} (h:a=b):(a.toList==b.toList)=true:=by rw[h]; simp
theorem Oe {a b:ByteArray} (h:a≠b):(a.toList==b.toList)=false:=FY.2 λe=>h (Ew e)
def As:List Bd->ByteArray->Option Tm
 | [],_=>none
 |d::r,n=>if d.nm=n then some d.t else As r n
def Dw:List Tm->List Tm->Bool
 | [],[]=>true
 | ⟨s,a⟩::r,t::ts=>((s.toList==t.name.toList)&&((a.length==t.args.length)&&Dw a t.args))&&Dw r ts
 |_,_=>false
def AP (a b:Tm):Bool:=(a.name.toList==b.name.toList)&&((a.args.length==b.args.length)&&Dw a.args b.args)
theorem KU (x t:Tm) (r b:List Tm):Dw (x::r) (t::b)=(AP x t&&Dw r b):=by obtain⟨s,a⟩:=x; simp only[Dw,AP]
theorem Of:∀(a b c d:List Tm),a.length=b.length->Dw (a++c) (b++d)=(Dw a b&&Dw c d)
 | [],[],c,d,_=>by simp[Dw]
 | [],_::_,_,_,h=>by simp at h
 |_::_,[],_,_,h=>by simp at h
 |x::r,t::e,c,d,h=>by rw[Bj,Bj,KU,KU,Of r e c d (by simpa using h),Bool.and_assoc]
theorem Og {l m:List Tm} (h:k<l.length) (h2:k<m.length):Dw (l.take (k+1)) (m.take (k+1))=(Dw (l.take k) (m.take k)&&AP l[k] m[k]):=by
 rw[Ci h,Ci h2,Of _ _ _ _ (by simp; omega),KU];simp[Dw]
theorem QW {l m:List Tm} (h:k<l.length) (aa:l.length=m.length) (h0:AP l[k] (m[k]'(by omega))=false):Dw l m=false:=by
 have a:l=l.take (k+1)++l.drop (k+1):=(DM _ _).symm;have b:m=m.take (k+1)++m.drop (k+1):=(DM _ _).symm;rw[a,b,Of _ _ _ _ (by simp; omega),Og h (by omega),h0];simp
def QX (w:World) (l m:List Tm) (a a2:Option Addr) (c c2:Nat) (i:Value) (wr:World):Prop:=
 ∃(k:Nat),k<=l.length/\i=zA k/\Dw (l.take k) (m.take k)=true/\Below w.heap.size w wr/\wr.cell? (zD w.heap.size 1)=some (.slice a l.length c)/\wr.cell? (zD (w.heap.size+1) 1)=some (.slice a2 l.length c2)/\w.heap.size+2<=wr.heap.size
theorem XH (t:Tm):∀(x:Tm) (v u:Value) (w:World) (X Y:Nat->Prop),TV w X v t->TV w Y u x->
  Calls prog 13 #[v,u] w λe w'=>e=.returned (.bool (AP t x))/\Below w.heap.size w w':=by
 induction t using Tm.ind with
 |h s l G=>
  intro x v u w X Y hv hu;obtain⟨s2,m⟩:=x;have P:=Aa G;clear G;obtain⟨a,c,rfl,hs⟩:=hv;obtain⟨a2,c2,rfl,H⟩:=hu;have hl:=hs.1;have ar:=H.1;(try dsimp only[zF]);(try dsimp only[zG]);(try dsimp only[zE]);(try dsimp only);cases B:(s.toList==s2.toList) with
  |false=>have d:Hid (false=AP ⟨s,l⟩ ⟨s2,m⟩):=Aa (by unfold AP;rw[B];rfl);go_enter func13,ntmps13;go_wp2_with fail;go_ret;exact⟨Ck d.o,EJ _ _⟩
  |true=>
   by_cases hm:l.length=m.length
   ·have d:Hid (Dw l m=AP ⟨s,l⟩ ⟨s2,m⟩):=Aa (by unfold AP;simp[B,hm]);have j:=Aa hm;rw[<-hm];clear hm;go_enter func13,ntmps13;go_wp2_with fail;go_loopw [5] (λi wr=>QX w l m a a2 c c2 i wr) (λi wr=>l.length-(intOf i).toNat);case atStart=>exact⟨0,Be _,rfl,by simp[Dw],EJ _ _,by simp,by simp,by simp⟩
    case round=>
     obtain⟨k,hk,rfl,hq,hb,R,T,au⟩:=hrel;have I:=Aa hq;clear hq;by_cases q:k<l.length
     ·obtain⟨b,o,a',c',rfl,d0,d1,hx⟩:=hs.get hb (λ_ _ h=>h) k q;obtain⟨f,g,C,D,rfl,U,V,J⟩:=H.get hb (λ_ _ h=>h) k (by have:=j.o; omega);have W:k<m.length:=by have:=j.o; omega
      have L:=Aa hx;have M:=Aa J;have N:=Aa hb;have r:=Aa (And.intro R (And.intro T (And.intro d0 (And.intro d1 (And.intro U V)))));have A:=Aa (λ(w':World)=>P.o l[k] (AM q) m[k] (.agg (zF l[k] a' c')) (.agg (zF m[k] C D)) w' X Y);have O:=Aa (Og q W);have Z:=Aa (QW q j.o);clear hx J hb;generalize l[k]=y at *;generalize m[k]=z at *;go_wp2_with fail;cases E:AP y z with
      |true=>
       rw[E]at A O;go_region_held3 (λw'=>w'.cell? (zD w.heap.size 1)=some (.slice (some (zD b o)) l.length c)/\w'.cell? (zD (w.heap.size+1) 1)=some (.slice (some (zD f g)) l.length c2)/\w'.cell? ⟨b,o+k*2,none⟩=some (.string y.name)/\w'.cell? ⟨b,o+k*2+1,none⟩=some (.slice a' y.args.length c')/\w'.cell? ⟨f,g+k*2,none⟩=some (.string z.name)/\w'.cell? ⟨f,g+k*2+1,none⟩=some (.slice C z.args.length D)) (first|exact r.o|exact ab|go_keep)
        ((go_at_call 13; refine(A.o _ (by exact L.o.later (below_drewN (Ag _ _) 1)) (by exact M.o.later (below_drewN (Ag _ _) 1))).mono ?_; rintro e w1 ⟨rfl,aa⟩; have ab:=Ml (n:=1) aa r.o))
       go_wp2_with fail;go_roundw
       case rel=>exact⟨k+1,by omega,by go_num,by rw[O.o,I.o]; rfl,(N.o.trans (below_drewN (Ag _ _) 1)).trans (aa.mono (by simp; omega)),ab.1,ab.2.1,by have:=aa.size; simp at this; omega⟩
       case measure=>simp[intOf]; omega
      |false=>
       have F:Hid (false=AP ⟨s,l⟩ ⟨s2,m⟩):=Aa (by rw[<-d.o,Z.o E]);rw[E]at A;go_region_held3 (λw'=>w'.cell? (zD w.heap.size 1)=some (.slice (some (zD b o)) l.length c)/\w'.cell? (zD (w.heap.size+1) 1)=some (.slice (some (zD f g)) l.length c2)/\w'.cell? ⟨b,o+k*2,none⟩=some (.string y.name)/\w'.cell? ⟨b,o+k*2+1,none⟩=some (.slice a' y.args.length c')/\w'.cell? ⟨f,g+k*2,none⟩=some (.string z.name)/\w'.cell? ⟨f,g+k*2+1,none⟩=some (.slice C z.args.length D)) (first|exact r.o|exact ab|go_keep)
        ((go_at_call 13; refine(A.o _ (by exact L.o.later (below_drewN (Ag _ _) 1)) (by exact M.o.later (below_drewN (Ag _ _) 1))).mono ?_; rintro e w1 ⟨rfl,aa⟩; have ab:=Ml (n:=1) aa r.o))
       go_wp2_with fail;go_ret;exact⟨Ck F.o,(N.o.trans (below_drewN (Ag _ _) 1)).trans (aa.mono (by simp; omega))⟩
     ·have F:Hid (true=AP ⟨s,l⟩ ⟨s2,m⟩):=Aa (by rw[<-d.o,<-I.o,BH (by omega),BH (by have:=j.o; omega)]);go_wp2_with fail;go_ret;exact⟨Ck F.o,hb⟩
   ·have d:Hid (false=AP ⟨s,l⟩ ⟨s2,m⟩):=Aa (by unfold AP;simp[B,hm]);have av:((l.length:Int)==(m.length:Int))=false:=FY.2 (by omega);clear hm;go_enter func13,ntmps13;go_wp2_with fail;go_ret;exact⟨Ck d.o,EJ _ _⟩
def Ac (w:World) (b:Nat) (cs:Array Value) (T:Nat):Prop:=w.heap[b]? = some (.cells cs T (0,0))
theorem Ac.lt (h:Ac w b cs T):b<w.heap.size:=by
 apply EX;intro hn;have e:w.heap[b]? = none:=Jo (by omega);rw[Ac,e]at h; cases h
theorem Ac.cell (h:Ac w b cs T) (i:Nat):w.cell? (zD b i)=cs[i]? := by
 unfold Ac at h; simp[World.cell?,h]
theorem Ac.c0 (h:Ac w b (List.toArray (v::l)) T):w.cell? (zD b 0)=some v:=h.cell 0
theorem Ac.c1 (h:Ac w b (List.toArray (v0::v::l)) T):w.cell? (zD b 1)=some v:=h.cell 1
theorem Ac.c2 (h:Ac w b (List.toArray (v0::v1::v::l)) T):w.cell? (zD b 2)=some v:=h.cell 2
theorem Ac.c3 (h:Ac w b (List.toArray (v0::v1::v2::v::l)) T):w.cell? (zD b 3)=some v:=h.cell 3
theorem Ac.frozen (h:Ac w b cs T) (i:Nat):w.frozen? (zD b i)=false:=by
 unfold Ac at h; simp[World.frozen?,h]
theorem Ac.new (w:World) (cs:Array Value) (T:Nat):Ac (w.alloc (zh cs T)) w.heap.size cs T:=Fk w _
theorem Ac.alloc (h:Ac w b cs T) (o:Obj):Ac (w.alloc o) b cs T:=by
 unfold Ac at *; rw[Ay w o b (Ac.lt h)]; exact h
theorem Ac.below (h:Ac w b cs T) (hb:Below B w w') (a:b<B):Ac w' b cs T:=by
 unfold Ac at *; rw[hb.block b a]; exact h
theorem Ac.drewN (h:Ac w b cs T) (n:Nat):Ac (w.drewN n) b cs T:=h
theorem Ac.grown (h:Ac w b cs T) (a:w.grownBy w' row) (c:some b≠row):Ac w' b cs T:=by
 unfold Ac at *; rw[a.block b (Ac.lt h) c]; exact h
theorem Ac.set (h:Ac w b cs T) (i:Nat) (v:Value):Ac (w.setCell (zD b i) v) b (cs.setIfInBounds i v) T:=by
 unfold Ac at *;simp[World.setCell,Jq,h]
theorem Ac.setOther {b':Nat} (h:Ac w b cs T) (i:Nat) (v:Value) (a:b≠b'):Ac (w.setCell (zD b' i) v) b cs T:=by
 unfold Ac at *; rw[An _ _ _ _ (by simpa using a)]; exact h
structure A1 (w:World) (N:Nat) (T:Nat) (Y:Nat->Prop) (v:Value) (l:List Tm) (xs:List Value):Prop where
 own:w.ownsRow N T 2 v l.length xs
 row:BK w (λb=>Y b∨(N<=b/\some b≠v.ownBlock)) l xs
theorem A1.start (w:World) (N T:Nat) (Y:Nat->Prop):A1 w N T Y zB [] []:=⟨GT w N T 2,rfl⟩
theorem A1.below {l:List Tm} (h:A1 w N T Y v l xs) (hb:Below w.heap.size w w'):A1 w' N T Y v l xs:=
 ⟨h.own.kept (w' := w') (row := none) ⟨hb.os, hb.tape, hb.output, hb.size, λj hj _ => hb.block j hj⟩ (by rcases Kz (Value.ownBlock v) with h | ⟨x, h⟩; exact Ae h; exact Ad (by rw [h]; simp)),
  h.row.imp λa l h=>h.later hb⟩
theorem A1.ne {l:List Tm} (h:A1 w N T Y v l xs) (hb:b<N):some b≠v.ownBlock:=λe=>by
 have:=(h.own.lt b e.symm).1; omega
theorem A1.push {l:List Tm} (h:A1 w N T Y v l xs) (hN:N<=w.heap.size) (i:∀b,Y b->b<N) (hb:Below w.heap.size w w1) {t:Tm}
  (ht:TV w1 (λb=>Y b∨w.heap.size<=b) (.agg #[.string s,.slice a n c]) t) (o:Obj) (k:w2=w1.alloc o) 
  (aa:w3.ownsRow N T 2 (.slice (some (zD g 0)) (l.length+1) cap) (l.length+1) (xs++[.string s,.slice a n c])) (j:w2.grownBy w3 v.ownBlock) (ab:v.ownBlock=some g∨g=w2.heap.size):
  A1 w3 N T Y (.slice (some (zD g 0)) (l.length+1) cap) (l++[t]) (xs++[.string s,.slice a n c]):=by
 subst k;have d:=h.own.lt;refine⟨by simpa using aa,?_⟩;have ae:w1.heap.size<=(w1.alloc o).heap.size:=by simp
 have af:=hb.size;have ag:N<=g:=by
  rcases ab with e|e
  ·exact(d g e).1
  ·simp at e; omega
 refine BK.append (h.row.imp λa' k' hs=>?_) ?_
 ·have h1:Sl w (λb=>(Y b∨(N<=b/\some b≠v.ownBlock))/\b<w.heap.size) a' k':=hs.mono λb h1 h2=>⟨h1,h2⟩;have h2:Sl w3 (λb=>(Y b∨(N<=b/\some b≠v.ownBlock))/\b<w.heap.size) a' k':=h1.kept λb hx=>by
   have f:some b≠v.ownBlock:=by
    rcases hx.1 with hy|hy
    ·exact h.ne (i b hy)
    ·exact hy.2
   rw[j.block b (by simp; omega) f,Ay _ _ _ (by omega),hb.block b hx.2]
  refine h2.mono λb hx _=>?_;rcases hx.1 with hy|hy
  ·exact Ae hy
  ·refine Ad ⟨hy.1,λe=>?_⟩;simp[Value.ownBlock]at e;rcases ab with e'|e'
   ·exact hy.2 (by rw[e',e])
   ·simp at e'; omega
 ·obtain⟨a2,c2,e,hs⟩:=ht;simp at e;obtain⟨rfl,rfl,rfl,rfl⟩:=e;refine⟨a,c,[],rfl,?_,rfl⟩;have h1:Sl w1 (λb=>(Y b∨w.heap.size<=b)/\b<w1.heap.size) a t.args:=hs.mono λb h1 h2=>⟨h1,h2⟩;have h2:Sl w3 (λb=>(Y b∨w.heap.size<=b)/\b<w1.heap.size) a t.args:=h1.kept λb hx=>by
   have f:some b≠v.ownBlock:=by
    rcases hx.1 with hy|hy
    ·exact h.ne (i b hy)
    ·intro e; have:=(d b e.symm).2; omega
   rw[j.block b (by simp; omega) f,Ay _ _ _ hx.2]
  refine h2.mono λb hx _=>?_;rcases hx.1 with hy|hy
  ·exact Ae hy
  ·refine Ad ⟨by omega,λe=>?_⟩;simp[Value.ownBlock]at e;rcases ab with e'|e'
   ·have:=(d g e').2; omega
   ·simp at e'; omega
theorem A1.setCell {l:List Tm} (h:A1 w N T Y v l xs) (hb:b<N) (d:¬Y b) (u:Value):A1 (w.setCell (zD b i) u) N T Y v l xs:=
 ⟨ownsRow_setCell_below h.own (by simpa using hb) u, h.row.imp λa k hs => hs.kept λc hc => An _ _ _ _ (by
  simp;rcases hc with hc|hc
  ·intro e; subst e; exact d hc
  ·omega)⟩
theorem A1.sl {l:List Tm} (h:A1 w N T Y v l xs):∃a c,v=.slice a l.length c/\Sl w (λb=>Y b∨N<=b) a l:=by
 have aa:l.length<=9223372036854775807:=by
  rcases h.own.2 with ⟨_,h0⟩|⟨g,cap,cur,_,_,_,h1,h2,_⟩
  ·omega
  ·unfold maxLen at h2; omega
 by_cases h0:0<l.length
 ·obtain⟨g,cap,rfl,d,hlt,hc⟩:=G0 h.own h0;exact⟨_,_,rfl,aa,Ad ⟨g,0,rfl,Od g (Ad d) l xs 0 h.row (λa k hs=>hs.mono λb hb _=>hb.imp id (λh=>h.1)) (λj u hj=>by simpa using hc j u hj)⟩⟩
 ·have e:l=[]:=Fj.1 (by omega);subst e;rcases h.own.2 with ⟨hv,_⟩|⟨g,cap,cur,hv,_⟩
  ·exact⟨none,0,hv,aa,Ae rfl⟩
  ·exact⟨_,_,hv,aa,Ae rfl⟩
theorem Oh {a c:Obj} (h:Ac wr b cs T) (aa:Below (wr.alloc a).drew.heap.size (wr.alloc a).drew w1) (d:(w1.alloc c).grownBy w3 row) (e:some b≠row):Ac w3 b cs T:=
 (((((h.alloc a).drewN 1).below aa (by have:=h.lt; simp; omega)).alloc c).grown d e)
abbrev Bc:=Bd×Option Addr×Nat
instance:Inhabited Bc:=⟨(⟨⟨#[]⟩,⟨⟨#[]⟩,[]⟩⟩,none,0)⟩
def F6 (x:Bc):List Value:=[.string x.1.nm,.string x.1.t.name,.slice x.2.1 x.1.t.args.length x.2.2]
def DS:List Bc->List Value
 | []=>[]
 |x::r=>F6 x++DS r
theorem QY (b:List Bc):∀a,DS (a++b)=DS a++DS b
 | []=>rfl
 |x::r=>by rw[Bj,DS,DS,QY b r,DN]
theorem QZ:∀a:List Bc,(DS a).length=a.length*3
 | []=>rfl
 |x::r=>by rw[DS,Cv,QZ r]; simp[F6]; omega
theorem Mm:∀(a:List Bc) (i:Nat) (h:i<a.length) (j:Nat),j<3->(DS a)[i*3+j]? = (F6 a[i])[j]?
 | [],i,h,j,hj=>by simp at h
 |x::r,0,h,j,hj=>by
  rw[DS,List.getElem?_append_left (by simp[F6]; omega)]; simp
 |x::r,i+1,h,j,hj=>by
  rw[DS,LZ (by simp[F6]; omega)];have e:(i+1)*3+j-(F6 x).length=i*3+j:=by simp[F6]; omega
  rw[e,Mm r i (by simpa using h) j hj];simp
structure CQ (w:World) (N:Nat) (Y:Nat->Prop) (v:Value) (cs:List Bc):Prop where
 own:w.ownsRow N 155 3 v cs.length (DS cs)
 row:∀x∈cs,Sl w (λb=>Y b∨(N<=b/\some b≠v.ownBlock)) x.2.1 x.1.t.args
theorem CQ.start (w:World) (N:Nat) (Y:Nat->Prop):CQ w N Y zB []:=⟨GT w N _ 3,by simp⟩
theorem CQ.below {cs:List Bc} (h:CQ w N Y v cs) (hb:Below w.heap.size w w'):CQ w' N Y v cs:=
 ⟨h.own.kept (w' := w') (row := none) ⟨hb.os, hb.tape, hb.output, hb.size, λj hj _ => hb.block j hj⟩ (by rcases Kz (Value.ownBlock v) with h | ⟨x, h⟩; exact Ae h; exact Ad (by rw [h]; simp)),
  λx hx=>(h.row x hx).later hb⟩
theorem CQ.ne {cs:List Bc} (h:CQ w N Y v cs) (hb:b<N):some b≠v.ownBlock:=λe=>by
 have:=(h.own.lt b e.symm).1; omega
theorem CQ.kept {cs:List Bc} {r:Nat} (h:CQ w N Y v cs) (a:r<N) (c:¬Y r) (ho:w'.os=w.os) (ht:w'.tape=w.tape) (hu:w'.output=w.output) (hz:w.heap.size<=w'.heap.size) (hk:∀j,j≠r->j<w.heap.size->w'.heap[j]? = w.heap[j]?):CQ w' N Y v cs:=
 ⟨h.own.kept (w' := w') (row := some r) ⟨ho, ht, hu, hz, λj hj d => hk j (λe => d (by rw [e])) hj⟩ (Ad (λe => h.ne a e.symm)),
  λx hx=>by
  have h1:=(h.row x hx).mono (Y:=λb=>(Y b∨(N<=b/\some b≠v.ownBlock))/\b<w.heap.size) λb h1 h2=>⟨h1,h2⟩;refine(h1.kept λb hb=>hk b (λe=>?_) hb.2).mono λb hb _=>hb.1;rcases hb.1 with h2|h2
  ·exact c (e▸h2)
  ·omega⟩
theorem CQ.push {cs:List Bc} (h:CQ w N Y v cs) (hN:N<=w.heap.size) (d:∀b,Y b->b<N) (hb:Below w.heap.size w w1) {x:Bc}
  (ht:Sl w1 (λb=>Y b∨w.heap.size<=b) x.2.1 x.1.t.args) (o:Obj) (i:w2=w1.alloc o) 
  (aa:w3.ownsRow N 155 3 (.slice (some (zD g 0)) (cs.length+1) cap) (cs.length+1) (DS cs++F6 x)) (f:w2.grownBy w3 v.ownBlock) (ab:v.ownBlock=some g∨g=w2.heap.size):
  CQ w3 N Y (.slice (some (zD g 0)) (cs.length+1) cap) (cs++[x]):=by
 subst i;have a:=h.own.lt;refine⟨by rw[QY]; simpa [DS] using aa,λy hy=>?_⟩;have ae:w1.heap.size<=(w1.alloc o).heap.size:=by simp
 have af:=hb.size;have ag:N<=g:=by
  rcases ab with e|e
  ·exact(a g e).1
  ·simp at e; omega
 rcases Ba.1 hy with hy|hy
 ·have h1:Sl w (λb=>(Y b∨(N<=b/\some b≠v.ownBlock))/\b<w.heap.size) y.2.1 y.1.t.args:=(h.row y hy).mono λb h1 h2=>⟨h1,h2⟩;have h2:Sl w3 (λb=>(Y b∨(N<=b/\some b≠v.ownBlock))/\b<w.heap.size) y.2.1 y.1.t.args:=h1.kept λb hx=>by
   have c:some b≠v.ownBlock:=by
    rcases hx.1 with hy|hy
    ·exact h.ne (d b hy)
    ·exact hy.2
   rw[f.block b (by simp; omega) c,Ay _ _ _ (by omega),hb.block b hx.2]
  refine h2.mono λb hx _=>?_;rcases hx.1 with hy|hy
  ·exact Ae hy
  ·refine Ad ⟨hy.1,λe=>?_⟩;simp[Value.ownBlock]at e;rcases ab with e'|e'
   ·exact hy.2 (by rw[e',e])
   ·simp at e'; omega
 ·have e:y=x:=by simpa using hy
  subst e;have h1:Sl w1 (λb=>(Y b∨w.heap.size<=b)/\b<w1.heap.size) y.2.1 y.1.t.args:=ht.mono λb h1 h2=>⟨h1,h2⟩;have h2:Sl w3 (λb=>(Y b∨w.heap.size<=b)/\b<w1.heap.size) y.2.1 y.1.t.args:=h1.kept λb hx=>by
   have c:some b≠v.ownBlock:=by
    rcases hx.1 with hy|hy
    ·exact h.ne (d b hy)
    ·intro e; have:=(a b e.symm).2; omega
   rw[f.block b (by simp; omega) c,Ay _ _ _ hx.2]
  refine h2.mono λb hx _=>?_;rcases hx.1 with hy|hy
  ·exact Ae hy
  ·refine Ad ⟨by omega,λe=>?_⟩;simp[Value.ownBlock]at e;rcases ab with e'|e'
   ·have:=(a g e').2; omega
   ·simp at e'; omega
theorem CQ.bv {cs:List Bc} (h:CQ w N Y v cs):BV w (λb=>Y b∨N<=b) v (cs.map (·.1)):=by
 have a:cs.length<=9223372036854775807:=by
  rcases h.own.2 with ⟨_,h0⟩|⟨g,cap,cur,_,_,_,h1,h2,_⟩
  ·omega
  ·unfold maxLen at h2; omega
 by_cases h0:0<cs.length
 ·obtain⟨g,cap,rfl,c,hlt,hc⟩:=G0 h.own h0;have ab:cs.length<=cap:=by
   rcases h.own.2 with ⟨e,_⟩|⟨g',ae,cur,e,_,_,h1,_⟩
   ·cases e
   ·simp at e; omega
  refine⟨_,cap,by simp,⟨by simpa using a,by simpa using ab⟩,Ad ⟨g,0,rfl,Ad c,λi hi=>?_⟩⟩;have aa:i<cs.length:=by simpa using hi
  have g0:=hc (i*3+0) (.string cs[i].1.nm) (by rw[Mm cs i aa 0 (by decide)]; rfl);have g1:=hc (i*3+1) (.string cs[i].1.t.name) (by rw[Mm cs i aa 1 (by decide)]; rfl);have g2:=hc (i*3+2) (.slice cs[i].2.1 cs[i].1.t.args.length cs[i].2.2) (by rw[Mm cs i aa 2 (by decide)]; rfl);simp only[List.getElem_map,DA];exact⟨g0,g1,_,_,g2,(h.row cs[i] (AM aa)).mono λb hb _=>hb.imp id (λh=>h.1)⟩
 ·have e:cs=[]:=Fj.1 (by omega);subst e;rcases h.own.2 with ⟨hv,_⟩|⟨g,cap,cur,hv,_⟩
  ·exact⟨none,0,hv,by simp,Ae rfl⟩
  ·exact⟨_,_,hv,by simp,Ae rfl⟩
def B8 (a b:ByteArray):Bool:=Op.bytesLess a.toList b.toList
theorem Oi:∀a:List UInt8,Op.bytesLess a a=false
 | []=>rfl
 |x::r=>by simp[Op.bytesLess,Oi r]
theorem Q5:∀a b c:List UInt8,Op.bytesLess a b=true->Op.bytesLess b c=true->Op.bytesLess a c=true
 |_,[],_,h,_=>by simp[Op.bytesLess] at h
 |_,_::_,[],_,h=>by simp[Op.bytesLess] at h
 | [],_::_,_::_,_,_=>by simp[Op.bytesLess]
 |x::a,y::b,z::c,h1,h2=>by
  simp only[Op.bytesLess,Bool.or_eq_true,FZ,decide_eq_true_eq,beq_iff_eq] at h1 h2 ⊢;rw[UInt8.lt_iff_toNat_lt]at h1 h2 ⊢;rcases h1 with h1|⟨rfl,h1⟩<;>rcases h2 with h2|⟨rfl,h2⟩
  ·left; omega
  ·left; exact h1
  ·left; exact h2
  ·right; exact⟨rfl,Q5 a b c h1 h2⟩
theorem Q6:∀a b:List UInt8,Op.bytesLess a b=false->Op.bytesLess b a=false->a=b
 | [],[],_,_=>rfl
 | [],_::_,h,_=>by simp[Op.bytesLess] at h
 |_::_,[],_,h=>by simp[Op.bytesLess] at h
 |x::a,y::b,h1,h2=>by
  simp only[Op.bytesLess,Bool.or_eq_false_iff,decide_eq_false_iff_not] at h1 h2;obtain⟨h1,h3⟩:=h1;obtain⟨h2,c⟩:=h2;rw[UInt8.lt_iff_toNat_lt]at h1 h2;have e:x=y:=UInt8.toNat_inj.mp (by omega);subst e;simp only[BEq.rfl,Bool.true_and] at h3 c;rw[Q6 a b h3 c]
theorem JG (a:ByteArray):B8 a a=false:=Oi _
theorem Oj {a b c:ByteArray} (h1:B8 a b=true) (h2:B8 b c=true):B8 a c=true:=Q5 _ _ _ h1 h2
theorem JH {a b:ByteArray} (h1:B8 a b=false) (h2:B8 b a=false):a=b:=Ew (Q6 _ _ h1 h2)
theorem Q7 {a b:ByteArray} (h:B8 a b=true):B8 b a=false:=by
 cases hb:B8 b a with
 |false=>rfl
 |true=>have:=Oj h hb; rw[JG] at this; cases this
def FF (l:List Bd):Prop:=l.Pairwise λa b=>B8 a.nm b.nm=true
def Ey (l:List Bd):Prop:=l.Pairwise λa b=>a.nm≠b.nm
theorem FF.apart {l:List Bd} (h:FF l):Ey l:=h.imp fun {a b} h e=>by rw[e,JG] at h; cases h
theorem Ey.perm {l k:List Bd} (h:Ey l) (hp:k.Perm l):Ey k:=(hp.pairwise_iff (fun {_ _} a=>EI a)).2 h
theorem XI {l k:List Bd} (hp:l.Perm k) (h1:FF l) (h2:FF k):l=k:=
 List.Perm.eq_of_pairwise (le:=λa b:Bd=>B8 a.nm b.nm=true) (λa b _ _ h3 c=>by rw[Q7 h3] at c; cases c) h1 h2 hp
theorem XJ {l:List Bd} (ha:Ey l) (h:l.Pairwise λa b=>B8 b.nm a.nm=false):FF l:=by
 unfold FF Ey at *;refine(List.pairwise_and_iff.2 ⟨ha,h⟩).imp fun {a b} ⟨h1,h2⟩=>?_;cases h3:B8 a.nm b.nm with
 |true=>rfl
 |false=>exact absurd (JH h3 h2) h1
def Hq (x:Bc):ByteArray×Value:=(x.1.nm,.agg #[.string x.1.t.name,.slice x.2.1 x.1.t.args.length x.2.2])
def AU (s:ByteArray):List ByteArray->Nat
 | []=>0
 |x::r=>if x=s then 1 else match AU s r with
  |0=>0
  |k+1=>k+2
def Bq (row:List ByteArray) (a b:Tm):Bool:=
 if AU a.name row≠AU b.name row then decide (AU b.name row<AU a.name row)
 else if a.name≠b.name then B8 b.name a.name
 else decide (b.args.length<a.args.length)
def AV:List Tm->List Tm->Option (Tm×Tm)
 |x::r,y::q=>if AP x y=true then AV r q else some (x,y)
 |_,_=>none
theorem JI:∀ {a b:List Tm} {x y:Tm},AV a b=some (x,y)->x∈a/\y∈b
 | [],_,x,y,h=>by simp[AV] at h
 |_::_,[],x,y,h=>by simp[AV] at h
 |t::a,u::b,x,y,h=>by
  rw[AV]at h;split at h
  ·obtain⟨h1,h2⟩:=JI h;exact⟨by simp[h1],by simp[h2]⟩
  ·cases h;exact⟨by simp,by simp⟩
def EK (row:List ByteArray):Nat->Tm->Tm->Bool
 |0,_,_=>false
 |n+1,a,b=>
  if Aj a.name=true then false
  else if (a.args.any λx=>AP x b||EK row n x b)=true then true
  else if Aj b.name=true then false
  else if Bq row b a=true then false
  else if (b.args.all λy=>EK row n a y)=false then false
  else if Bq row a b=true then true
  else match AV a.args b.args with
   |none=>false
   |some (x,y)=>EK row n x y
theorem Cw {t:Tm} {x:Tm} (h:x∈t.args):Ab [x]<Ab [t]:=by
 obtain⟨s,l⟩:=t;have:Ab [x]<=Ab l:=by
  replace h:x∈l:=h;induction l with
  |nil=>cases h
  |cons a r b=>
   have hc:Ab (a::r)=Ab [a]+Ab r:=Ej [a] r;rcases Bh.1 h with rfl|h
   ·omega
   ·have:=b h; omega
 have e:Ab [(⟨s,l⟩:Tm)]=1+Ab l:=by simp[Ab]
 omega
theorem Q8 {l:List α} {f g:α->Bool} (h:∀x∈l,f x=g x):l.any f=l.any g:=by
 induction l with
 |nil=>rfl
 |cons a r b=>rw[List.any_cons,List.any_cons,h a (by simp),b λx hx=>h x (by simp[hx])]
theorem Q9 {l:List α} {f g:α->Bool} (h:∀x∈l,f x=g x):l.all f=l.all g:=by
 induction l with
 |nil=>rfl
 |cons a r b=>rw[List.all_cons,List.all_cons,h a (by simp),b λx hx=>h x (by simp[hx])]
theorem Mn (row:List ByteArray):∀(n m:Nat) (a b:Tm),Ab [a]+Ab [b]<=n->Ab [a]+Ab [b]<=m->EK row n a b=EK row m a b
 |0,m,a,b,h,_=>by
  obtain⟨s,l⟩:=a;simp[Ab]at h
 |n+1,0,a,b,_,h=>by
  obtain⟨s,l⟩:=a;simp[Ab]at h
 |n+1,m+1,a,b,h1,h2=>by
  rw[EK,EK];have c:(a.args.any λx=>AP x b||EK row n x b)=a.args.any λx=>AP x b||EK row m x b:=Q8 λx hx=>by
   have:=Cw hx;rw[Mn row n m x b (by omega) (by omega)]
  have d:(b.args.all λy=>EK row n a y)=b.args.all λy=>EK row m a y:=Q9 λy hy=>by
   have:=Cw hy;rw[Mn row n m a y (by omega) (by omega)]
  rw[c,d];cases hu:AV a.args b.args with
  |none=>rfl
  |some p=>obtain⟨x,y⟩:=p;obtain⟨m1,m2⟩:=JI hu;have:=Cw m1;have:=Cw m2;show(if _ then _ else _)=_;simp only[];rw[Mn row n m x y (by omega) (by omega)]
def AC (row:List ByteArray) (a b:Tm):Bool:=EK row (Ab [a]+Ab [b]) a b
theorem Mo {row:List ByteArray} {a b:Tm} (h:Ab [a]+Ab [b]<=n):EK row n a b=AC row a b:=Mn row _ _ a b h (Al _)
theorem Ra (row:List ByteArray) (a b:Tm):AC row a b=
  if Aj a.name=true then false
  else if (a.args.any λx=>AP x b||AC row x b)=true then true
  else if Aj b.name=true then false
  else if Bq row b a=true then false
  else if (b.args.all λy=>AC row a y)=false then false
  else if Bq row a b=true then true
  else match AV a.args b.args with
   |none=>false
   |some (x,y)=>AC row x y:=by
 rw[<-Mo (n:=Ab [a]+Ab [b]+1) (by omega),EK];have c:(a.args.any λx=>AP x b||EK row (Ab [a]+Ab [b]) x b)=a.args.any λx=>AP x b||AC row x b:=Q8 λx hx=>by
  have:=Cw hx;rw[Mo (by omega)]
 have d:(b.args.all λy=>EK row (Ab [a]+Ab [b]) a y)=b.args.all λy=>AC row a y:=Q9 λy hy=>by
  have:=Cw hy;rw[Mo (by omega)]
 rw[c,d];cases hu:AV a.args b.args with
 |none=>rfl
 |some p=>obtain⟨x,y⟩:=p;obtain⟨m1,m2⟩:=JI hu;have:=Cw m1;have:=Cw m2;simp only[];rw[Mo (by omega)]
theorem Ok {row:List ByteArray} {a b:Tm} (h:Bq row a b=true):Bq row b a=false:=by
 unfold Bq at *;by_cases h1:AU a.name row=AU b.name row
 ·rw[Ah (by simpa using h1)]at h;rw[Ah (by simpa using h1.symm)];by_cases h2:a.name=b.name
  ·rw[Ah (by simpa using h2)]at h;rw[Ah (by simpa using h2.symm)];simp at h ⊢;omega
  ·rw[Ao h2]at h;rw[Ao λe=>h2 e.symm];exact Q7 h
 ·rw[Ao h1]at h;rw[Ao λe=>h1 e.symm];simp at h ⊢;omega
theorem Mp:∀(a b:List Tm),Ap (a++b)=Ap a++Ap b
 | [],b=>by simp[Ap]
 | ⟨s,l⟩::r,b=>by
  have:=Mp r b;simp[Ap,this]
theorem XK:∀l k:List Tm,l.length=k.length->Dw l k=true->l=k:=by
 intro l;induction l using Tm.indL with
 |h0=>intro k h _; cases k with
  |nil=>rfl
  |cons _ _=>simp at h
 |h s a r aa ab=>
  intro k h he;cases k with
  |nil=>simp at h
  |cons u q=>obtain⟨s',b⟩:=u;rw[KU]at he;simp only[FZ] at he;obtain⟨h1,h2⟩:=he;unfold AP at h1;simp only[FZ,beq_iff_eq] at h1;obtain⟨h3,c,d⟩:=h1;rw[ab q (by simpa using h) h2,aa b c d,Ew h3]
theorem XL:∀l:List Tm,Dw l l=true:=by
 intro l;induction l using Tm.indL with
 |h0=>simp[Dw]
 |h s a r aa ab=>rw[KU,ab];simp[AP,aa]
theorem Cr {a b:Tm}:AP a b=true↔a=b:=by
 constructor
 ·intro h;obtain⟨s,l⟩:=a;obtain⟨s',k⟩:=b;unfold AP at h;simp only[FZ,beq_iff_eq] at h;rw[Ew h.1,XK l k h.2.1 h.2.2]
 ·rintro rfl;unfold AP;simp[XL]
def Am (t:Tm):List Tm->Nat
 | []=>0
 |x::r=>if AP x t=true then 0 else Am t r+1
theorem Mq (t:Tm):∀S,Am t S<=S.length
 | []=>by simp[Am]
 |x::r=>by
  have:=Mq t r;rw[Am];split
  ·omega
  ·simp only[Bg]; omega
theorem Ol {t:Tm}:∀ {S:List Tm},Am t S<S.length↔t∈S
 | []=>by simp[Am]
 |x::r=>by
  rw[Am,Bh];by_cases h:AP x t=true
  ·rw[Ao h];simp only[Bg];exact⟨λ_=>Ae (Cr.1 h).symm,λ_=>by omega⟩
  ·rw[Ah h];have a:=Ol (t:=t) (S:=r);simp only[Bg];constructor
   ·intro h1;exact Ad (a.1 (by omega))
   ·rintro(h1|h1)
    ·exact absurd (Cr.2 h1.symm) h
    ·have:=a.2 h1; omega
theorem Om {t:Tm}:∀ {S:List Tm},t∈S->S[Am t S]? = some t
 | [],h=>by cases h
 |x::r,h=>by
  rw[Am];by_cases h1:AP x t=true
  ·rw[Ao h1,Cr.1 h1];rfl
  ·rw[Ah h1,Et];rcases Bh.1 h with h2|h2
   ·exact absurd (Cr.2 h2.symm) h1
   ·exact Om h2
theorem Mr {S:List Tm} {t u:Tm} (ht:t∈S) (hu:u∈S) (h:Am t S=Am u S):t=u:=by
 have h1:=Om ht;rw[h,Om hu]at h1;cases h1;rfl
theorem IU {t:Tm}:∀ {S:List Tm} (R:List Tm),t∈S->Am t (S++R)=Am t S
 | [],R,h=>by cases h
 |x::r,R,h=>by
  rw[Bj,Am,Am];by_cases h1:AP x t=true
  ·rw[Ao h1,Ao h1]
  ·rw[Ah h1,Ah h1];rcases Bh.1 h with h2|h2
   ·exact absurd (Cr.2 h2.symm) h1
   ·rw[IU R h2]
def Ms (S:List Tm) (t:Tm):List Tm:=if Am t S<S.length then S else S++[t]
theorem XN (S:List Tm) (t:Tm):Am t (Ms S t)=Am t S:=by
 unfold Ms;split
 ·rfl
 ·rename_i h;have key:∀S:List Tm,t∉S->Am t (S++[t])=S.length/\Am t S=S.length:=by
   intro S;induction S with
   |nil=>intro _; simp[Am,Cr.2 (rfl:t=t)]
   |cons x r b=>intro a;have h1:¬AP x t=true:=λe=>a (by rw[Cr.1 e]; simp);obtain⟨c,i2⟩:=b λh=>a (by simp[h]);rw[Bj,Am,Am,Ah h1,Ah h1,c,i2];simp
  have:=key S λhm=>h (Ol.2 hm);omega
def Bx:List Tm->List Tm->List Bd->Option (List Bd)
 | [],_,h=>some h
 | ⟨s,a⟩::r,ts,h=>match ts with
  | []=>none
  |t::ts'=>
   match (if Aj s=true then (match As h s with
     |some x=>if AP x t=true then some h else none
     |none=>some (h++[⟨s,t⟩]))
    else if ((s.toList==t.name.toList)&&(a.length==t.args.length))=true then Bx a t.args h else none) with
   |some h'=>Bx r ts' h'
   |none=>none
def AX (p t:Tm) (h:List Bd):Option (List Bd):=
 if Aj p.name=true then (match As h p.name with
   |some x=>if AP x t=true then some h else none
   |none=>some (h++[⟨p.name,t⟩]))
  else if ((p.name.toList==t.name.toList)&&(p.args.length==t.args.length))=true then Bx p.args t.args h else none
theorem F7 (p t:Tm) (r b:List Tm) (h:List Bd):Bx (p::r) (t::b) h=(match AX p t h with
   |some h'=>Bx r b h'
   |none=>none):=by obtain⟨s,a⟩:=p; simp only[Bx,AX]
theorem On:∀(a b c d:List Tm) (h:List Bd),a.length=b.length->Bx (a++c) (b++d) h=(match Bx a b h with
   |some h'=>Bx c d h'
   |none=>none)
 | [],[],c,d,h,_=>by simp[Bx]
 | [],_::_,_,_,_,e=>by simp at e
 |_::_,[],_,_,_,e=>by simp at e
 |x::r,t::f,c,d,h,e=>by
  rw[Bj,Bj,F7,F7];cases AX x t h with
  |none=>rfl
  |some h'=>exact On r f c d h' (by simpa using e)
theorem Rb {l m:List Tm} (h:k<l.length) (h2:k<m.length) (hv:List Bd):Bx (l.take (k+1)) (m.take (k+1)) hv=(match Bx (l.take k) (m.take k) hv with
   |some h'=>AX l[k] m[k] h'
   |none=>none):=by
 rw[Ci h,Ci h2,On _ _ _ _ _ (by simp; omega)];cases Bx (l.take k) (m.take k) hv with
 |none=>rfl
 |some h'=>
  show Bx [l[k]] [m[k]] h'=AX l[k] m[k] h';rw[F7];cases AX l[k] m[k] h' with
  |none=>rfl
  |some aa=>simp[Bx]
theorem XP {l m:List Tm} {hv h':List Bd} (h:k<l.length) (aa:l.length=m.length) (h1:Bx (l.take k) (m.take k) hv=some h') (h0:AX l[k] (m[k]'(by omega)) h'=none):Bx l m hv=none:=by
 have a:l=l.take (k+1)++l.drop (k+1):=(DM _ _).symm;have b:m=m.take (k+1)++m.drop (k+1):=(DM _ _).symm;rw[a,b,On _ _ _ _ _ (by simp; omega),Rb h (by omega),h1];simp only[h0]
theorem XQ {l m:List Tm} {hv h' aa:List Bd} (h:k<l.length) (h2:k<m.length) (h1:Bx (l.take k) (m.take k) hv=some h') (h0:AX l[k] m[k] h'=some aa):Bx (l.take (k+1)) (m.take (k+1)) hv=some aa:=by
 rw[Rb h h2,h1];exact h0
theorem Mu {l m:List Tm} {h:List Bd} (hv:Aj s=false) (a:(s.toList==s2.toList)=true) (b:l.length=m.length):AX ⟨s,l⟩ ⟨s2,m⟩ h=Bx l m h:=by
 simp[AX,hv,a,b]
theorem Rc {l m:List Tm} {h:List Bd} (hv:Aj s=false) (a:((s.toList==s2.toList)&&(l.length==m.length))=false):AX ⟨s,l⟩ ⟨s2,m⟩ h=none:=by
 unfold AX;rw[Ah (by rw[hv]; simp),Ah (by simp only[a]; simp)]
theorem Oo {l:List Tm} {t:Tm} {h:List Bd} (hv:Aj s=true) (a:As h s=none):AX ⟨s,l⟩ t h=some (h++[⟨s,t⟩]):=by simp[AX,hv,a]
theorem Oq {l:List Tm} {t x:Tm} {h:List Bd} (hv:Aj s=true) (a:As h s=some x):AX ⟨s,l⟩ t h=if AP x t=true then some h else none:=by simp[AX,hv,a]
def LV {α:Type} (f:α->Value) (w:World) (X:Nat->Prop) (v:Value) (l:List α):Prop:=
 ∃a c,v=.slice a l.length c/\(l.length<=9223372036854775807/\l.length<=c)/\(l=[]∨∃b o,a=some (zD b o)/\X b/\∀i (h:i<l.length),w.cell? ⟨b,o+i,none⟩=some (f l[i]))
theorem LV.kept {f:α->Value} {l:List α} (h:LV f w X v l) (hk:∀b,X b->w'.heap[b]? = w.heap[b]?):LV f w' X v l:=by
 obtain⟨a,c,e,d,h⟩:=h;refine⟨a,c,e,d,?_⟩;rcases h with h|⟨b,o,e,hx,h⟩
 ·exact Ae h
 ·exact Ad ⟨b,o,e,hx,λi hi=>by rw[Ce (hk b hx)]; exact h i hi⟩
theorem LV.mono {f:α->Value} {l:List α} (h:LV f w X v l) (hk:∀b,X b->b<w.heap.size->Y b):LV f w Y v l:=by
 obtain⟨a,c,e,d,h⟩:=h;refine⟨a,c,e,d,?_⟩;rcases h with h|⟨b,o,e,hx,h⟩
 ·exact Ae h
 ·by_cases h0:l=[]
  ·exact Ae h0
  ·have hp:0<l.length:=Gq.2 h0;exact Ad ⟨b,o,e,hk b hx (World.block_lt_of_cell? w _ (h 0 hp)),h⟩
theorem LV.below {f:α->Value} {l:List α} (h:LV f w X v l) (hb:Below B w w') (a:∀b,X b->b<w.heap.size->b<B):LV f w' X v l:=by
 have h1:LV f w (λb=>X b/\b<B) v l:=h.mono λb hx hs=>⟨hx,a b hx hs⟩;have h2:LV f w' (λb=>X b/\b<B) v l:=h1.kept λb hx=>hb.block b hx.2;exact h2.mono λb hx _=>hx.1
theorem LV.later {f:α->Value} {l:List α} (h:LV f w X v l) (hb:Below w.heap.size w w'):LV f w' X v l:=h.below hb (λ_ _ h=>h)
theorem LV.alloc {f:α->Value} {l:List α} (h:LV f w X v l) (o:Obj):LV f (w.alloc o) X v l:=h.later ((Ag _ _).alloc (Al _) o)
theorem LV.of_own {f:α->Value} {l:List α} (h:w.ownsRow N T 1 v l.length (l.map f)):LV f w (λb=>N<=b) v l:=by
 have h':=h;obtain⟨_,h1⟩:=h;rcases h1 with ⟨rfl,h0⟩|⟨g,cap,cur,hv,a,hh,ab,c,_⟩
 ·have e:l=[]:=Fj.1 h0;subst e;exact⟨none,0,rfl,by simp,Ae rfl⟩
 ·unfold maxLen at c;refine⟨some (zD g 0),cap,hv,⟨by omega,ab⟩,?_⟩;by_cases h0:l=[]
  ·exact Ae h0
  ·have hp:0<l.length:=Gq.2 h0;obtain⟨g2,ae,aa,_,_,hc⟩:=G0 h' hp;rw[hv]at aa;simp at aa;obtain⟨rfl,rfl⟩:=aa;exact Ad ⟨g,0,rfl,a,λi hi=>by rw[DA]; exact hc i _ (by simp[hi])⟩
def Bb (x:ByteArray) (l:List ByteArray):Bool:=l.any λy=>y.toList==x.toList
theorem XU {l:List ByteArray} (h:k<l.length) (h0:Bb x (l.take k)=false) (h1:(l[k].toList==x.toList)=false):Bb x (l.take (k+1))=false:=by
 unfold Bb at *;rw[Ci h,KE,h0];simpa using h1
theorem XV {l:List ByteArray} (h:k<l.length) (h1:(l[k].toList==x.toList)=true):Bb x l=true:=by
 unfold Bb;rw[D6];exact⟨l[k],AM h,h1⟩
theorem Tryz.infoStr:(prog.info? 9).map (λi=>(i.zero,i.size,i.bytes))=some (some (.string ByteArray.empty),1,16):=by kernel_rfl
theorem Re (a b:ByteArray):(a.toList==b.toList)=(b.toList==a.toList):=by
 rw[Io]; simp; exact eq_comm
theorem XX (x:ByteArray) (l:List ByteArray) (v:Value) (w:World) (X:Nat->Prop) (hv:LV Value.string w X v l):
  Calls prog 105 #[v,.string x] w λe w'=>(∃n:Int,e=.returned (zA n)/\decide (0<=n)=Bb x l)/\w'=w:=by
 obtain⟨a,c,rfl,⟨hl,_⟩,h1⟩:=hv;go_enter func105,ntmps105;go_wp2_with fail;go_loop [8] (λi=>∃k:Nat,k<=l.length/\i=zA k/\Bb x (l.take k)=false) (λi=>l.length-(intOf i).toNat)
 case atStart=>exact⟨0,Be _,rfl,by simp[Bb]⟩
 case round=>
  obtain⟨k,hk,rfl,ha⟩:=hrel;have g:=Aa ha;clear ha;by_cases d:k<l.length
  ·obtain⟨b,o,rfl,_,hc⟩:=h1.resolve_left (λh=>by rw[h] at d; simp at d);have d1:=hc k d;clear hc h1;cases hq:(x.toList==l[k].toList) with
   |true=>have f:=Aa (XV d (by rw[Re]; exact hq));go_wp2_with fail;go_ret;exact⟨⟨k,rfl,by rw[f.o]; simp⟩,rfl⟩
   |false=>
    have f:=Aa (XU d g.o (by rw[Re]; exact hq));go_wp2_with fail;go_round
    case rel=>exact⟨k+1,by omega,by go_num,f.o⟩
    case measure=>simp[intOf]; omega
  ·have aa:l.take k=l:=BH (by omega);have j:Hid (false=Bb x l):=Aa (by rw[<-g.o,aa]);go_wp2_with fail;go_ret;exact⟨⟨-1,rfl,by rw[<-j.o]; decide⟩,rfl⟩
theorem Mv (x:ByteArray) (l:List ByteArray) (v:Value) (w:World) (X:Nat->Prop) (hv:LV Value.string w X v l):
  Calls prog 80 #[v,.string x] w λe w'=>e=.returned (.bool (Bb x l))/\w'=w:=by
 have b:=Aa hv;clear hv;go_enter func80,ntmps80;go_wp2_with fail;refine(XX x l _ _ X b.o).mono ?_;rintro e w1 ⟨⟨n,rfl,a⟩,rfl⟩;have c:=Aa a;clear a;go_wp2_with fail;go_ret;exact⟨Ck c.o,rfl⟩
def Cf (acc:List ByteArray) (s:ByteArray):List ByteArray:=if (Aj s&&!Bb s acc)=true then acc++[s] else acc
def AN (acc:List ByteArray) (ks:List Tm):List ByteArray:=ks.foldl (λacc k=>Cf acc k.name) acc
theorem KV (h:Aj s=true) (h2:Bb s acc=false):Cf acc s=acc++[s]:=by simp[Cf,h,h2]
theorem KW (h:Aj s=true) (h2:Bb s acc=true):Cf acc s=acc:=by simp[Cf,h,h2]
theorem Mw (h:Aj s=false):Cf acc s=acc:=by simp[Cf,h]
theorem Mx (acc:List ByteArray) (s:ByteArray):(Cf acc s).length<=acc.length+1:=by
 unfold Cf; split<;>simp
theorem Ot (acc:List ByteArray) (a b:List Tm):AN acc (a++b)=AN (AN acc a) b:=by simp[AN,List.foldl_append]
theorem Ou (ks:List Tm):∀acc,(AN acc ks).length<=acc.length+ks.length:=by
 induction ks with
 |nil=>intro acc; simp[AN]
 |cons k r a=>intro acc; have:=a (Cf acc k.name); have h2:=Mx acc k.name; simp only[AN,List.foldl_cons,Bg] at *; omega
theorem JJ {a:Option Nat} (h:w.grownBy w1 r) (h1:w1.grownBy w2 a) (c:∀k,a=some k->r=some k∨w.heap.size<=k):w.grownBy w2 r:=
 ⟨h1.os.trans h.os,h1.tape.trans h.tape,h1.output.trans h.output,Bf h.size h1.size,λk hk b=>(h1.block k (B7 hk h.size) (λe=>by
  rcases c k e.symm with h2|h2
  ·exact b h2.symm
  ·omega)).trans (h.block k hk b)⟩
theorem IW (hb:Below w.heap.size w w') (r:Option Nat):w.grownBy w' r:=⟨hb.os,hb.tape,hb.output,hb.size,λk hk _=>hb.block k hk⟩
theorem TV.grown {t:Tm} (h:TV w X v t) (a:w.grownBy w' r) (c:∀b,X b->some b≠r):TV w' X v t:=by
 have h1:TV w (λb=>X b/\b<w.heap.size) v t:=h.mono λb h1 h2=>⟨h1,h2⟩;have h2:TV w' (λb=>X b/\b<w.heap.size) v t:=h1.kept λb hx=>a.block b hx.2 (c b hx.1);exact h2.mono λb hx _=>hx.1
def DT (w0:World) (B:Nat) (q0:Value) (acc:List ByteArray) (q:Value) (wr:World):Prop:=
 wr.ownsRow B 9 1 q acc.length (acc.map Value.string)/\w0.grownBy wr q0.ownBlock/\(∀k,q.ownBlock=some k->q0.ownBlock=some k∨w0.heap.size<=k)
theorem DT.step {a:World} {b c d:Value} {ab:List ByteArray} (h1:DT a B b ab c w1) (h2:DT w1 B c aa d w2):DT a B b aa d w2:=by
 refine⟨h2.1,JJ h1.2.1 h2.2.1 h1.2.2,λk hk=>?_⟩;rcases h2.2.2 k hk with h|h
 ·exact h1.2.2 k h
 ·exact Ad (Bf h1.2.1.size h)
theorem DT.below {b:World} {c a:Value} (h1:DT b B c aa a w1) (hb:Below w1.heap.size w1 w2):DT b B c aa a w2:=
 ⟨h1.1.kept (w' := w2) (row := none) ⟨hb.os, hb.tape, hb.output, hb.size, λj hj _ => hb.block j hj⟩ (by rcases Kz (Value.ownBlock a) with h | ⟨x, h⟩; exact Ae h; exact Ad (by rw [h]; simp)),
  JJ h1.2.1 (IW hb a.ownBlock) h1.2.2,h1.2.2⟩
def Fp:Nat->List Tm->List (List Int)
 |_,[]=>[]
 |j,⟨_,l⟩::r=>((([]:List Int)::Fp 0 l).map λp=>(j:Int)::p)++Fp (j+1) r
def Ez (t:Tm):List (List Int):=[]::Fp 0 t.args
theorem KZ (j:Nat) (t:Tm) (r:List Tm):Fp j (t::r)=((Ez t).map λp=>(j:Int)::p)++Fp (j+1) r:=by
 obtain⟨s,l⟩:=t;simp only[Fp,Ez]
theorem XY (a b:List Tm):∀j,Fp j (a++b)=Fp j a++Fp (j+a.length) b:=by
 induction a with
 |nil=>intro j; simp[Fp]
 |cons t r c=>intro j; rw[Bj,KZ,KZ,c]; simp[Nat.add_assoc,Nat.add_comm 1]
def DU (w:World) (Z:Nat->Prop):List (List Int)->List Value->Prop
 | [],xs=>xs=[]
 |z::r,xs=>∃u xs',xs=u::xs'/\PV w Z u z/\DU w Z r xs'
theorem DU.len:∀ {l:List (List Int)} {xs:List Value},DU w Z l xs->xs.length=l.length
 | [],xs,h=>by simp[DU] at h; simp[h]
 |z::l,xs,h=>by obtain⟨u,aa,rfl,_,h⟩:=h; simp[DU.len h]
theorem DU.append:∀ {l k:List (List Int)} {xs a:List Value},DU w Z l xs->DU w Z k a->DU w Z (l++k) (xs++a)
 | [],k,xs,a,h,h'=>by simp[DU] at h; subst h; simpa using h'
 |z::l,k,xs,a,h,h'=>by obtain⟨u,aa,rfl,hp,h⟩:=h; exact⟨u,aa++a,rfl,hp,DU.append h h'⟩
theorem DU.imp {a:Nat->Prop} (hs:∀u z,PV w Z u z->PV w' a u z):∀ {l:List (List Int)} {xs:List Value},DU w Z l xs->DU w' a l xs
 | [],xs,h=>h
 |z::l,xs,h=>by obtain⟨u,aa,e,hp,h⟩:=h; exact⟨u,aa,e,hs _ _ hp,DU.imp hs h⟩
theorem DU.get:∀ {l:List (List Int)} {xs:List Value},DU w Z l xs->∀i (h:i<l.length),∃u,xs[i]? = some u/\PV w Z u l[i]
 | [],xs,h,i,hi=>by simp at hi
 |z::l,xs,h,i,hi=>by
  obtain⟨u,aa,rfl,hp,h⟩:=h;cases i with
  |zero=>exact⟨u,rfl,hp⟩
  |succ i=>obtain⟨a,h1,h2⟩:=DU.get h i (by simpa using hi); exact⟨a,by simpa using h1,h2⟩
theorem PV.one {z:List Int} (h:PV w Z u z):u.oneCell'=true:=by obtain⟨a,c,rfl,_⟩:=h; rfl
theorem Tryz.infoInt:(prog.info? 3).map (λi=>(i.zero,i.size,i.bytes))=some (some (zA 0),1,8):=by kernel_rfl
theorem X2 {l:List Int} (h:w.ownsRow N T 1 v l.length (l.map λz=>zA z)):PV w (λb=>N<=b/\v.ownBlock=some b) v l:=by
 have h':=h;obtain⟨_,h1⟩:=h;rcases h1 with ⟨rfl,h0⟩|⟨g,cap,cur,hv,a,hh,ab,c,_⟩
 ·have e:l=[]:=Fj.1 h0;subst e;exact⟨none,0,rfl,by simp,Ae rfl⟩
 ·unfold maxLen at c;refine⟨some (zD g 0),cap,hv,⟨by omega,ab⟩,?_⟩;by_cases h0:l=[]
  ·exact Ae h0
  ·have hp:0<l.length:=Gq.2 h0;obtain⟨g2,ae,aa,_,_,hc⟩:=G0 h' hp;rw[hv]at aa;simp at aa;obtain⟨rfl,rfl⟩:=aa;exact Ad ⟨g,0,rfl,⟨a,by rw[hv]; rfl⟩,λi hi=>by rw[DA]; exact hc i _ (by simp[hi])⟩
def Dp (f:Tm->Tm) (i:Int):Nat->List Tm->List Tm
 |_,[]=>[]
 |j,a::r=>(if (j:Int)=i then f a else a)::Dp f i (j+1) r
def AJ (x:Tm):List Int->Tm->Tm
 | [],_=>x
 |i::r,t=>⟨t.name,Dp (AJ x r) i 0 t.args⟩
theorem Ov (f:Tm->Tm) (i:Int):∀(l:List Tm) (j:Nat),(Dp f i j l).length=l.length
 | [],_=>rfl
 |a::r,j=>by simp[Dp,Ov f i r]
theorem Rf (f:Tm->Tm) (i:Int):∀(l:List Tm) (j k:Nat) (h:k<l.length),(Dp f i j l)[k]'(by rw[Ov]; exact h)=if ((j+k:Nat):Int)=i then f l[k] else l[k]
 | [],j,k,h=>by simp at h
 |a::r,j,0,h=>by simp[Dp]
 |a::r,j,k+1,h=>by
  have:=Rf f i r (j+1) k (by simpa using h);simp only[Dp,FX,this];rw[show j+1+k=j+(k+1) by omega]
theorem Rg:∀(l:List Tm),Af l=0↔∀t∈l,Af [t]=0
 | []=>by simp[Af]
 |t::r=>by
  rw[FD];by_cases h:Af [t]=0
  ·rw[Ao h,Rg r];simp[h]
  ·rw[Ah h];simp[h]
theorem X4 (t:Tm) (h:Af [t]=0):AF t.name=true/\Af t.args=0/\(0<t.args.length->Aj t.name=false):=by
 obtain⟨s,l⟩:=t;have a:AF s=true:=by
  cases a:AF s with
  |true=>rfl
  |false=>simp[Af,a] at h
 have b:Af l=0/\(0<l.length->Aj s=false):=by
  by_cases b:0<l.length
  ·have hv:Aj s=false:=by
    cases hv:Aj s with
    |false=>rfl
    |true=>simp[Af,a,hv,b] at h
   refine⟨?_,λ_=>hv⟩;simp only[Af,a,hv] at h;by_cases h0:Af l=0
   ·exact h0
   ·simp[h0]at h
  ·have e:l=[]:=Fj.1 (by omega);subst e;exact⟨by simp[Af],λh=>absurd h (by simp)⟩
 exact⟨a,b⟩
theorem Gu {t y:Tm} {i:Int} {r:List Int} (h:AA t (i::r)=some y):∃(k:Nat) (hk:k<t.args.length),i=(k:Int)/\AA t.args[k] r=some y:=by
 rw[AA]at h;split at h
 ·rename_i hc;exact⟨i.toNat,hc.2,by omega,h⟩
 ·cases h
theorem X8 {t y:Tm} {r:List Int} (hk:k<t.args.length) (h:AA t.args[k] r=some y):AA t ((k:Int)::r)=some y:=by
 rw[AA,EY ⟨by omega,by simpa using hk⟩];simpa using h
theorem Rh:∀(p:List Int) (t y:Tm),Af [t]=0->AA t p=some y->Af [y]=0
 | [],t,y,he,h=>by cases h; exact he
 |i::r,t,y,he,h=>by
  obtain⟨k,hk,rfl,h2⟩:=Gu h;exact Rh r _ y ((Rg t.args).1 (X4 t he).2.1 _ (AM hk)) h2
theorem Ri (x:Tm):∀(p:List Int) (t y:Tm),AA t p=some y->AA (AJ x p t) p=some x
 | [],t,y,h=>rfl
 |i::r,t,y,h=>by
  obtain⟨k,hk,rfl,h2⟩:=Gu h;have a:=Ri x r _ y h2;rw[AJ];refine X8 (by rw[Ov]; exact hk) ?_;rw[Rf _ _ _ _ _ hk];simpa using a
theorem Rj (f:Tm->Tm) (i:Int):∀(l:List Tm) (j:Nat),i<(j:Int)->Dp f i j l=l
 | [],j,h=>rfl
 |a::r,j,h=>by
  rw[Dp,Ah (by omega),Rj f i r (j+1) (by omega)]
structure Pr where
 l:Tm
 r:Tm
abbrev zi (p:Pr) (a:Option Addr) (c:Nat) (b:Option Addr) (d:Nat):Array Value:=#[.string p.l.name,.slice a p.l.args.length c,.string p.r.name,.slice b p.r.args.length d]
def QV (w:World) (X:Nat->Prop) (v:Value) (l:List Pr):Prop:=
 ∃a c,v=.slice a l.length c/\(l.length<=9223372036854775807/\l.length<=c)/\(l=[]∨∃b o,a=some (zD b o)/\X b/\∀i (h:i<l.length),∃a1 c1 a2 c2,w.cell? ⟨b,o+i*4,none⟩=some (.string l[i].l.name)/\w.cell? ⟨b,o+i*4+1,none⟩=some (.slice a1 l[i].l.args.length c1)/\w.cell? ⟨b,o+i*4+2,none⟩=some (.string l[i].r.name)/\w.cell? ⟨b,o+i*4+3,none⟩=some (.slice a2 l[i].r.args.length c2)/\Sl w X a1 l[i].l.args/\Sl w X a2 l[i].r.args)
theorem QV.kept {l:List Pr} (h:QV w X v l) (hk:∀b,X b->w'.heap[b]? = w.heap[b]?):QV w' X v l:=by
 obtain⟨a,c,e,f,h⟩:=h;refine⟨a,c,e,f,?_⟩;rcases h with h|⟨b,o,g,d,h⟩
 ·exact Ae h
 ·refine Ad ⟨b,o,g,d,λi hi=>?_⟩;obtain⟨a1,c1,a2,c2,h1,h2,h3,j,k,h6⟩:=h i hi;have hb:=hk b d;exact⟨a1,c1,a2,c2,by simpa [World.cell?,hb] using h1,by simpa [World.cell?,hb] using h2,by simpa [World.cell?,hb] using h3,by simpa [World.cell?,hb] using j,k.kept hk,h6.kept hk⟩
theorem QV.mono {l:List Pr} (h:QV w X v l) (hk:∀b,X b->b<w.heap.size->Y b):QV w Y v l:=by
 obtain⟨a,c,e,d,h⟩:=h;refine⟨a,c,e,d,?_⟩;rcases h with h|⟨b,o,f,j,h⟩
 ·exact Ae h
 ·by_cases h0:l=[]
  ·exact Ae h0
  ·have hp:0<l.length:=Gq.2 h0;obtain⟨_,_,_,_,g,_⟩:=h 0 hp;refine Ad ⟨b,o,f,hk b j (DR g),λi hi=>?_⟩;obtain⟨a1,c1,a2,c2,h1,h2,h3,k,m,h6⟩:=h i hi;exact⟨a1,c1,a2,c2,h1,h2,h3,k,m.mono hk,h6.mono hk⟩
theorem QV.later {l:List Pr} (h:QV w X v l) (hb:Below w.heap.size w w'):QV w' X v l:=
 ((h.mono (Y:=λb=>X b/\b<w.heap.size) λb h1 h2=>⟨h1,h2⟩).kept λb hx=>hb.block b hx.2).mono λb hx _=>hx.1
theorem QV.alloc {l:List Pr} (h:QV w X v l) (o:Obj):QV (w.alloc o) X v l:=h.later ((Ag _ _).alloc (Al _) o)
theorem QV.get {l:List Pr} (h:QV w X (.slice a n c) l) (i:Nat) (hi:i<l.length):
  ∃b o a1 c1 a2 c2,a=some (zD b o)/\w.cell? ⟨b,o+i*4,none⟩=some (.string l[i].l.name)/\w.cell? ⟨b,o+i*4+1,none⟩=some (.slice a1 l[i].l.args.length c1)/\w.cell? ⟨b,o+i*4+2,none⟩=some (.string l[i].r.name)/\w.cell? ⟨b,o+i*4+3,none⟩=some (.slice a2 l[i].r.args.length c2)/\Sl w X a1 l[i].l.args/\Sl w X a2 l[i].r.args:=by
 obtain⟨a2,c2,e,hl,h⟩:=h;simp at e;obtain⟨rfl,rfl,rfl⟩:=e;rcases h with h|⟨b,o,d,hX,h⟩
 ·subst h; simp at hi
 ·obtain⟨a1,c1,a2,c2,h1,h2,h3,f,g,h6⟩:=h i hi;exact⟨b,o,a1,c1,a2,c2,d,h1,h2,h3,f,g,h6⟩
def EL (ls:List Pr):Nat->Int
 |0=>0
 |k+1=>if EL ls k=0 then (match ls[k]? with|some p=>CJ p.l p.r|none=>0) else EL ls k
def Cs (ls:List Pr):Int:=if 40<ls.length then 3 else EL ls ls.length
theorem Ow {ls:List Pr} {k:Nat} (h:EL ls k≠0):∀n,k<=n->EL ls n=EL ls k
 |0,b=>by
  have:k=0:=by omega
  subst this; rfl
 |n+1,b=>by
  by_cases e:k=n+1
  ·subst e; rfl
  ·have a:=Ow h n (by omega);rw[EL,Ah (by rw[a]; exact h)];exact a
theorem Ox {ls:List Pr} (hk:k<ls.length) (h0:EL ls k=0):EL ls (k+1)=CJ ls[k].l ls[k].r:=by rw[EL,Ao h0,F1 hk]
theorem Ya {ls:List Pr} (hk:k<ls.length) (aa:¬40<ls.length) (h0:EL ls k=0) (a:CJ ls[k].l ls[k].r≠0):Cs ls=CJ ls[k].l ls[k].r:=by
 unfold Cs;rw[Ah aa];have h1:=Ox hk h0;rw[<-h1];exact Ow (by rw[h1]; exact a) _ (by omega)
theorem Rk {ls:List Pr} (h:Cs ls=0):ls.length<=40:=by
 unfold Cs at h;split at h
 ·cases h
 ·omega
theorem Yb {ls:List Pr} (h:Cs ls=0):∀p∈ls,Av p.l=0/\Av p.r=0:=by
 intro p hp;obtain⟨k,hk,rfl⟩:=Hi hp;have aa:=Rk h;unfold Cs at h;rw[Ah (by omega)]at h;have h0:∀n,n<=ls.length->EL ls n=0:=λn a=>by
  by_cases e:EL ls n=0
  ·exact e
  ·have:=Ow e _ a;rw[this]at h;exact absurd h e
 have h1:=Ox hk (h0 k (by omega));rw[h0 (k+1) (by omega)]at h1;have h2:=h1.symm;unfold CJ at h2;by_cases e:Av ls[k].l=0
 ·rw[Ao e]at h2; exact⟨e,h2⟩
 ·rw[Ah e]at h2; exact absurd h2 e
def Hr (l:List Bd) (s:ByteArray) (es0 bs:List Tm):Tm:=
 match As l s with
 |some x=>if es0.isEmpty=true then x else ⟨s,bs⟩
 |none=>⟨s,bs⟩
def At (l:List Bd):List Tm->List Tm
 | []=>[]
 | ⟨s,es0⟩::r=>Hr l s es0 (At l es0)::At l r
def Ai (l:List Bd) (t:Tm):Tm:=Hr l t.name t.args (At l t.args)
theorem AY (l:List Bd) (t:Tm) (r:List Tm):At l (t::r)=Ai l t::At l r:=by
 obtain⟨s,aa⟩:=t;simp only[At,Ai]
theorem Oy (l:List Bd):∀aa,(At l aa).length=aa.length
 | []=>by simp[At]
 |t::r=>by rw[AY]; simp[Oy l r]
theorem K0 (l:List Bd) (b:List Tm):∀a,At l (a++b)=At l a++At l b
 | []=>by simp[At]
 |t::r=>by rw[Bj,AY,AY,K0 l b r]; rfl
theorem JK {l:List Bd} {x:Tm} (h:As l s=some x):Ai l ⟨s,[]⟩=x:=by simp[Ai,Hr,h]
theorem Iu {l:List Bd} {aa:List Tm} (h:aa≠[]∨As l s=none):Ai l ⟨s,aa⟩=⟨s,At l aa⟩:=by
 unfold Ai Hr;rcases h with h|h
 ·cases As l s with
  |none=>rfl
  |some x=>simp[h]
 ·rw[h]
theorem Yc {l:List ByteArray} (h:Bb x l=true):x∈l:=by
 unfold Bb at h;rw[D6]at h;obtain⟨y,hy,e⟩:=h;have a:y=x:=Ew (by simpa using e);rw[<-a]; exact hy
def Br (p:Pr):Int:=if CJ p.l p.r=0 then (if Aj p.l.name=true then 2 else if (AN [] (Ap [p.r])).all (λn=>Bb n (AN [] (Ap [p.l])))=true then 0 else 15) else CJ p.l p.r
def EM (ls:List Pr):Nat->Int
 |0=>0
 |k+1=>if EM ls k=0 then (match ls[k]? with|some p=>Br p|none=>0) else EM ls k
def Bl (ls:List Pr):Int:=if 40<ls.length then 3 else EM ls ls.length
theorem Oz {ls:List Pr} {k:Nat} (h:EM ls k≠0):∀n,k<=n->EM ls n=EM ls k
 |0,b=>by
  have:k=0:=by omega
  subst this; rfl
 |n+1,b=>by
  by_cases e:k=n+1
  ·subst e; rfl
  ·have a:=Oz h n (by omega);rw[EM,Ah (by rw[a]; exact h)];exact a
theorem My {ls:List Pr} (hk:k<ls.length) (h0:EM ls k=0):EM ls (k+1)=Br ls[k]:=by rw[EM,Ao h0,F1 hk]
theorem Yd {ls:List Pr} (hk:k<ls.length) (aa:¬40<ls.length) (h0:EM ls k=0) (a:Br ls[k]≠0):Bl ls=Br ls[k]:=by
 unfold Bl;rw[Ah aa];have h1:=My hk h0;rw[<-h1];exact Oz (by rw[h1]; exact a) _ (by omega)
theorem Rl {ls:List Pr} (h:Bl ls=0):ls.length<=40:=by
 unfold Bl at h;split at h
 ·cases h
 ·omega
theorem G1 {ls:List Pr} (h:Bl ls=0):∀p∈ls,Br p=0:=by
 intro p hp;obtain⟨k,hk,rfl⟩:=Hi hp;have hl:=Rl h;unfold Bl at h;rw[Ah (by omega)]at h;have h0:∀n,n<=ls.length->EM ls n=0:=λn a=>by
  by_cases e:EM ls n=0
  ·exact e
  ·have:=Oz e _ a;rw[this]at h;exact absurd h e
 have h1:=My hk (h0 k (by omega));rw[h0 (k+1) (by omega)]at h1;exact h1.symm
theorem Gv {p:Pr} (h:Br p=0):Av p.l=0/\Av p.r=0/\Aj p.l.name=false/\∀n∈AN [] (Ap [p.r]),n∈AN [] (Ap [p.l]):=by
 unfold Br at h;split at h
 ·rename_i h1;split at h
  ·cases h
  ·rename_i h2;split at h
   ·rename_i h3;unfold CJ at h1;split at h1
    ·rename_i a;refine⟨a,h1,by simpa using h2,λn b=>?_⟩;exact Yc (GR.1 h3 n b)
    ·rename_i a; exact absurd h1 a
   ·cases h
 ·rename_i h1; exact absurd h h1
def FG (p:Pr) (x:Tm):Option Tm:=(AX p.l x []).map λh=>Ai h p.r
def JM (rs:List Pr) (t:Tm) (p:List Int):List Tm:=match AA t p with
 |some x=>rs.filterMap λr=>(FG r x).map λy=>AJ y p t
 |none=>[]
def Cl (rs:List Pr) (t:Tm):List Tm:=(Ez t).flatMap (JM rs t)
