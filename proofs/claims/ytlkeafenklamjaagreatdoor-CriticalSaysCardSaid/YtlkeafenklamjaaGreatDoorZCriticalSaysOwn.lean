/- Several texts in one. -/
import Derived.Test.YtlkeafenklamjaaGreatDoorSq
import Derived.WalkKit
import Derived.WalkSpells
import Derived.WalkLawsBesides
import Derived.Test.YtlkeafenklamjaaGreatDoorRows
import Derived.Deep.AppendLies
import Derived.BigQuiet
import Derived.Deep.RegionHeld
import Derived.Deep.RegionLaw
import Derived.Deep.RegionHeld3
import Derived.WideMake
import Derived.Lib.Builder
import Derived.Lib.AppendStr
import Derived.Deep.AppendSrc
import Derived.Lib.ItoaNum
import Derived.Laws.IdiomStrings
import Derived.Test.YtlkeafenklamjaaGreatDoorShelf
namespace Go.Proofs.YtlkeafenklamjaaGreatDoor
set_option linter.all false
set_option maxRecDepth 20000
set_option maxHeartbeats 8000000
open Go.RowKit
theorem Aa {p:Prop} (h:p):Hid p:=h
structure Tm where
 name:ByteArray
 args:List Tm
theorem Tm.ind {P:Tm->Prop} (h:∀s l,(∀x∈l,P x)->P ⟨s,l⟩) (t:Tm):P t:=
 Tm.rec (motive_1:=P) (motive_2:=λl=>∀x∈l,P x) (λs l ih=>h s l ih) (λx hx=>by cases hx)
  (λa l ha hl x hx=>by
   rcases BE.1 hx with e|e
   ·subst e; exact ha
   ·exact hl x e) t
theorem Tm.indL {P:List Tm->Prop} (h0:P []) (h:∀s l r,P l->P r->P (⟨s,l⟩::r)) (l:List Tm):P l:=
 Tm.rec_1 (motive_1:=λt=>P t.args) (motive_2:=P) (λ_ _ ih=>ih) h0 (λa l ha hl=>by obtain⟨s,k⟩:=a; exact h s k l ha hl) l
def Ab:List Tm->Nat
 | []=>0
 | ⟨_,l⟩::r=>1+Ab l+Ab r
theorem D8 (a b:List Tm):Ab (a++b)=Ab a+Ab b:=by
 induction a with
 |nil=>simp[Ab]
 |cons t r ih=>obtain⟨s,l⟩:=t; simp only[Cf,Ab,ih]; omega
def C3 (w:World) (X:Nat->Prop):Nat->Nat->List Tm->Prop
 |_,_,[]=>True
 |b,o,⟨s,l⟩::r=>X b/\w.cell? ⟨b,o,none⟩=some (.string s)/\
   (∃a c,w.cell? ⟨b,o+1,none⟩=some (.slice a l.length c)/\l.length<=9223372036854775807/\(l=[]∨∃b' o',a=some ⟨b',o',none⟩/\C3 w X b' o' l))/\C3 w X b (o+2) r
def Sl (w:World) (X:Nat->Prop) (a:Option Addr) (l:List Tm):Prop:=l.length<=9223372036854775807/\(l=[]∨∃b o,a=some ⟨b,o,none⟩/\C3 w X b o l)
def TV (w:World) (X:Nat->Prop) (v:Value) (t:Tm):Prop:=∃a c,v=.agg #[.string t.name,.slice a t.args.length c]/\Sl w X a t.args
theorem Ua {w w':World} {X:Nat->Prop} (h:∀b,X b->w'.heap[b]? = w.heap[b]?) (l:List Tm):∀b o,C3 w X b o l->C3 w' X b o l:=by
 induction l using Tm.indL with
 |h0=>intro b o _; simp[C3]
 |h s l r aa ae=>
  intro b o hl
  simp only[C3] at hl ⊢
  obtain⟨hx,h1,⟨a,c,h2,af,h3⟩,h4⟩:=hl
  refine⟨hx,by rw[CM (h b hx)]; exact h1,⟨a,c,by rw[CM (h b hx)]; exact h2,af,?_⟩,ae _ _ h4⟩
  rcases h3 with h3|⟨b',o',h3,h5⟩
  ·exact Ad h3
  ·exact Ae ⟨b',o',h3,aa _ _ h5⟩
theorem Ub {w:World} {X Y:Nat->Prop} (h:∀b,X b->b<w.heap.size->Y b) (l:List Tm):∀b o,C3 w X b o l->C3 w Y b o l:=by
 induction l using Tm.indL with
 |h0=>intro b o _; simp[C3]
 |h s l r aa ae=>
  intro b o hl
  simp only[C3] at hl ⊢
  obtain⟨hx,h1,⟨a,c,h2,af,h3⟩,h4⟩:=hl
  have hb:b<w.heap.size:=by
   apply G7
   intro hn
   have e:w.heap[b]? = none:=I2 (by omega)
   simp[World.cell?,e]at h1
  refine⟨h b hx hb,h1,⟨a,c,h2,af,?_⟩,ae _ _ h4⟩
  rcases h3 with h3|⟨b',o',h3,h5⟩
  ·exact Ad h3
  ·exact Ae ⟨b',o',h3,aa _ _ h5⟩
theorem Sl.kept {w w':World} {X:Nat->Prop} {a:Option Addr} {l:List Tm} (h:Sl w X a l) (hk:∀b,X b->w'.heap[b]? = w.heap[b]?):Sl w' X a l:=by
 obtain⟨hl,h⟩:=h
 refine⟨hl,?_⟩
 rcases h with h|⟨b,o,e,h⟩
 ·exact Ad h
 ·exact Ae ⟨b,o,e,Ua hk _ _ _ h⟩
theorem Sl.mono {w:World} {X Y:Nat->Prop} {a:Option Addr} {l:List Tm} (h:Sl w X a l) (hk:∀b,X b->b<w.heap.size->Y b):Sl w Y a l:=by
 obtain⟨hl,h⟩:=h
 refine⟨hl,?_⟩
 rcases h with h|⟨b,o,e,h⟩
 ·exact Ad h
 ·exact Ae ⟨b,o,e,Ub hk _ _ _ h⟩
theorem Sl.below {w w':World} {X:Nat->Prop} {a:Option Addr} {l:List Tm} {B:Nat} (h:Sl w X a l) (hb:Below B w w') (hX:∀b,X b->b<w.heap.size->b<B):Sl w' X a l:=by
 have h1:Sl w (λb=>X b/\b<B) a l:=h.mono λb hx hs=>⟨hx,hX b hx hs⟩
 have h2:Sl w' (λb=>X b/\b<B) a l:=h1.kept λb hx=>hb.block b hx.2
 exact h2.mono λb hx _=>hx.1
theorem TV.kept {w w':World} {X:Nat->Prop} {v:Value} {t:Tm} (h:TV w X v t) (hk:∀b,X b->w'.heap[b]? = w.heap[b]?):TV w' X v t:=by
 obtain⟨a,c,e,h⟩:=h
 exact⟨a,c,e,h.kept hk⟩
theorem TV.mono {w:World} {X Y:Nat->Prop} {v:Value} {t:Tm} (h:TV w X v t) (hk:∀b,X b->b<w.heap.size->Y b):TV w Y v t:=by
 obtain⟨a,c,e,h⟩:=h
 exact⟨a,c,e,h.mono hk⟩
theorem TV.below {w w':World} {X:Nat->Prop} {v:Value} {t:Tm} {B:Nat} (h:TV w X v t) (hb:Below B w w') (hX:∀b,X b->b<w.heap.size->b<B):TV w' X v t:=by
 obtain⟨a,c,e,h⟩:=h
 exact⟨a,c,e,h.below hb hX⟩
theorem TV.alloc {w:World} {X:Nat->Prop} {v:Value} {t:Tm} (h:TV w X v t) (o:Obj):TV (w.alloc o) X v t:=
 h.below ((Af _ _).alloc (Aj _) o) (λ_ _ h=>h)
theorem TV.later {w w':World} {X:Nat->Prop} {v:Value} {t:Tm} (h:TV w X v t) (hb:Below w.heap.size w w'):TV w' X v t:=h.below hb (λ_ _ h=>h)
theorem Sl.later {w w':World} {X:Nat->Prop} {a:Option Addr} {l:List Tm} (h:Sl w X a l) (hb:Below w.heap.size w w'):Sl w' X a l:=h.below hb (λ_ _ h=>h)
theorem FQ {w:World} {X:Nat->Prop}:∀(l:List Tm) (b o:Nat),C3 w X b o l->∀i (h:i<l.length),
  X b/\w.cell? ⟨b,o+i*2,none⟩=some (.string l[i].name)/\∃a c,w.cell? ⟨b,o+i*2+1,none⟩=some (.slice a l[i].args.length c)/\Sl w X a l[i].args:=by
 intro l
 induction l with
 |nil=>intro b o _ i h; simp at h
 |cons t r ih=>
  intro b o hl i h
  obtain⟨s,k⟩:=t
  simp only[C3] at hl
  obtain⟨hx,h1,⟨a,c,h2,h3⟩,h4⟩:=hl
  cases i with
  |zero=>exact⟨hx,h1,a,c,h2,h3⟩
  |succ i=>
   have:=ih b (o+2) h4 i (by simpa using h)
   simp only[F7]
   rw[show o+(i+1)*2=o+2+i*2 by omega]
   exact this
theorem NA {w:World} {X:Nat->Prop}:∀(l:List Tm) (b o:Nat),(∀i (h:i<l.length),
  X b/\w.cell? ⟨b,o+i*2,none⟩=some (.string l[i].name)/\∃a c,w.cell? ⟨b,o+i*2+1,none⟩=some (.slice a l[i].args.length c)/\Sl w X a l[i].args)->C3 w X b o l:=by
 intro l
 induction l with
 |nil=>intro b o _; simp[C3]
 |cons t r ih=>
  intro b o hl
  obtain⟨s,k⟩:=t
  simp only[C3]
  obtain⟨hx,h1,a,c,h2,h3⟩:=hl 0 (by simp)
  refine⟨hx,h1,⟨a,c,h2,h3⟩,ih b (o+2) λi h=>?_⟩
  have:=hl (i+1) (by simpa using h)
  simp only[F7] at this
  rw[show o+(i+1)*2=o+2+i*2 by omega]at this
  exact this
theorem Sl.get {w wr:World} {X:Nat->Prop} {a:Option Addr} {l:List Tm} {B:Nat} (h:Sl w X a l) (hb:Below B w wr) (hX:∀b,X b->b<w.heap.size->b<B) (k:Nat) (hk:k<l.length):
  ∃b o a' c',a=some ⟨b,o,none⟩/\wr.cell? ⟨b,o+k*2,none⟩=some (.string l[k].name)/\wr.cell? ⟨b,o+k*2+1,none⟩=some (.slice a' l[k].args.length c')/\TV wr X (.agg #[.string l[k].name,.slice a' l[k].args.length c']) l[k]:=by
 have h':=h.below hb hX
 obtain⟨_,h1⟩:=h'
 rcases h1 with h1|⟨b,o,e,h1⟩
 ·subst h1; simp at hk
 ·obtain⟨_,h2,a',c',h3,h4⟩:=FQ _ _ _ h1 k hk
  exact⟨b,o,a',c',e,h2,h3,a',c',rfl,h4⟩
structure Bd where
 nm:ByteArray
 t:Tm
def BV (w:World) (X:Nat->Prop) (v:Value) (l:List Bd):Prop:=
 ∃a c,v=.slice a l.length c/\(l.length<=9223372036854775807/\l.length<=c)/\(l=[]∨∃b o,a=some ⟨b,o,none⟩/\X b/\∀i (h:i<l.length),w.cell? ⟨b,o+i*3,none⟩=some (.string l[i].nm)/\w.cell? ⟨b,o+i*3+1,none⟩=some (.string l[i].t.name)/\∃a' c',w.cell? ⟨b,o+i*3+2,none⟩=some (.slice a' l[i].t.args.length c')/\Sl w X a' l[i].t.args)
theorem BV.kept {w w':World} {X:Nat->Prop} {v:Value} {l:List Bd} (h:BV w X v l) (hk:∀b,X b->w'.heap[b]? = w.heap[b]?):BV w' X v l:=by
 obtain⟨a,c,e,hl,h⟩:=h
 refine⟨a,c,e,hl,?_⟩
 rcases h with h|⟨b,o,ea,hX,h⟩
 ·exact Ad h
 ·refine Ae ⟨b,o,ea,hX,λi hi=>?_⟩
  obtain⟨h1,h2,a',c',h3,h4⟩:=h i hi
  have hb:=hk b hX
  exact⟨by simpa [World.cell?,hb] using h1,by simpa [World.cell?,hb] using h2,a',c',by simpa [World.cell?,hb] using h3,h4.kept hk⟩
theorem D9 {w:World} {b o:Nat} {v:Value} (h:w.cell? ⟨b,o,none⟩=some v):b<w.heap.size:=by
 rcases Nat.lt_or_ge b w.heap.size with h'|h'
 ·exact h'
 ·simp[World.cell?,I2 h']at h
theorem BV.mono {w:World} {X Y:Nat->Prop} {v:Value} {l:List Bd} (h:BV w X v l) (hk:∀b,X b->b<w.heap.size->Y b):BV w Y v l:=by
 obtain⟨a,c,e,hl,h⟩:=h
 refine⟨a,c,e,hl,?_⟩
 rcases h with h|⟨b,o,ea,hX,h⟩
 ·exact Ad h
 ·by_cases h0:l=[]
  ·exact Ad h0
  ·have hp:0<l.length:=Fb.2 h0
   refine Ae ⟨b,o,ea,hk b hX (D9 (h 0 hp).1),λi hi=>?_⟩
   obtain⟨h1,h2,a',c',h3,h4⟩:=h i hi
   exact⟨h1,h2,a',c',h3,h4.mono hk⟩
theorem BV.later {w w':World} {X:Nat->Prop} {v:Value} {l:List Bd} (h:BV w X v l) (hb:Below w.heap.size w w'):BV w' X v l:=
 ((h.mono (Y:=λb=>X b/\b<w.heap.size) λb h1 h2=>⟨h1,h2⟩).kept λb hx=>hb.block b hx.2).mono λb hx _=>hx.1
theorem BV.alloc {w:World} {X:Nat->Prop} {v:Value} {l:List Bd} (h:BV w X v l) (o:Obj):BV (w.alloc o) X v l:=h.later ((Af _ _).alloc (Aj _) o)
theorem BV.get {w:World} {X:Nat->Prop} {a:Option Addr} {n c:Nat} {l:List Bd} (h:BV w X (.slice a n c) l) (i:Nat) (hi:i<l.length):
  ∃b o a' c',a=some ⟨b,o,none⟩/\w.cell? ⟨b,o+i*3,none⟩=some (.string l[i].nm)/\w.cell? ⟨b,o+i*3+1,none⟩=some (.string l[i].t.name)/\w.cell? ⟨b,o+i*3+2,none⟩=some (.slice a' l[i].t.args.length c')/\Sl w X a' l[i].t.args:=by
 obtain⟨a2,c2,e,hl,h⟩:=h
 simp at e
 obtain⟨rfl,rfl,rfl⟩:=e
 rcases h with h|⟨b,o,ea,hX,h⟩
 ·subst h; simp at hi
 ·obtain⟨h1,h2,a',c',h3,h4⟩:=h i hi
  exact⟨b,o,a',c',ea,h1,h2,h3,h4⟩
theorem Ej {a b:ByteArray} (h:a.toList=b.toList):a=b:=by
 rw[GG,GG]at h
 cases a with
 |mk x=>
  cases b with
  |mk y=>congr 1; exact Array.toList_inj.1 h
theorem Hi {a b:ByteArray} (h:a=b):(a.toList==b.toList)=true:=by rw[h]; simp
theorem I9 {a b:ByteArray} (h:a≠b):(a.toList==b.toList)=false:=DL.2 λe=>h (Ej e)
def Ar:List Bd->ByteArray->Option Tm
 | [],_=>none
 |d::r,n=>if d.nm=n then some d.t else Ar r n
theorem Uc {l:List Bd} {n:ByteArray} {k:Nat} (hk:k<l.length) (h:Ar (l.take k) n=none):(l[k].nm=n->Ar l n=some l[k].t)/\(l[k].nm≠n->Ar (l.take (k+1)) n=none):=by
 induction l generalizing k with
 |nil=>simp at hk
 |cons d r ih=>
  cases k with
  |zero=>
   refine⟨λe=>?_,λe=>?_⟩
   ·simp only[Et] at e; simp[Ar,e]
   ·simp only[Et] at e; simp[Ar,e]
  |succ k=>
   simp only[F8,Ar] at h
   by_cases hd:d.nm=n
   ·rw[As hd]at h; cases h
   ·rw[An hd]at h
    obtain⟨h1,h2⟩:=ih (by simpa using hk) h
    refine⟨λe=>?_,λe=>?_⟩
    ·rw[Ar,An hd]; exact h1 (by simpa using e)
    ·rw[F8,Ar,An hd]; exact h2 (by simpa using e)
theorem NC {W w1:World} {B:Nat} (hb:Below B W w1):(∀b o,b<B->w1.cell? ⟨b,o,none⟩=W.cell? ⟨b,o,none⟩)/\(∀b o,b<B->w1.frozen? ⟨b,o,none⟩=W.frozen? ⟨b,o,none⟩):=
 ⟨λb o h=>hb.cell (p:=⟨b,o,none⟩) h,λb o h=>hb.frozen (p:=⟨b,o,none⟩) h⟩
theorem C4 (l:List Tm) (k:Nat) (h:k<l.length):Ab (l.take (k+1))=Ab (l.take k)+Ab [l[k]]:=by
 rw[Bm h,D8]
theorem C5 (l:List Tm) (k:Nat):Ab (l.take k)<=Ab l:=by
 have:=D8 (l.take k) (l.drop k)
 rw[Eu]at this
 omega
theorem BG {k:IntKind} {a b:Int} (h:a=b):Ending.returned (.int k a)=.returned (.int k b):=by rw[h]
theorem Gg {w wr:World} {o:Obj} (hb:Below (w.heap.size+1) (w.alloc o) wr):Below w.heap.size w wr:=
 ((Af _ _).alloc (Aj _) _).trans (hb.mono (Nat.le_succ _))
theorem Ie (t:Tm):∀(v:Value) (most:Int) (w:World) (X:Nat->Prop),TV w X v t->0<=most->most<=1000000->
  Calls Tryz.prog 6 #[v,.int .i64 most] w λe w'=>e=.returned (.int .i64 (min (Ab [t]) (most+1)))/\Below w.heap.size w w':=by
 induction t using Tm.ind with
 |h s l ih=>
  intro v most w X hv ah ai
  obtain⟨a,c,rfl,hs⟩:=hv
  have IH:=Aa ih
  clear ih
  go_enter Tryz.func6,Tryz.ntmps6
  go_wp2_with fail
  go_loopw [5,6] (λn i wr=>∃k:Nat,k<=l.length/\i=.int .i64 k/\n=.int .i64 (min (1+Ab (l.take k)) (most+1))/\Below (w.heap.size+1) (w.alloc (Obj.cells #[Value.string s,Value.slice a l.length c] 29)) wr) (λn i wr=>l.length-(intOf i).toNat)
  case atStart=>exact⟨0,AE _,rfl,by simp[Ab]; omega,Af _ _⟩
  case round=>
   obtain⟨k,hk,rfl,rfl,hb⟩:=hrel
   have hc:=NC hb
   have c0:wr.cell? ⟨w.heap.size,0,none⟩=some (.string s):=by rw[hc.1 _ _ (by omega)]; simp
   have c1:wr.cell? ⟨w.heap.size,1,none⟩=some (.slice a l.length c):=by rw[hc.1 _ _ (by omega)]; simp
   have hl:=hs.1
   have hn:0<=((1:Int)+Ab (l.take k)):=by omega
   by_cases hlt:k<l.length
   ·obtain⟨b,o,a',c',rfl,d0,d1,hx⟩:=hs.get (((Af _ _).alloc (Aj _) _).trans (hb.mono (Nat.le_succ _))) (λ_ _ h=>h) k hlt
    by_cases hle:1+(Ab (l.take k):Int)<=most
    ·have aa:min (1+(Ab (l.take k):Int)) (most+1)=1+(Ab (l.take k):Int):=by omega
     rw[aa]
     go_wp2_with fail
     refine(IH.out _ (AV hlt) _ _ _ X hx (by omega) (by omega)).mono ?_
     rintro e w1 ⟨rfl,hb1⟩
     have hsz:w.heap.size+1<=wr.heap.size:=by have:=hb.size; simpa using this
     have ae:=Aa (C4 l k hlt)
     have aj:0<=min ((Ab [l[k]]:Int)) (most-(1+(Ab (l.take k):Int))+1):=by omega
     have ak:min ((Ab [l[k]]:Int)) (most-(1+(Ab (l.take k):Int))+1)<=1000001:=by omega
     go_wp2_with fail
     go_roundw
     case rel=>exact⟨k+1,by omega,by go_num,by rw[ae.out]; congr 1; omega,hb.trans (hb1.mono hsz)⟩
     case measure=>simp[intOf]; omega
    ·have aa:min (1+(Ab (l.take k):Int)) (most+1)=most+1:=by omega
     rw[aa]
     have hz:(Ab [(⟨s,l⟩:Tm)]:Int)=1+Ab l:=by simp[Ab]
     have af:Ab (l.take k)<=Ab l:=C5 l k
     have HF:=Aa (show(most+1:Int)=min (Ab [(⟨s,l⟩:Tm)]:Int) (most+1) by omega)
     clear hz
     go_wp2_with fail
     go_ret
     exact⟨BG HF.out,Gg hb⟩
   ·have ag:l.take k=l:=AW (by omega)
    rw[ag]
    have hz:(Ab [(⟨s,l⟩:Tm)]:Int)=1+Ab l:=by simp[Ab]
    have HZ:=Aa hz
    clear hz
    go_wp2_with fail
    ·go_ret
     exact⟨BG (by have:=HZ.out; omega),Gg hb⟩
    ·go_ret
     exact⟨BG (by have:=HZ.out; omega),Gg hb⟩
def EP (n:Int):Bool:=decide (48<=n)&&decide (n<=57)
def FT (n:Int):Bool:=decide (65<=n)&&decide (n<=90)
def Ja (n:Int):Bool:=decide (97<=n)&&decide (n<=122)
def Hj (n:Int):Bool:=Ja n||FT n
def EQ (n:Int):Bool:=Hj n||EP n
theorem BH {a b:Bool} (h:a=b):Ending.returned (.bool a)=.returned (.bool b):=by rw[h]
theorem JX (n:Int) (w:World):Calls Tryz.prog 126 #[.int .u8 n] w λe w'=>e=.returned (.bool (EP n))/\w'=w:=by
 go_enter Tryz.func126,Tryz.ntmps126
 go_wp2_with fail
 all_goals (go_ret; refine⟨BH ?_,rfl⟩; rw[Fs]; simp[EQ,Hj,Ja,FT,EP]<;>omega)
theorem ND (n:Int) (w:World):Calls Tryz.prog 75 #[.int .u8 n] w λe w'=>e=.returned (.bool (FT n))/\w'=w:=by
 go_enter Tryz.func75,Tryz.ntmps75
 go_wp2_with fail
 all_goals (go_ret; refine⟨BH ?_,rfl⟩; rw[Fs]; simp[EQ,Hj,Ja,FT,EP]<;>omega)
theorem Lz (n:Int) (w:World):Calls Tryz.prog 127 #[.int .u8 n] w λe w'=>e=.returned (.bool (Hj n))/\w'=w:=by
 go_enter Tryz.func127,Tryz.ntmps127
 go_wp2_with (go_at_call 75; refine(ND _ _).mono ?_; rintro e w' ⟨rfl,rfl⟩)
 all_goals (go_ret; refine⟨BH ?_,rfl⟩; rw[Fs]; simp[EQ,Hj,Ja,FT,EP]<;>omega)
theorem NE (n:Int) (w:World):Calls Tryz.prog 70 #[.int .u8 n] w λe w'=>e=.returned (.bool (EQ n))/\w'=w:=by
 go_enter Tryz.func70,Tryz.ntmps70
 go_wp2_with fail
 all_goals (go_ret; refine⟨BH ?_,rfl⟩; rw[Fs]; simp[EQ,Hj,Ja,FT,EP]<;>omega)
def Dt (s:ByteArray) (i:Nat):Int:=if h:i<s.size then (s[i].toNat:Int) else 0
theorem Ig {s:ByteArray} {i:Nat} (h:i<s.size):(s[i].toNat:Int)=Dt s i:=by simp[Dt,h]
def Ak (s:ByteArray):Bool:=FT (Dt s 0)
def Fu (s:ByteArray) (k:Nat):Bool:=(List.range k).all λi=>EQ (Dt s i)
def Be (s:ByteArray):Bool:=decide (1<=s.size)&&decide (s.size<=8)&&!EP (Dt s 0)&&Fu s s.size
theorem LA {s:ByteArray} (h:0<s.size):s.toList.isEmpty=false:=by
 rw[GG,List.isEmpty_eq_false_iff,<-Fb]
 simpa using h
theorem LB {s:ByteArray} (h:¬0<s.size):s.toList.isEmpty=true:=by
 rw[GG,List.isEmpty_iff,<-Ew]
 have:s.size=0:=by omega
 simpa using this
theorem LC (s:ByteArray) (k:Nat):Fu s (k+1)=(Fu s k&&EQ (Dt s k)):=by
 simp[Fu,List.range_succ,List.all_append]
theorem Ud {s:ByteArray} {k n:Nat} (h:k<=n) (hf:Fu s k=false):Fu s n=false:=by
 cases hn:Fu s n with
 |false=>rfl
 |true=>
  rw[<-hf]; symm
  unfold Fu at hn ⊢
  rw[G8]at hn ⊢
  intro x hx; exact hn x (by rw[List.mem_range] at hx ⊢; omega)
theorem Du (s:ByteArray) (w:World):Calls Tryz.prog 14 #[.string s] w λe w'=>e=.returned (.bool (Ak s))/\w'=w:=by
 by_cases h:0<s.size
 ·have hb:=Aa (Ig h)
  have he:=LA h
  go_enter Tryz.func14,Tryz.ntmps14
  go_wp2_with fail
  all_goals (go_ret; refine⟨BH ?_,rfl⟩; have hb':=hb.out; rw[Fs]; simp[Ak,FT]<;>omega)
 ·have he:=LB h
  have hv:Hid (false=Ak s):=by simp[Hid,Ak,Dt,h,FT]
  go_enter Tryz.func14,Tryz.ntmps14
  go_wp2_with fail
  go_ret
  exact⟨BH hv.out,rfl⟩
theorem Cz (s:ByteArray) (w:World):Calls Tryz.prog 49 #[.string s] w λe w'=>e=.returned (.bool (Ak s))/\w'=w:=by
 by_cases h:0<s.size
 ·have hb:=Aa (Ig h)
  have he:=LA h
  go_enter Tryz.func49,Tryz.ntmps49
  go_wp2_with (go_at_call 75; refine(ND _ _).mono ?_; rintro e w' ⟨rfl,rfl⟩)
  go_ret
  refine⟨BH ?_,rfl⟩
  rw[hb.out]; rfl
 ·have he:=LB h
  have hv:Hid (false=Ak s):=by simp[Hid,Ak,Dt,h,FT]
  go_enter Tryz.func49,Tryz.ntmps49
  go_wp2_with fail
  go_ret
  exact⟨BH hv.out,rfl⟩
theorem Ih (s:ByteArray) (w:World) (h:0<s.size):Calls Tryz.prog 49 #[.string s] w λe w'=>e=.returned (.bool (Ak s))/\w'=w:=Cz s w
theorem NF {s:ByteArray} {k:Nat} (hk:k<s.size) (h:EQ (Dt s k)=false):Be s=false:=by
 have h1:Fu s (k+1)=false:=by rw[LC,h]; simp
 have h2:=Ud (n:=s.size) (by omega) h1
 simp[Be,h2]
theorem JY (s:ByteArray) (w:World):Calls Tryz.prog 108 #[.string s] w λe w'=>e=.returned (.bool (Be s))/\w'=w:=by
 by_cases h0:s.size<1
 ·have hn:Hid (false=Be s):=by simp[Hid,Be]; omega
  go_enter Tryz.func108,Tryz.ntmps108
  go_wp2_with fail
  go_ret
  exact⟨BH hn.out,rfl⟩
 ·by_cases h8:8<s.size
  ·have hn:Hid (false=Be s):=by simp[Hid,Be]; omega
   go_enter Tryz.func108,Tryz.ntmps108
   go_wp2_with fail
   all_goals (go_ret; exact⟨BH hn.out,rfl⟩)
  ·have hb:=Aa (Ig (s:=s) (i:=0) (by omega))
   by_cases hd:EP (Dt s 0)=true
   ·have hn:Hid (false=Be s):=by simp[Hid,Be,hd]
    have af:=Aa hd
    clear hd
    go_enter Tryz.func108,Tryz.ntmps108
    go_wp2_with (go_at_call 126; refine(JX _ _).mono ?_; rintro e w' ⟨rfl,rfl⟩; rw[hb.out,af.out])
    all_goals (go_ret; exact⟨BH hn.out,rfl⟩)
   ·have af:Hid (EP (Dt s 0)=false):=by simpa [Hid] using hd
    clear hd
    go_enter Tryz.func108,Tryz.ntmps108
    go_wp2_with (go_at_call 126; refine(JX _ _).mono ?_; rintro e w' ⟨rfl,rfl⟩; rw[hb.out,af.out])
    go_loop [19] (λi=>∃k:Nat,k<=s.size/\i=.int .i64 k/\Fu s k=true) (λi=>s.size-(intOf i).toNat)
    case atStart=>exact⟨0,AE _,rfl,rfl⟩
    case round=>
     obtain⟨k,hk,rfl,ha⟩:=hrel
     have HA:=Aa ha
     clear ha
     by_cases hlt:k<s.size
     ·have aa:=Aa (Ig hlt)
      have ae:=Aa (LC s k)
      cases hl:Hj (Dt s k) with
      |true=>
       have HL:=Aa hl
       clear hl
       go_wp2_with (go_at_call 127; refine(Lz _ _).mono ?_; rintro e w' ⟨rfl,rfl⟩; rw[aa.out,HL.out])
       go_round
       case rel=>exact⟨k+1,by omega,by go_num,by rw[ae.out,HA.out,EQ,HL.out]; rfl⟩
       case measure=>simp[intOf]; omega
      |false=>
       have HL:=Aa hl
       clear hl
       cases hg:EP (Dt s k) with
       |true=>
        have HG:=Aa hg
        clear hg
        go_wp2_with (first|(go_at_call 127; refine(Lz _ _).mono ?_; rintro e w' ⟨rfl,rfl⟩; rw[aa.out,HL.out])|(go_at_call 126; refine(JX _ _).mono ?_; rintro e w' ⟨rfl,rfl⟩; rw[aa.out,HG.out]))
        go_round
        case rel=>exact⟨k+1,by omega,by go_num,by rw[ae.out,HA.out,EQ,HL.out,HG.out]; rfl⟩
        case measure=>simp[intOf]; omega
       |false=>
        have HG:=Aa hg
        clear hg
        go_wp2_with (first|(go_at_call 127; refine(Lz _ _).mono ?_; rintro e w' ⟨rfl,rfl⟩; rw[aa.out,HL.out])|(go_at_call 126; refine(JX _ _).mono ?_; rintro e w' ⟨rfl,rfl⟩; rw[aa.out,HG.out]))
        go_ret
        exact⟨BH (NF hlt (by rw[EQ,HL.out,HG.out]; rfl)).symm,rfl⟩
     ·have hn:Hid (true=Be s):=by
       have e:k=s.size:=by omega
       have:=HA.out
       rw[e]at this
       simp[Hid,Be,this,af.out]; omega
      go_wp2_with fail
      go_ret
      exact⟨BH hn.out,rfl⟩
theorem JZ (s:ByteArray) (w:World):Calls Tryz.prog 41 #[.string s] w λe w'=>e=.returned (.bool (Be s))/\w'=w:=by
 by_cases h0:0<s.size
 ·have he:=LA h0
  have hb:=Aa (Ig h0)
  by_cases h8:8<s.size
  ·have hn:Hid (false=Be s):=by simp[Hid,Be]; omega
   go_enter Tryz.func41,Tryz.ntmps41
   go_wp2_with fail
   all_goals (go_ret; exact⟨BH hn.out,rfl⟩)
  ·cases hd:EP (Dt s 0) with
   |true=>
    have hn:Hid (false=Be s):=by simp[Hid,Be,hd]
    have ag:48<=(s[0].toNat:Int):=by rw[hb.out]; simp[EP] at hd; exact hd.1
    have ah:(s[0].toNat:Int)<=57:=by rw[hb.out]; simp[EP] at hd; exact hd.2
    clear hd
    go_enter Tryz.func41,Tryz.ntmps41
    go_wp2_with fail
    all_goals (go_ret; exact⟨BH hn.out,rfl⟩)
   |false=>
    have HD:=Aa hd
    clear hd
    have af:(s[0].toNat:Int)<48∨(48<=(s[0].toNat:Int)/\57<(s[0].toNat:Int)):=by
     have:=HD.out; rw[hb.out]; simp[EP] at this; omega
    rcases af with h1|⟨h1,h2⟩
    all_goals
     go_enter Tryz.func41,Tryz.ntmps41
     go_wp2_with fail
     go_loop [3] (λi=>∃k:Nat,k<=s.size/\i=.int .i64 k/\Fu s k=true) (λi=>s.size-(intOf i).toNat)
     case atStart=>exact⟨0,AE _,rfl,rfl⟩
     case round=>
      obtain⟨k,hk,rfl,ha⟩:=hrel
      have HA:=Aa ha
      clear ha
      by_cases hlt:k<s.size
      ·have ae:=Aa (Ig hlt)
       have aa:=Aa (LC s k)
       cases hl:EQ (Dt s k) with
       |true=>
        have HL:=Aa hl
        clear hl
        go_wp2_with (go_at_call 70; refine(NE _ _).mono ?_; rintro e w' ⟨rfl,rfl⟩; rw[ae.out,HL.out])
        go_round
        case rel=>exact⟨k+1,by omega,by go_num,by rw[aa.out,HA.out,HL.out]; rfl⟩
        case measure=>simp[intOf]; omega
       |false=>
        have HL:=Aa hl
        clear hl
        go_wp2_with (go_at_call 70; refine(NE _ _).mono ?_; rintro e w' ⟨rfl,rfl⟩; rw[ae.out,HL.out])
        go_ret
        exact⟨BH (NF hlt HL.out).symm,rfl⟩
      ·have hn:Hid (true=Be s):=by
        have e:k=s.size:=by omega
        have:=HA.out
        rw[e]at this
        simp[Hid,Be,this,HD.out]; omega
       go_wp2_with fail
       go_ret
       exact⟨BH hn.out,rfl⟩
 ·have he:=LB h0
  have hn:Hid (false=Be s):=by simp[Hid,Be]; omega
  go_enter Tryz.func41,Tryz.ntmps41
  go_wp2_with fail
  all_goals (go_ret; exact⟨BH hn.out,rfl⟩)
theorem Ue (s:ByteArray) (a:Option Addr) (n c:Nat) (w:World):
  Calls Tryz.prog 90 #[.agg #[.string s,.slice a n c]] w λe w'=>e=.returned (.slice a n c)/\w'=w.alloc (.cells #[.string s,.slice a n c] 29):=by
 go_enter Tryz.func90,Tryz.ntmps90
 go_wp2_with fail
 go_ret
 exact⟨rfl,rfl⟩
theorem Uf (M:Int) (ai:0<=M) (aj:M<=1000000) (t:Tm):∀(v:Value) (n:Int) (w:World) (X:Nat->Prop),TV w X v t->0<=n->n<=M->
  Calls Tryz.prog 104 #[v,.func (.func 90) #[] #[],.int .i64 M,.int .i64 n] w λe w'=>e=.returned (.int .i64 (min (n+Ab [t]) (M+1)))/\Below w.heap.size w w':=by
 induction t using Tm.ind with
 |h s l ih=>
  intro v n w X hv ak ao
  obtain⟨a,c,rfl,hs⟩:=hv
  have IH:=Aa ih
  clear ih
  have hz:Hid ((Ab [(⟨s,l⟩:Tm)]:Int)=1+Ab l):=by simp[Hid,Ab]
  go_enter Tryz.func104,Tryz.ntmps104
  go_wp2_with (go_at_call 90; refine(Ue _ _ _ _ _).mono ?_; rintro e w' ⟨rfl,rfl⟩)
  have ae:Hid (Below w.heap.size w ((w.alloc (Obj.cells #[Value.string s,Value.slice a l.length c] 29)).alloc (Obj.cells #[Value.string s,Value.slice a l.length c] 29))):=((Af _ _).alloc (Aj _) _).alloc (by simp) _
  have aq:Hid (w.heap.size+2<=((w.alloc (Obj.cells #[Value.string s,Value.slice a l.length c] 29)).alloc (Obj.cells #[Value.string s,Value.slice a l.length c] 29)).heap.size):=by simp[Hid]
  generalize ((w.alloc (Obj.cells #[Value.string s,Value.slice a l.length c] 29)).alloc (Obj.cells #[Value.string s,Value.slice a l.length c] 29))=w0 at *
  go_loopw [9,18] (λm i wr=>∃k:Nat,k<=l.length/\i=.int .i64 k/\m=.int .i64 (min (n+1+Ab (l.take k)) (M+1))/\Below w.heap.size w wr) (λm i wr=>l.length-(intOf i).toNat)
  case atStart=>exact⟨0,AE _,rfl,by rw[show Ab (l.take 0)=0 by simp[Ab]]; congr 1; omega,ae.out⟩
  case round=>
   obtain⟨k,hk,rfl,rfl,hb⟩:=hrel
   have hl:=hs.1
   have hsz:w.heap.size<=wr.heap.size:=hb.size
   by_cases hlt:k<l.length
   ·obtain⟨b,o,a',c',rfl,d0,d1,hx⟩:=hs.get hb (λ_ _ h=>h) k hlt
    by_cases hle:n+1+(Ab (l.take k):Int)<=M
    ·have aa:min (n+1+(Ab (l.take k):Int)) (M+1)=n+1+(Ab (l.take k):Int):=by omega
     rw[aa]
     go_wp2_with fail
     refine(IH.out _ (AV hlt) _ _ _ X (hx.alloc _) (by omega) (by omega)).mono ?_
     rintro e w1 ⟨rfl,hb1⟩
     have af:=Aa (C4 l k hlt)
     go_wp2_with fail
     go_roundw
     case rel=>exact⟨k+1,by omega,by go_num,by rw[af.out]; congr 1; omega,(hb.alloc hsz _).trans (hb1.mono (by simp; omega))⟩
     case measure=>simp[intOf]; omega
    ·have aa:min (n+1+(Ab (l.take k):Int)) (M+1)=M+1:=by omega
     rw[aa]
     have ag:Ab (l.take k)<=Ab l:=C5 l k
     go_wp2_with fail
     go_ret
     refine⟨BG (by have:=hz.out; omega),?_⟩
     exact hb.alloc (by omega) _
   ·have ah:l.take k=l:=AW (by omega)
    rw[ah]
    go_wp2_with fail
    go_ret
    exact⟨BG (by have:=hz.out; omega),hb⟩
theorem Ug (M:Int) (aa:0<=M) (ae:M<=1000000) (t:Tm) (v:Value) (w:World) (X:Nat->Prop) (hv:TV w X v t):
  Calls Tryz.prog 89 #[v,.func (.func 90) #[] #[],.int .i64 M] w λe w'=>e=.returned (.int .i64 (min (Ab [t]:Int) (M+1)))/\Below w.heap.size w w':=by
 obtain⟨a,c,rfl,hs⟩:=hv
 have hv:TV w X (.agg #[.string t.name,.slice a t.args.length c]) t:=⟨a,c,rfl,hs⟩
 go_enter Tryz.func89,Tryz.ntmps89
 go_wp2_with fail
 refine(Uf M aa ae t _ _ _ X (hv.alloc _) (by omega) (by omega)).mono ?_
 rintro e w1 ⟨rfl,hb1⟩
 go_wp2_with fail
 go_ret
 exact⟨BG (by omega),((Af _ _).alloc (Aj _) _).trans (hb1.mono (by simp))⟩
theorem Ii (M:Int) (aa:0<=M) (ae:M<=1000000) (t:Tm) (v:Value) (w:World) (X:Nat->Prop) (hv:TV w X v t):
  Calls Tryz.prog 67 #[v,.int .i64 M] w λe w'=>e=.returned (.int .i64 (min (Ab [t]:Int) (M+1)))/\Below w.heap.size w w':=by
 obtain⟨a,c,rfl,hs⟩:=hv
 have hv:TV w X (.agg #[.string t.name,.slice a t.args.length c]) t:=⟨a,c,rfl,hs⟩
 go_enter Tryz.func67,Tryz.ntmps67
 go_wp2_with fail
 refine(Ug M aa ae t _ _ X (hv.alloc _)).mono ?_
 rintro e w1 ⟨rfl,hb1⟩
 go_wp2_with fail
 go_ret
 exact⟨BG (by omega),((Af _ _).alloc (Aj _) _).trans (hb1.mono (by simp))⟩
def Ah:List Tm->Int
 | []=>0
 | ⟨s,l⟩::r=>if Be s=true then (if (Ak s&&decide (0<l.length))=true then 2 else if Ah l=0 then Ah r else Ah l) else 1
theorem GK (t:Tm) (r:List Tm):Ah (t::r)=if Ah [t]=0 then Ah r else Ah [t]:=by
 obtain⟨s,l⟩:=t
 simp only[Ah]
 split
 ·split
  ·simp
  ·split<;>simp_all
 ·simp
theorem NG (a b:List Tm):Ah (a++b)=if Ah a=0 then Ah b else Ah a:=by
 induction a with
 |nil=>simp[Ah]
 |cons t r ih=>
  rw[Cf,GK,GK t r,ih]
  by_cases h:Ah [t]=0<;>simp[h]
theorem Uh (l:List Tm) (k:Nat) (h:k<l.length):Ah (l.take (k+1))=if Ah (l.take k)=0 then Ah [l[k]] else Ah (l.take k):=by
 rw[Bm h,NG]
theorem Ui {l:List Tm} {k:Nat} (h:Ah (l.take k)≠0):Ah l=Ah (l.take k):=by
 have:=NG (l.take k) (l.drop k)
 rw[Eu,An h]at this
 exact this
theorem NH {s:ByteArray} (h:Be s=true):0<s.size:=by
 simp[Be]at h; omega
theorem Uj (t:Tm):∀(v:Value) (w:World) (X:Nat->Prop),TV w X v t->
  Calls Tryz.prog 93 #[v] w λe w'=>e=.returned (.int .i64 (Ah [t]))/\Below w.heap.size w w':=by
 induction t using Tm.ind with
 |h s l ih=>
  intro v w X hv
  obtain⟨a,c,rfl,hs⟩:=hv
  have IH:=Aa ih
  clear ih
  have hl:=hs.1
  cases hn:Be s with
  |false=>
   have hz:Hid (1=Ah [(⟨s,l⟩:Tm)]):=by simp[Hid,Ah,hn]
   have HN:=Aa hn
   clear hn
   go_enter Tryz.func93,Tryz.ntmps93
   go_wp2_with (go_at_call 108; refine(JY _ _).mono ?_; rintro e w' ⟨rfl,rfl⟩; rw[HN.out])
   go_ret
   exact⟨BG hz.out,(Af _ _).alloc (Aj _) _⟩
  |true=>
   have HN:=Aa hn
   have aa:=NH hn
   by_cases ag:Ak s=true/\0<l.length
   ·obtain⟨hv,ah⟩:=ag
    have hz:Hid (2=Ah [(⟨s,l⟩:Tm)]):=by simp[Hid,Ah,hn,hv,ah]
    have HV:=Aa hv
    clear hn hv
    go_enter Tryz.func93,Tryz.ntmps93
    go_wp2_with (first|(go_at_call 108; refine(JY _ _).mono ?_; rintro e w' ⟨rfl,rfl⟩; rw[HN.out])|(go_at_call 49; refine(Ih _ _ aa).mono ?_; rintro e w' ⟨rfl,rfl⟩; rw[HV.out]))
    go_ret
    exact⟨BG hz.out,(Af _ _).alloc (Aj _) _⟩
   ·have hz:Hid (Ah [(⟨s,l⟩:Tm)]=Ah l):=by
     have:(Ak s&&decide (0<l.length))=false:=by
      rw[I4]; intro h; simp at h; exact ag ⟨h.1,by omega⟩
     simp only[Hid,Ah,hn,this]
     by_cases h0:Ah l=0<;>simp[h0]
    have ae:(Ak s=true/\l.length<1)∨Ak s=false:=by
     cases hv:Ak s with
     |true=>exact Ad ⟨rfl,by apply G7; intro h; exact ag ⟨hv,by omega⟩⟩
     |false=>exact Ae rfl
    clear hn ag
    rcases ae with ⟨hv,ak⟩|hv
    ·have e0:l=[]:=Ew.1 (by omega)
     subst e0
     have HV:=Aa hv
     clear hv
     go_enter Tryz.func93,Tryz.ntmps93
     go_wp2_with (first|(go_at_call 108; refine(JY _ _).mono ?_; rintro e w' ⟨rfl,rfl⟩; rw[HN.out])|(go_at_call 49; refine(Ih _ _ aa).mono ?_; rintro e w' ⟨rfl,rfl⟩; rw[HV.out]))
     go_loop [22] (λi=>i=.int .i64 0) (λi=>0)
     case atStart=>rfl
     case round=>
      subst hrel
      have HZ:Hid (0=Ah [(⟨s,[]⟩:Tm)]):=by unfold Hid; rw[hz.out]; simp[Ah]
      go_wp2_with fail
      go_ret
      exact⟨BG HZ.out,(Af _ _).alloc (Aj _) _⟩
    ·have HV:=Aa hv
     clear hv
     go_enter Tryz.func93,Tryz.ntmps93
     go_wp2_with (first|(go_at_call 108; refine(JY _ _).mono ?_; rintro e w' ⟨rfl,rfl⟩; rw[HN.out])|(go_at_call 49; refine(Ih _ _ aa).mono ?_; rintro e w' ⟨rfl,rfl⟩; rw[HV.out]))
     go_loopw [22] (λi wr=>∃k:Nat,k<=l.length/\i=.int .i64 k/\Ah (l.take k)=0/\Below (w.heap.size+1) (w.alloc (Obj.cells #[Value.string s,Value.slice a l.length c] 29)) wr) (λi wr=>l.length-(intOf i).toNat)
     case atStart=>exact⟨0,AE _,rfl,by simp[Ah],Af _ _⟩
     case round=>
      obtain⟨k,hk,rfl,he,hb⟩:=hrel
      have HE:=Aa he
      clear he
      have hsz:w.heap.size+1<=wr.heap.size:=by have:=hb.size; simpa using this
      by_cases hlt:k<l.length
      ·obtain⟨b,o,a',c',rfl,d0,d1,hx⟩:=hs.get (Gg hb) (λ_ _ h=>h) k hlt
       have HT:=Aa (Uh l k hlt)
       go_wp2_with fail
       refine(IH.out _ (AV hlt) _ _ X (hx.alloc _)).mono ?_
       rintro e w1 ⟨rfl,hb1⟩
       by_cases af:Ah [l[k]]=0
       ·have HZ:=Aa af
        rw[af]
        clear af
        go_wp2_with fail
        go_roundw
        case rel=>exact⟨k+1,by omega,by go_num,by rw[HT.out,HE.out,HZ.out]; rfl,(hb.alloc hsz _).trans (hb1.mono (by simp; omega))⟩
        case measure=>simp[intOf]; omega
       ·have ai:(Ah [l[k]]==0)=false:=by simpa using af
        have HZ:Hid (Ah [l[k]]=Ah [(⟨s,l⟩:Tm)]):=by
         have h1:Ah (l.take (k+1))=Ah [l[k]]:=by rw[HT.out,HE.out]; rfl
         unfold Hid
         rw[hz.out,Ui (l:=l) (k:=k+1) (by rw[h1]; exact af),h1]
        go_wp2_with fail
        go_ret
        exact⟨BG HZ.out,((Gg hb).alloc (by omega) _).trans (hb1.mono (by simp; omega))⟩
      ·have aj:l.take k=l:=AW (by omega)
       have HZ:Hid (0=Ah [(⟨s,l⟩:Tm)]):=by unfold Hid; rw[hz.out,<-aj,HE.out]
       go_wp2_with fail
       go_ret
       exact⟨BG HZ.out,Gg hb⟩
def Ay (t:Tm):Int:=if 200<Ab [t] then 3 else Ah [t]
theorem J0 (t:Tm) (v:Value) (w:World) (X:Nat->Prop) (hv:TV w X v t):
  Calls Tryz.prog 74 #[v] w λe w'=>e=.returned (.int .i64 (Ay t))/\Below w.heap.size w w':=by
 obtain⟨a,c,rfl,hs⟩:=hv
 have hv:TV w X (.agg #[.string t.name,.slice a t.args.length c]) t:=⟨a,c,rfl,hs⟩
 go_enter Tryz.func74,Tryz.ntmps74
 go_wp2_with fail
 refine(Ii 200 (by omega) (by omega) t _ _ X (hv.alloc _)).mono ?_
 rintro e w1 ⟨rfl,hb1⟩
 have c0:w1.cell? ⟨w.heap.size,0,none⟩=some (.string t.name):=by rw[hb1.cell (p:=⟨_,_,none⟩) (by simp)]; simp
 have c1:w1.cell? ⟨w.heap.size,1,none⟩=some (.slice a t.args.length c):=by rw[hb1.cell (p:=⟨_,_,none⟩) (by simp)]; simp
 have hb2:Below w.heap.size w w1:=((Af _ _).alloc (Aj _) _).trans (hb1.mono (by simp))
 by_cases h:200<Ab [t]
 ·have hm:Hid (3=Ay t):=by simp[Hid,Ay,h]
  have e:min (Ab [t]:Int) (200+1)=201:=by omega
  rw[e]
  go_wp2_with fail
  go_ret
  exact⟨BG hm.out,hb2⟩
 ·have hm:Hid (Ah [t]=Ay t):=by simp[Hid,Ay,h]
  have e:min (Ab [t]:Int) (200+1)=Ab [t]:=by omega
  rw[e]
  go_wp2_with fail
  refine(Uj t _ _ X (hv.later hb2)).mono ?_
  rintro e w2 ⟨rfl,hb3⟩
  go_wp2_with fail
  go_ret
  exact⟨BG hm.out,hb2.trans (hb3.mono hb2.size)⟩
def BJ (w:World) (X:Nat->Prop):List Tm->List Value->Prop
 | [],xs=>xs=[]
 |t::l,xs=>∃a c r,xs=.string t.name::.slice a t.args.length c::r/\Sl w X a t.args/\BJ w X l r
theorem BJ.len {w:World} {X:Nat->Prop}:∀ {l:List Tm} {xs:List Value},BJ w X l xs->xs.length=l.length*2
 | [],xs,h=>by simp[BJ] at h; simp[h]
 |t::l,xs,h=>by
  obtain⟨a,c,r,rfl,_,h⟩:=h
  simp only[Bs]
  rw[BJ.len h]; omega
theorem BJ.append {w:World} {X:Nat->Prop}:∀ {l k:List Tm} {xs ys:List Value},BJ w X l xs->BJ w X k ys->BJ w X (l++k) (xs++ys)
 | [],k,xs,ys,h,h'=>by simp[BJ] at h; subst h; simpa using h'
 |t::l,k,xs,ys,h,h'=>by
  obtain⟨a,c,r,rfl,hs,h⟩:=h
  exact⟨a,c,r++ys,rfl,hs,BJ.append h h'⟩
theorem BJ.one {w:World} {X:Nat->Prop}:∀ {l:List Tm} {xs:List Value},BJ w X l xs->∀u∈xs,u.oneCell'=true
 | [],xs,h,u,hu=>by simp[BJ] at h; subst h; cases hu
 |t::l,xs,h,u,hu=>by
  obtain⟨a,c,r,rfl,_,h⟩:=h
  rcases BE.1 hu with e|hu
  ·subst e; rfl
  ·rcases BE.1 hu with e|hu
   ·subst e; rfl
   ·exact BJ.one h u hu
theorem BJ.imp {w w':World} {X Y:Nat->Prop} (hs:∀a l,Sl w X a l->Sl w' Y a l):∀ {l:List Tm} {xs:List Value},BJ w X l xs->BJ w' Y l xs
 | [],xs,h=>h
 |t::l,xs,h=>by
  obtain⟨a,c,r,e,h1,h⟩:=h
  exact⟨a,c,r,e,hs _ _ h1,BJ.imp hs h⟩
theorem BJ.get {w:World} {X:Nat->Prop}:∀ {l:List Tm} {xs:List Value},BJ w X l xs->∀i (h:i<l.length),
  xs[i*2]? = some (.string l[i].name)/\∃a c,xs[i*2+1]? = some (.slice a l[i].args.length c)/\Sl w X a l[i].args
 | [],xs,h,i,hi=>by simp at hi
 |t::l,xs,h,i,hi=>by
  obtain⟨a,c,r,rfl,h1,h⟩:=h
  cases i with
  |zero=>exact⟨rfl,a,c,rfl,h1⟩
  |succ i=>
   have:=BJ.get h i (by simpa using hi)
   rw[show(i+1)*2=i*2+2 by omega,show i*2+2+1=(i*2+1)+2 by omega]
   simpa using this
theorem Ez (l:List Tm):l.length<=Ab l:=by
 induction l with
 |nil=>simp
 |cons t r ih=>obtain⟨s,k⟩:=t; simp only[Bs,Ab]; omega
theorem Uk {w:World} {X:Nat->Prop}:∀(l:List Tm) (b o:Nat),C3 w X b o l->∃xs,BJ w X l xs/\∀j u,xs[j]? = some u->w.cell? ⟨b,o+j,none⟩=some u:=by
 intro l
 induction l with
 |nil=>intro b o _; exact⟨[],rfl,by simp⟩
 |cons t r ih=>
  intro b o h
  obtain⟨s,k⟩:=t
  simp only[C3] at h
  obtain⟨hx,h1,⟨a,c,h2,h3,h4⟩,h5⟩:=h
  obtain⟨xs,hr,hc⟩:=ih b (o+2) h5
  refine⟨.string s::.slice a k.length c::xs,⟨a,c,xs,rfl,⟨h3,h4⟩,hr⟩,λj u hj=>?_⟩
  match j,hj with
  |0,hj=>simp at hj; subst hj; exact h1
  |1,hj=>simp at hj; subst hj; exact h2
  |j+2,hj=>rw[show o+(j+2)=o+2+j by omega]; exact hc j u (by simpa using hj)
theorem NI {w w':World} {X Y:Nat->Prop} (b:Nat) (hb:Y b):∀(l:List Tm) (xs:List Value) (o:Nat),BJ w X l xs->(∀a k,Sl w X a k->Sl w' Y a k)->(∀j u,xs[j]? = some u->w'.cell? ⟨b,o+j,none⟩=some u)->C3 w' Y b o l:=by
 intro l
 induction l with
 |nil=>intro xs o _ _ _; simp[C3]
 |cons t r ih=>
  intro xs o h hs hc
  obtain⟨s,k⟩:=t
  obtain⟨a,c,r',rfl,h1,h2⟩:=h
  simp only[C3]
  obtain⟨h3,h4⟩:=hs _ _ h1
  refine⟨hb,hc 0 _ rfl,⟨a,c,hc 1 _ rfl,h3,h4⟩,ih r' (o+2) h2 hs λj u hj=>?_⟩
  have:=hc (j+2) u (by simpa using hj)
  rwa [show o+(j+2)=o+2+j by omega] at this
def Ao:List Tm->List Tm
 | []=>[]
 | ⟨s,l⟩::r=>⟨s,l⟩::(Ao l++Ao r)
theorem Ij (a b:List Tm):Ao (a++b)=Ao a++Ao b:=by
 induction a with
 |nil=>simp[Ao]
 |cons t r ih=>obtain⟨s,l⟩:=t; simp[Ao,ih]
theorem Jb (l:List Tm) (k:Nat) (h:k<l.length):Ao (l.take (k+1))=Ao (l.take k)++Ao [l[k]]:=by
 rw[Bm h,Ij]
theorem Gh (l:List Tm):(Ao l).length=Ab l:=by
 induction l using Tm.indL with
 |h0=>simp[Ao,Ab]
 |h s l r aa ae=>simp[Ao,Ab,aa,ae]; omega
theorem Sl.back {w w':World} {X:Nat->Prop} {a:Option Addr} {l:List Tm} {B:Nat} (h:Sl w' X a l) (hb:Below B w w') (hX:∀b,X b->b<B):Sl w X a l:=
 h.kept λb hx=>(hb.block b (hX b hx)).symm
theorem EA {w:World} {base e size:Nat} {v:Value} {n:Nat} {xs:List Value} (h:w.ownsRow base e size v n xs) (hn:0<n):
  ∃g cap,v=.slice (some ⟨g,0,none⟩) n cap/\base<=g/\g<w.heap.size/\∀j u,xs[j]? = some u->w.cell? ⟨g,j,none⟩=some u:=by
 have h':=h
 obtain⟨hl,h1⟩:=h
 rcases h1 with ⟨_,h0⟩|⟨g,cap,cur,hv,hg,hh,_⟩
 ·omega
 ·subst hv
  have hlt:=(h'.lt g rfl).2
  refine⟨g,cap,rfl,hg,hlt,λj u hj=>?_⟩
  have:=h'.cells (g:=g) rfl j u hj
  by_cases h0:j=0
  ·subst h0; simpa [Addr.add] using this
  ·simpa [Addr.add,h0] using this
theorem D1 {P:Program} {ops:Array Oper} {rest:List Oper} {o:Oper} {a:Act} {Q:Exit->Act->World->Prop} {w w':World} {v u v':Value} (hgd:o.guard=none) (s x:Operand) (t t':TypeId)
  (ho:o.op=.call { callee:=.builtin .append,args:=#[s,x],argTypes:=#[t,t']}) (hs:a.eval s=v) (hx:a.eval x=u)
  (hr:(Builtin.append_ #[t,t'] o.type #[v,u]).run P w=.ok v' w') (h:wpList P ops Q rest (a.put o.dst v') w'):wpList P ops Q (o::rest) a w:=
 wpList_plain hgd λK hK=>by
  unfold Oper.wp execOp
  simp only[ho,resolve,invoke,builtin,Sem.run_bind,Sem.run_pure,Result.andThen_ok,List.map_toArray,BP,G9,hs,hx,hr]
  exact hK _ _ h
theorem Tryz.infoTerm:(Tryz.prog.info? 29).map (λi=>(i.zero,i.size,i.bytes))=some (some (.agg #[.string ByteArray.empty,.slice none 0 0]),2,40):=by kernel_rfl
theorem Ul {w:World} {base base' e size:Nat} {v:Value} {n:Nat} {xs:List Value} (h:w.ownsRow base e size v n xs) (hb:base'<=base):w.ownsRow base' e size v n xs:=by
 obtain⟨h0,h1⟩:=h
 refine⟨h0,?_⟩
 rcases h1 with h1|⟨g,cap,cur,hv,hg,r⟩
 ·exact Ad h1
 ·exact Ae ⟨g,cap,cur,hv,AX hb hg,r⟩
theorem LD (t:Tm):∀(v:Value) (w:World) (X:Nat->Prop),TV w X v t->Ab [t]<=1000000->
  Calls Tryz.prog 24 #[v] w λe w'=>∃v' xs,e=.returned v'/\w'.ownsRow w.heap.size 29 2 v' (Ab [t]) xs/\BJ w X (Ao [t]) xs/\Below w.heap.size w w':=by
 induction t using Tm.ind with
 |h s l ih=>
  intro v w X0 hv0 hsm
  obtain⟨X,hX,az,hv⟩:∃X:Nat->Prop,(∀b,X b->b<w.heap.size)/\(∀b,X b->X0 b)/\TV w X v ⟨s,l⟩:=⟨λb=>X0 b/\b<w.heap.size,λ_ h=>h.2,λ_ h=>h.1,hv0.mono λb h1 h2=>⟨h1,h2⟩⟩
  clear hv0
  obtain⟨a,c,rfl,hs⟩:=hv
  have IH:=Aa ih
  clear ih
  have hl:=hs.1
  have hz:Ab [(⟨s,l⟩:Tm)]=1+Ab l:=by simp[Ab]
  rw[hz]at hsm ⊢
  clear hz
  obtain⟨i0,hi,hz0,hz1,hz2⟩:=CT Tryz.infoTerm
  go_enter Tryz.func24,Tryz.ntmps24
  go_wp2_with fail
  go_loopw [3,4] (λv i wr=>∃(k:Nat) (xs:List Value),k<=l.length/\i=.int .i64 k/\wr.ownsRow (w.heap.size+1) 29 2 v (1+Ab (l.take k)) xs/\BJ w X (⟨s,l⟩::Ao (l.take k)) xs/\Below (w.heap.size+1) (w.alloc (Obj.cells #[Value.string s,Value.slice a l.length c] 29)) wr) (λv i wr=>l.length-(intOf i).toNat)
  case atStart=>
   refine⟨0,[.string s,.slice a l.length c],AE _,rfl,⟨by simp[Ab],Ae ⟨w.heap.size+1,1,#[.string s,.slice a l.length c],by simp[Ab],Aj _,?_,by simp[Ab],by decide,by simp,by simp[Ab]⟩⟩,⟨a,c,[],rfl,hs,by simp[Ao,BJ]⟩,(Af _ _).alloc (by simp) _⟩
   have:=EZ (w.alloc (Obj.cells #[Value.string s,Value.slice a l.length c] 29)) (Obj.cells #[Value.string s,Value.slice a l.length c] 29)
   simpa using this
  case round=>
   obtain⟨k,xs,hk,rfl,hown,hrow,hb⟩:=hrel
   have ai:=Aa hrow
   clear hrow
   have hc:=NC hb
   have c0:wr.cell? ⟨w.heap.size,0,none⟩=some (.string s):=by rw[hc.1 _ _ (by omega)]; simp
   have c1:wr.cell? ⟨w.heap.size,1,none⟩=some (.slice a l.length c):=by rw[hc.1 _ _ (by omega)]; simp
   clear hc
   have hsz:w.heap.size+1<=wr.heap.size:=by have:=hb.size; simpa using this
   by_cases hlt:k<l.length
   ·obtain⟨b,o,a',c',rfl,d0,d1,hx⟩:=hs.get (Gg hb) (λ_ _ h=>h) k hlt
    have aw:=Aa (C4 l k hlt)
    have hle:=C5 l (k+1)
    have a6:Ab (l.take k)+Ab [l[k]]<=Ab l:=by rw[<-aw.out]; exact hle
    have au:0<Ab [l[k]]:=by generalize l[k]=t; obtain⟨s',l'⟩:=t; simp[Ab]; omega
    clear hle
    go_wp2_with fail
    refine(IH.out _ (AV hlt) _ _ X hx (by omega)).mono ?_
    rintro e w1 ⟨v1,ys,rfl,hown1,aj,hb1⟩
    have af:Hid (BJ w X (Ao [l[k]]) ys):=aj.imp λa l h=>h.back (Gg hb) hX
    have ak:=Aa hown1.1
    have ah:=Aa (EA hown1 au)
    obtain⟨g1,av,rfl,aA,a7,ao⟩:=ah.out
    have aa:w1.ownsRow (w.heap.size+1) 29 2 _ (1+Ab (l.take k)) xs:=hown.kept (w':=w1) (row:=none) ⟨hb1.os,hb1.tape,hb1.output,hb1.size,λj hj _=>hb1.block j hj⟩ (by rcases F9 (Value.ownBlock _) with h|⟨x,h⟩; exact Ad h; exact Ae (by rw[h]; simp))
    have ax:ys.length=Ab [l[k]]*2:=ak.out
    obtain⟨v2,w2,hr2,ag,aq,ar⟩:=run_append_own (P:=Tryz.prog) w1 (w.heap.size+1) 27 27 29 i0 _ 2 40 Tryz.underlying27 hi hz0 hz1 hz2 rfl (by decide) _ _ xs aa
     ⟨g1,0,none⟩ (Ab [l[k]]) av ys ax (λj u hj=>by
      have:=ao j u hj
      by_cases h0:j=0
      ·subst h0; simpa [Addr.add] using this
      ·simpa [Addr.add,h0] using this) af.out.one (by unfold maxLen; omega) (by omega) (by have:=hb1.size; omega)
    clear ar
    have hb2:Hid (Below (w.heap.size+1) (w.alloc (Obj.cells #[Value.string s,Value.slice (some ⟨b,o,none⟩) l.length c] 29)) w2):=
     (hb.trans (hb1.mono hsz)).grown aq (by have:=hb1.size; omega) (λj hj=>(aa.lt j hj).1)
    have a8:Hid (BJ w X (⟨s,l⟩::Ao (l.take (k+1))) (xs++ys)):=by
     have:=ai.out.append af.out
     unfold Hid
     rw[Jb l k hlt]
     simpa using this
    have ae:=Aa ag
    clear hown1 aa ag aq ao ax
    have HA:=Aa hr2
    clear hr2
    go_wp2_with (at_builtin; refine D1 rfl _ _ _ _ rfl rfl rfl HA.out ?_)
    go_roundw
    case rel=>exact⟨k+1,xs++ys,by omega,by go_num,by have:=ae.out; rw[aw.out,<-I5]; exact this,a8.out,hb2.out⟩
    case measure=>simp[intOf]; omega
   ·have ay:l.take k=l:=AW (by omega)
    rw[ay]at hown
    have ae:=Aa hown
    have hr3:Hid (BJ w X0 (Ao [(⟨s,l⟩:Tm)]) xs):=by
     have:=ai.out
     rw[ay]at this
     have h2:BJ w X0 (⟨s,l⟩::Ao l) xs:=this.imp λa l h=>h.mono λb hb _=>az b hb
     unfold Hid
     simpa [Ao] using h2
    clear hown
    go_wp2_with fail
    go_ret
    exact⟨_,xs,rfl,Ul ae.out (by omega),hr3.out,Gg hb⟩
def Ek (t:Tm):Int:=if Be t.name=true then (if (Ak t.name&&decide (0<t.args.length))=true then 2 else 0) else 1
def De:List Tm->Int
 | []=>0
 |t::r=>if Ek t=0 then De r else Ek t
theorem LE (a b:List Tm):De (a++b)=if De a=0 then De b else De a:=by
 induction a with
 |nil=>simp[De]
 |cons t r ih=>simp only[Cf,De,ih]; by_cases h:Ek t=0<;>simp[h]
theorem Um (l:List Tm):Ah l=De (Ao l):=by
 induction l using Tm.indL with
 |h0=>simp[Ah,Ao,De]
 |h s l r aa ae=>
  simp only[Ah,Ao,De,LE,<-aa,<-ae,Ek]
  by_cases h1:Be s=true
  ·by_cases h2:(Ak s&&decide (0<l.length))=true
   ·simp only[h1,h2,if_true]; simp
   ·simp only[h1,if_true]; rw[An h2,An h2]; simp
  ·rw[An h1,An h1]; simp
theorem LF (l:List Tm) (k:Nat) (h:k<l.length):De (l.take (k+1))=if De (l.take k)=0 then Ek l[k] else De (l.take k):=by
 rw[Bm h,LE]
 congr 1
 simp only[De]
 by_cases h:Ek l[k]=0<;>simp[h]
theorem Un {l:List Tm} {k:Nat} (h:De (l.take k)≠0):De l=De (l.take k):=by
 have:=LE (l.take k) (l.drop k)
 rw[Eu,An h]at this
 exact this
theorem NJ {l:List Tm} {k:Nat} (h:k<l.length) (h0:De (l.take k)=0) (h1:Ek l[k]≠0):De l=Ek l[k]:=by
 have e:=LF l k h
 rw[As h0]at e
 rw[<-e]
 exact Un (by rw[e]; exact h1)
theorem NK (t:Tm) (v:Value) (w:World) (X:Nat->Prop) (hv:TV w X v t):
  Calls Tryz.prog 23 #[v] w λe w'=>e=.returned (.int .i64 (Ay t))/\Below w.heap.size w w':=by
 obtain⟨a,c,rfl,hs⟩:=hv
 have hv:TV w X (.agg #[.string t.name,.slice a t.args.length c]) t:=⟨a,c,rfl,hs⟩
 go_enter Tryz.func23,Tryz.ntmps23
 go_wp2_with fail
 refine(Ie t _ _ _ X (hv.alloc _) (by omega) (by omega)).mono ?_
 rintro e w1 ⟨rfl,hb1⟩
 have c0:w1.cell? ⟨w.heap.size,0,none⟩=some (.string t.name):=by rw[hb1.cell (p:=⟨_,_,none⟩) (by simp)]; simp
 have c1:w1.cell? ⟨w.heap.size,1,none⟩=some (.slice a t.args.length c):=by rw[hb1.cell (p:=⟨_,_,none⟩) (by simp)]; simp
 have hb2:Below w.heap.size w w1:=((Af _ _).alloc (Aj _) _).trans (hb1.mono (by simp))
 by_cases h:200<Ab [t]
 ·have hm:Hid (3=Ay t):=by simp[Hid,Ay,h]
  have e:min ((Ab [t]:Int)) (200+1)=201:=by omega
  rw[e]
  go_wp2_with fail
  go_ret
  exact⟨BG hm.out,hb2⟩
 ·have hm:Hid (De (Ao [t])=Ay t):=by simp[Hid,Ay,h,Um]
  have e:min ((Ab [t]:Int)) (200+1)=Ab [t]:=by omega
  rw[e]
  go_wp2_with fail
  refine(LD t _ _ X (hv.later hb2) (by omega)).mono ?_
  rintro e w2 ⟨v2,xs,rfl,hown,hrow,hb3⟩
  have aa:0<Ab [t]:=by obtain⟨s',l'⟩:=t; simp[Ab]; omega
  obtain⟨g,cap,rfl,hg,ak,ae⟩:=EA hown aa
  have hb4:=Aa (hb2.trans (hb3.mono hb2.size))
  have ag:=Aa hrow
  have af:=Aa ae
  have ah:=Gh [t]
  generalize Ao [t]=ks at *
  have ao:ks.length<=1000:=by omega
  rw[<-ah]
  clear hown hrow ae hb3 hb1 c0 c1 ah aa e
  go_wp2_with fail
  go_loop [4] (λi=>∃k:Nat,k<=ks.length/\i=.int .i64 k/\De (ks.take k)=0) (λi=>ks.length-(intOf i).toNat)
  case atStart=>exact⟨0,AE _,rfl,by simp[De]⟩
  case round=>
   obtain⟨k,hk,rfl,he⟩:=hrel
   have HE:=Aa he
   clear he
   by_cases hlt:k<ks.length
   ·obtain⟨x0,a',c',x1,ai⟩:=ag.out.get k hlt
    have d0:=af.out _ _ x0
    have d1:=af.out _ _ x1
    have aq:=ai.1
    clear x0 x1
    cases hn:Be ks[k].name with
    |false=>
     have HN:=Aa hn
     have hz:Hid (1=Ay t):=by
      have:Ek ks[k]=1:=by simp[Ek,hn]
      unfold Hid; rw[<-hm.out,NJ hlt HE.out (by rw[this]; decide),this]
     clear hn
     go_wp2_with (go_at_call 41; refine(JZ _ _).mono ?_; rintro e w' ⟨rfl,rfl⟩; rw[HN.out])
     go_ret
     exact⟨BG hz.out,hb4.out⟩
    |true=>
     have HN:=Aa hn
     cases hv:Ak ks[k].name with
     |true=>
      have HV:=Aa hv
      by_cases hp:0<ks[k].args.length
      ·have hz:Hid (2=Ay t):=by
        have:Ek ks[k]=2:=by simp[Ek,hn,hv,hp]
        unfold Hid; rw[<-hm.out,NJ hlt HE.out (by rw[this]; decide),this]
       clear hn hv
       go_wp2_with (first|(go_at_call 41; refine(JZ _ _).mono ?_; rintro e w' ⟨rfl,rfl⟩; rw[HN.out])|(go_at_call 14; refine(Du _ _).mono ?_; rintro e w' ⟨rfl,rfl⟩; rw[HV.out]))
       go_ret
       exact⟨BG hz.out,hb4.out⟩
      ·have hz:Hid (De (ks.take (k+1))=0):=by
        have:Ek ks[k]=0:=by simp[Ek,hn,hv,hp]
        unfold Hid; rw[LF _ _ hlt,HE.out,this]; rfl
       clear hn hv
       go_wp2_with (first|(go_at_call 41; refine(JZ _ _).mono ?_; rintro e w' ⟨rfl,rfl⟩; rw[HN.out])|(go_at_call 14; refine(Du _ _).mono ?_; rintro e w' ⟨rfl,rfl⟩; rw[HV.out]))
       go_round
       case rel=>exact⟨k+1,by omega,by go_num,hz.out⟩
       case measure=>simp[intOf]; omega
     |false=>
      have HV:=Aa hv
      have hz:Hid (De (ks.take (k+1))=0):=by
       have:Ek ks[k]=0:=by simp[Ek,hn,hv]
       unfold Hid; rw[LF _ _ hlt,HE.out,this]; rfl
      clear hn hv
      go_wp2_with (first|(go_at_call 41; refine(JZ _ _).mono ?_; rintro e w' ⟨rfl,rfl⟩; rw[HN.out])|(go_at_call 14; refine(Du _ _).mono ?_; rintro e w' ⟨rfl,rfl⟩; rw[HV.out]))
      go_round
      case rel=>exact⟨k+1,by omega,by go_num,hz.out⟩
      case measure=>simp[intOf]; omega
   ·have aj:ks.take k=ks:=AW (by omega)
    have hz:Hid (0=Ay t):=by unfold Hid; rw[<-hm.out,<-aj,HE.out]
    go_wp2_with fail
    go_ret
    exact⟨BG hz.out,hb4.out⟩
def CA (t x:Tm):Int:=if Ay t=0 then Ay x else Ay t
theorem Uo (t x:Tm) (v u:Value) (w:World) (X:Nat->Prop) (hv:TV w X v t) (hu:TV w X u x):
  Calls Tryz.prog 13 #[v,u] w λe w'=>e=.returned (.int .i64 (CA t x))/\Below w.heap.size w w':=by
 obtain⟨a,c,rfl,hs⟩:=hv
 obtain⟨a2,c2,rfl,hs2⟩:=hu
 have hv:TV w X (.agg #[.string t.name,.slice a t.args.length c]) t:=⟨a,c,rfl,hs⟩
 have hu:TV w X (.agg #[.string x.name,.slice a2 x.args.length c2]) x:=⟨a2,c2,rfl,hs2⟩
 go_enter Tryz.func13,Tryz.ntmps13
 go_wp2_with fail
 refine(NK t _ _ X ((hv.alloc _).alloc _)).mono ?_
 rintro e w1 ⟨rfl,hb1⟩
 have c0:w1.cell? ⟨w.heap.size+1,0,none⟩=some (.string x.name):=by rw[hb1.cell (p:=⟨_,_,none⟩) (by simp)]; simp
 have c1:w1.cell? ⟨w.heap.size+1,1,none⟩=some (.slice a2 x.args.length c2):=by rw[hb1.cell (p:=⟨_,_,none⟩) (by simp)]; simp
 have hb2:Below w.heap.size w w1:=(((Af _ _).alloc (Aj _) _).alloc (by simp) _).trans (hb1.mono (by simp; omega))
 by_cases h:Ay t=0
 ·have hz:Hid (Ay x=CA t x):=by simp[Hid,CA,h]
  rw[h]
  clear h
  go_wp2_with fail
  refine(NK x _ _ X (hu.later hb2)).mono ?_
  rintro e w2 ⟨rfl,hb3⟩
  go_wp2_with fail
  go_ret
  exact⟨BG hz.out,hb2.trans (hb3.mono hb2.size)⟩
 ·have hz:Hid (Ay t=CA t x):=by simp[Hid,CA,h]
  have h':(Ay t==0)=false:=by simpa using h
  clear h
  go_wp2_with fail
  go_ret
  exact⟨BG hz.out,hb2⟩
theorem NL (t:Tm) (v:Value) (w:World) (X:Nat->Prop) (hv:TV w X v t):
  Calls Tryz.prog 12 #[v] w λe w'=>e=.returned (.bool (decide (3000<Ab [t])))/\Below w.heap.size w w':=by
 obtain⟨a,c,rfl,hs⟩:=hv
 have hv:TV w X (.agg #[.string t.name,.slice a t.args.length c]) t:=⟨a,c,rfl,hs⟩
 go_enter Tryz.func12,Tryz.ntmps12
 go_wp2_with fail
 refine(Ie t _ _ _ X (hv.alloc _) (by omega) (by omega)).mono ?_
 rintro e w1 ⟨rfl,hb1⟩
 have hb2:Below w.heap.size w w1:=((Af _ _).alloc (Aj _) _).trans (hb1.mono (by simp))
 go_wp2_with fail
 go_ret
 exact⟨BH (by rw[Fs]; simp; omega),hb2⟩
structure Pr where
 l:Tm
 r:Tm
def QV (w:World) (X:Nat->Prop) (v:Value) (l:List Pr):Prop:=
 ∃a c,v=.slice a l.length c/\(l.length<=9223372036854775807/\l.length<=c)/\(l=[]∨∃b o,a=some ⟨b,o,none⟩/\X b/\∀i (h:i<l.length),∃a1 c1 a2 c2,w.cell? ⟨b,o+i*4,none⟩=some (.string l[i].l.name)/\w.cell? ⟨b,o+i*4+1,none⟩=some (.slice a1 l[i].l.args.length c1)/\w.cell? ⟨b,o+i*4+2,none⟩=some (.string l[i].r.name)/\w.cell? ⟨b,o+i*4+3,none⟩=some (.slice a2 l[i].r.args.length c2)/\Sl w X a1 l[i].l.args/\Sl w X a2 l[i].r.args)
theorem QV.kept {w w':World} {X:Nat->Prop} {v:Value} {l:List Pr} (h:QV w X v l) (hk:∀b,X b->w'.heap[b]? = w.heap[b]?):QV w' X v l:=by
 obtain⟨a,c,e,hl,h⟩:=h
 refine⟨a,c,e,hl,?_⟩
 rcases h with h|⟨b,o,ea,hX,h⟩
 ·exact Ad h
 ·refine Ae ⟨b,o,ea,hX,λi hi=>?_⟩
  obtain⟨a1,c1,a2,c2,h1,h2,h3,h4,h5,h6⟩:=h i hi
  have hb:=hk b hX
  exact⟨a1,c1,a2,c2,by simpa [World.cell?,hb] using h1,by simpa [World.cell?,hb] using h2,by simpa [World.cell?,hb] using h3,by simpa [World.cell?,hb] using h4,h5.kept hk,h6.kept hk⟩
theorem QV.mono {w:World} {X Y:Nat->Prop} {v:Value} {l:List Pr} (h:QV w X v l) (hk:∀b,X b->b<w.heap.size->Y b):QV w Y v l:=by
 obtain⟨a,c,e,hl,h⟩:=h
 refine⟨a,c,e,hl,?_⟩
 rcases h with h|⟨b,o,ea,hX,h⟩
 ·exact Ad h
 ·by_cases h0:l=[]
  ·exact Ad h0
  ·have hp:0<l.length:=Fb.2 h0
   obtain⟨_,_,_,_,g,_⟩:=h 0 hp
   refine Ae ⟨b,o,ea,hk b hX (D9 g),λi hi=>?_⟩
   obtain⟨a1,c1,a2,c2,h1,h2,h3,h4,h5,h6⟩:=h i hi
   exact⟨a1,c1,a2,c2,h1,h2,h3,h4,h5.mono hk,h6.mono hk⟩
theorem QV.later {w w':World} {X:Nat->Prop} {v:Value} {l:List Pr} (h:QV w X v l) (hb:Below w.heap.size w w'):QV w' X v l:=
 ((h.mono (Y:=λb=>X b/\b<w.heap.size) λb h1 h2=>⟨h1,h2⟩).kept λb hx=>hb.block b hx.2).mono λb hx _=>hx.1
theorem QV.alloc {w:World} {X:Nat->Prop} {v:Value} {l:List Pr} (h:QV w X v l) (o:Obj):QV (w.alloc o) X v l:=h.later ((Af _ _).alloc (Aj _) o)
theorem QV.get {w:World} {X:Nat->Prop} {a:Option Addr} {n c:Nat} {l:List Pr} (h:QV w X (.slice a n c) l) (i:Nat) (hi:i<l.length):
  ∃b o a1 c1 a2 c2,a=some ⟨b,o,none⟩/\w.cell? ⟨b,o+i*4,none⟩=some (.string l[i].l.name)/\w.cell? ⟨b,o+i*4+1,none⟩=some (.slice a1 l[i].l.args.length c1)/\w.cell? ⟨b,o+i*4+2,none⟩=some (.string l[i].r.name)/\w.cell? ⟨b,o+i*4+3,none⟩=some (.slice a2 l[i].r.args.length c2)/\Sl w X a1 l[i].l.args/\Sl w X a2 l[i].r.args:=by
 obtain⟨a2,c2,e,hl,h⟩:=h
 simp at e
 obtain⟨rfl,rfl,rfl⟩:=e
 rcases h with h|⟨b,o,ea,hX,h⟩
 ·subst h; simp at hi
 ·obtain⟨a1,c1,a2,c2,h1,h2,h3,h4,h5,h6⟩:=h i hi
  exact⟨b,o,a1,c1,a2,c2,ea,h1,h2,h3,h4,h5,h6⟩
def El (ls:List Pr):Nat->Int
 |0=>0
 |k+1=>if El ls k=0 then (match ls[k]? with|some p=>CA p.l p.r|none=>0) else El ls k
def Ck (ls:List Pr):Int:=if 40<ls.length then 3 else El ls ls.length
theorem LG {ls:List Pr} {k:Nat} (h:El ls k≠0):∀n,k<=n->El ls n=El ls k
 |0,hn=>by
  have:k=0:=by omega
  subst this; rfl
 |n+1,hn=>by
  by_cases e:k=n+1
  ·subst e; rfl
  ·have ih:=LG h n (by omega)
   rw[El,An (by rw[ih]; exact h)]
   exact ih
theorem LH {ls:List Pr} {k:Nat} (hk:k<ls.length) (h0:El ls k=0):El ls (k+1)=CA ls[k].l ls[k].r:=by rw[El,As h0,Ha hk]
theorem Up {ls:List Pr} {k:Nat} (hk:k<ls.length) (aa:¬40<ls.length) (h0:El ls k=0) (hne:CA ls[k].l ls[k].r≠0):Ck ls=CA ls[k].l ls[k].r:=by
 unfold Ck
 rw[An aa]
 have h1:=LH hk h0
 rw[<-h1]
 exact LG (by rw[h1]; exact hne) _ (by omega)
theorem NN {ls:List Pr} (h:Ck ls=0):ls.length<=40:=by
 unfold Ck at h
 split at h
 ·cases h
 ·omega
theorem Uq {ls:List Pr} (h:Ck ls=0):∀p∈ls,Ay p.l=0/\Ay p.r=0:=by
 intro p hp
 obtain⟨k,hk,rfl⟩:=Hb hp
 have aa:=NN h
 unfold Ck at h
 rw[An (by omega)]at h
 have h0:∀n,n<=ls.length->El ls n=0:=λn hn=>by
  by_cases e:El ls n=0
  ·exact e
  ·have:=LG e _ hn
   rw[this]at h
   exact absurd h e
 have h1:=LH hk (h0 k (by omega))
 rw[h0 (k+1) (by omega)]at h1
 have h2:=h1.symm
 unfold CA at h2
 by_cases e:Ay ls[k].l=0
 ·rw[As e]at h2; exact⟨e,h2⟩
 ·rw[An e]at h2; exact absurd h2 e
def ER (l:List Bd) (s:ByteArray) (es0 bs:List Tm):Tm:=
 match Ar l s with
 |some x=>if es0.isEmpty=true then x else ⟨s,bs⟩
 |none=>⟨s,bs⟩
def Am (l:List Bd):List Tm->List Tm
 | []=>[]
 | ⟨s,es0⟩::r=>ER l s es0 (Am l es0)::Am l r
def Ag (l:List Bd) (t:Tm):Tm:=ER l t.name t.args (Am l t.args)
theorem Ba (l:List Bd) (t:Tm) (r:List Tm):Am l (t::r)=Ag l t::Am l r:=by
 obtain⟨s,aa⟩:=t
 simp only[Am,Ag]
theorem J1 (l:List Bd):∀aa,(Am l aa).length=aa.length
 | []=>by simp[Am]
 |t::r=>by rw[Ba]; simp[J1 l r]
theorem Hk (l:List Bd) (b:List Tm):∀a,Am l (a++b)=Am l a++Am l b
 | []=>by simp[Am]
 |t::r=>by rw[Cf,Ba,Ba,Hk l b r]; rfl
theorem GL (l:List Bd) (aa:List Tm) (k:Nat) (h:k<aa.length):Am l (aa.take (k+1))=Am l (aa.take k)++[Ag l aa[k]]:=by
 rw[Bm h,Hk,Ba]
 simp[Am]
theorem Ik {l:List Bd} {s:ByteArray} {x:Tm} (h:Ar l s=some x):Ag l ⟨s,[]⟩=x:=by simp[Ag,ER,h]
theorem Fv {l:List Bd} {s:ByteArray} {aa:List Tm} (h:aa≠[]∨Ar l s=none):Ag l ⟨s,aa⟩=⟨s,Am l aa⟩:=by
 unfold Ag ER
 rcases h with h|h
 ·cases Ar l s with
  |none=>rfl
  |some x=>simp[h]
 ·rw[h]
theorem NO (l:List Bd) (aa:List Tm) (k:Nat) (h:k<aa.length):Ab (Am l (aa.take (k+1)))=Ab (Am l (aa.take k))+Ab [Ag l aa[k]]:=by rw[GL l aa k h,D8]
theorem NP (l:List Bd) (aa:List Tm) (k:Nat):Ab (Am l (aa.take k))<=Ab (Am l aa):=by
 have:=D8 (Am l (aa.take k)) (Am l (aa.drop k))
 rw[<-Hk,Eu]at this
 omega
def Ac (w:World) (b:Nat) (cs:Array Value) (T:Nat):Prop:=w.heap[b]? = some (.cells cs T (0,0))
theorem Ac.lt {w:World} {b:Nat} {cs:Array Value} {T:Nat} (h:Ac w b cs T):b<w.heap.size:=by
 apply G7
 intro hn
 have e:w.heap[b]? = none:=I2 (by omega)
 rw[Ac,e]at h; cases h
theorem Ac.cell {w:World} {b:Nat} {cs:Array Value} {T:Nat} (h:Ac w b cs T) (i:Nat):w.cell? ⟨b,i,none⟩=cs[i]? := by
 unfold Ac at h; simp[World.cell?,h]
theorem Ac.c0 {w:World} {b:Nat} {v:Value} {l:List Value} {T:Nat} (h:Ac w b (List.toArray (v::l)) T):w.cell? ⟨b,0,none⟩=some v:=h.cell 0
theorem Ac.c1 {w:World} {b:Nat} {v0 v:Value} {l:List Value} {T:Nat} (h:Ac w b (List.toArray (v0::v::l)) T):w.cell? ⟨b,1,none⟩=some v:=h.cell 1
theorem Ac.c2 {w:World} {b:Nat} {v0 v1 v:Value} {l:List Value} {T:Nat} (h:Ac w b (List.toArray (v0::v1::v::l)) T):w.cell? ⟨b,2,none⟩=some v:=h.cell 2
theorem Ac.c3 {w:World} {b:Nat} {v0 v1 v2 v:Value} {l:List Value} {T:Nat} (h:Ac w b (List.toArray (v0::v1::v2::v::l)) T):w.cell? ⟨b,3,none⟩=some v:=h.cell 3
theorem Ac.frozen {w:World} {b:Nat} {cs:Array Value} {T:Nat} (h:Ac w b cs T) (i:Nat):w.frozen? ⟨b,i,none⟩=false:=by
 unfold Ac at h; simp[World.frozen?,h]
theorem Ac.new (w:World) (cs:Array Value) (T:Nat):Ac (w.alloc (.cells cs T)) w.heap.size cs T:=EZ w _
theorem Ac.alloc {w:World} {b:Nat} {cs:Array Value} {T:Nat} (h:Ac w b cs T) (o:Obj):Ac (w.alloc o) b cs T:=by
 unfold Ac at *; rw[AP w o b (Ac.lt h)]; exact h
theorem Ac.below {w w':World} {b B:Nat} {cs:Array Value} {T:Nat} (h:Ac w b cs T) (hb:Below B w w') (hB:b<B):Ac w' b cs T:=by
 unfold Ac at *; rw[hb.block b hB]; exact h
theorem Ac.drewN {w:World} {b:Nat} {cs:Array Value} {T:Nat} (h:Ac w b cs T) (n:Nat):Ac (w.drewN n) b cs T:=h
theorem Ac.grown {w w':World} {b:Nat} {cs:Array Value} {T:Nat} {row:Option Nat} (h:Ac w b cs T) (hg:w.grownBy w' row) (hr:some b≠row):Ac w' b cs T:=by
 unfold Ac at *; rw[hg.block b (Ac.lt h) hr]; exact h
theorem Ac.set {w:World} {b:Nat} {cs:Array Value} {T:Nat} (h:Ac w b cs T) (i:Nat) (v:Value):Ac (w.setCell ⟨b,i,none⟩ v) b (cs.setIfInBounds i v) T:=by
 unfold Ac at *
 simp[World.setCell,Array.getElem?_modify,h]
theorem Ac.setOther {w:World} {b b':Nat} {cs:Array Value} {T:Nat} (h:Ac w b cs T) (i:Nat) (v:Value) (hne:b≠b'):Ac (w.setCell ⟨b',i,none⟩ v) b cs T:=by
 unfold Ac at *; rw[Aq _ _ _ _ (by simpa using hne)]; exact h
structure AN (w:World) (N:Nat) (T:Nat) (Y:Nat->Prop) (v:Value) (l:List Tm) (xs:List Value):Prop where
 own:w.ownsRow N T 2 v l.length xs
 row:BJ w (λb=>Y b∨(N<=b/\some b≠v.ownBlock)) l xs
theorem AN.start (w:World) (N T:Nat) (Y:Nat->Prop):AN w N T Y (.slice none 0 0) [] []:=⟨Ga w N T 2,rfl⟩
theorem AN.below {w w':World} {N T:Nat} {Y:Nat->Prop} {v:Value} {l:List Tm} {xs:List Value} (h:AN w N T Y v l xs) (hb:Below w.heap.size w w'):AN w' N T Y v l xs:=
 ⟨h.own.kept (w' := w') (row := none) ⟨hb.os, hb.tape, hb.output, hb.size, λj hj _ => hb.block j hj⟩ (by rcases F9 (Value.ownBlock v) with h | ⟨x, h⟩; exact Ad h; exact Ae (by rw [h]; simp)),
  h.row.imp λa l h=>h.later hb⟩
theorem AN.ne {w:World} {N T:Nat} {Y:Nat->Prop} {v:Value} {l:List Tm} {xs:List Value} (h:AN w N T Y v l xs) {b:Nat} (hb:b<N):some b≠v.ownBlock:=λe=>by
 have:=(h.own.lt b e.symm).1; omega
theorem AN.push {w w1 w2 w3:World} {N T:Nat} {Y:Nat->Prop} {v:Value} {l:List Tm} {xs:List Value} (h:AN w N T Y v l xs) (hN:N<=w.heap.size) (hY:∀b,Y b->b<N) (hb:Below w.heap.size w w1) {s:ByteArray} {a:Option Addr} {n c:Nat} {t:Tm}
  (ht:TV w1 (λb=>Y b∨w.heap.size<=b) (.agg #[.string s,.slice a n c]) t) (o:Obj) (hw2:w2=w1.alloc o) {g cap:Nat}
  (hown:w3.ownsRow N T 2 (.slice (some ⟨g,0,none⟩) (l.length+1) cap) (l.length+1) (xs++[.string s,.slice a n c])) (hg:w2.grownBy w3 v.ownBlock) (aa:v.ownBlock=some g∨g=w2.heap.size):
  AN w3 N T Y (.slice (some ⟨g,0,none⟩) (l.length+1) cap) (l++[t]) (xs++[.string s,.slice a n c]):=by
 subst hw2
 have hlt:=h.own.lt
 refine⟨by simpa using hown,?_⟩
 have hsz:w1.heap.size<=(w1.alloc o).heap.size:=by simp
 have ae:=hb.size
 have af:N<=g:=by
  rcases aa with e|e
  ·exact(hlt g e).1
  ·simp at e; omega
 refine BJ.append (h.row.imp λa' k' hs=>?_) ?_
 ·have h1:Sl w (λb=>(Y b∨(N<=b/\some b≠v.ownBlock))/\b<w.heap.size) a' k':=hs.mono λb h1 h2=>⟨h1,h2⟩
  have h2:Sl w3 (λb=>(Y b∨(N<=b/\some b≠v.ownBlock))/\b<w.heap.size) a' k':=h1.kept λb hx=>by
   have hne:some b≠v.ownBlock:=by
    rcases hx.1 with hy|hy
    ·exact h.ne (hY b hy)
    ·exact hy.2
   rw[hg.block b (by simp; omega) hne,AP _ _ _ (by omega),hb.block b hx.2]
  refine h2.mono λb hx _=>?_
  rcases hx.1 with hy|hy
  ·exact Ad hy
  ·refine Ae ⟨hy.1,λe=>?_⟩
   simp[Value.ownBlock]at e
   rcases aa with e'|e'
   ·exact hy.2 (by rw[e',e])
   ·simp at e'; omega
 ·obtain⟨a2,c2,e,hs⟩:=ht
  simp at e
  obtain⟨rfl,rfl,rfl,rfl⟩:=e
  refine⟨a,c,[],rfl,?_,rfl⟩
  have h1:Sl w1 (λb=>(Y b∨w.heap.size<=b)/\b<w1.heap.size) a t.args:=hs.mono λb h1 h2=>⟨h1,h2⟩
  have h2:Sl w3 (λb=>(Y b∨w.heap.size<=b)/\b<w1.heap.size) a t.args:=h1.kept λb hx=>by
   have hne:some b≠v.ownBlock:=by
    rcases hx.1 with hy|hy
    ·exact h.ne (hY b hy)
    ·intro e; have:=(hlt b e.symm).2; omega
   rw[hg.block b (by simp; omega) hne,AP _ _ _ hx.2]
  refine h2.mono λb hx _=>?_
  rcases hx.1 with hy|hy
  ·exact Ad hy
  ·refine Ae ⟨by omega,λe=>?_⟩
   simp[Value.ownBlock]at e
   rcases aa with e'|e'
   ·have:=(hlt g e').2; omega
   ·simp at e'; omega
theorem AN.setCell {w:World} {N T:Nat} {Y:Nat->Prop} {v:Value} {l:List Tm} {xs:List Value} (h:AN w N T Y v l xs) {b i:Nat} (hb:b<N) (hY:¬Y b) (u:Value):AN (w.setCell ⟨b,i,none⟩ u) N T Y v l xs:=
 ⟨ownsRow_setCell_below h.own (by simpa using hb) u, h.row.imp λa k hs => hs.kept λc hc => Aq _ _ _ _ (by
  simp
  rcases hc with hc|hc
  ·intro e; subst e; exact hY hc
  ·omega)⟩
theorem AN.sl {w:World} {N T:Nat} {Y:Nat->Prop} {v:Value} {l:List Tm} {xs:List Value} (h:AN w N T Y v l xs):∃a c,v=.slice a l.length c/\Sl w (λb=>Y b∨N<=b) a l:=by
 have aa:l.length<=9223372036854775807:=by
  rcases h.own.2 with ⟨_,h0⟩|⟨g,cap,cur,_,_,_,h1,h2,_⟩
  ·omega
  ·unfold maxLen at h2; omega
 by_cases h0:0<l.length
 ·obtain⟨g,cap,rfl,hg,hlt,hc⟩:=EA h.own h0
  exact⟨_,_,rfl,aa,Ae ⟨g,0,rfl,NI g (Ae hg) l xs 0 h.row (λa k hs=>hs.mono λb hb _=>hb.imp id (λh=>h.1)) (λj u hj=>by simpa using hc j u hj)⟩⟩
 ·have e:l=[]:=Ew.1 (by omega)
  subst e
  rcases h.own.2 with ⟨hv,_⟩|⟨g,cap,cur,hv,_⟩
  ·exact⟨none,0,hv,aa,Ad rfl⟩
  ·exact⟨_,_,hv,aa,Ad rfl⟩
theorem LI {wr w1 w3:World} {o1 o2:Obj} {b T:Nat} {cs:Array Value} {row:Option Nat} (h:Ac wr b cs T) (hb1:Below (wr.alloc o1).drew.heap.size (wr.alloc o1).drew w1) (hg:(w1.alloc o2).grownBy w3 row) (hr:some b≠row):Ac w3 b cs T:=
 (((((h.alloc o1).drewN 1).below hb1 (by have:=h.lt; simp; omega)).alloc o2).grown hg hr)
abbrev Bc:=Bd×Option Addr×Nat
instance:Inhabited Bc:=⟨(⟨⟨#[]⟩,⟨⟨#[]⟩,[]⟩⟩,none,0)⟩
def Di (x:Bc):List Value:=[.string x.1.nm,.string x.1.t.name,.slice x.2.1 x.1.t.args.length x.2.2]
def C6:List Bc->List Value
 | []=>[]
 |x::r=>Di x++C6 r
theorem NQ (b:List Bc):∀a,C6 (a++b)=C6 a++C6 b
 | []=>rfl
 |x::r=>by rw[Cf,C6,C6,NQ b r,Gb]
theorem NR:∀a:List Bc,(C6 a).length=a.length*3
 | []=>rfl
 |x::r=>by rw[C6,Dm,NR r]; simp[Di]; omega
theorem Jc:∀(a:List Bc) (i:Nat) (h:i<a.length) (j:Nat),j<3->(C6 a)[i*3+j]? = (Di a[i])[j]?
 | [],i,h,j,hj=>by simp at h
 |x::r,0,h,j,hj=>by
  rw[C6,List.getElem?_append_left (by simp[Di]; omega)]; simp
 |x::r,i+1,h,j,hj=>by
  rw[C6,Ny (by simp[Di]; omega)]
  have e:(i+1)*3+j-(Di x).length=i*3+j:=by simp[Di]; omega
  rw[e,Jc r i (by simpa using h) j hj]
  simp
structure Bh (w:World) (N:Nat) (Y:Nat->Prop) (v:Value) (cs:List Bc):Prop where
 own:w.ownsRow N 76 3 v cs.length (C6 cs)
 row:∀x∈cs,Sl w (λb=>Y b∨(N<=b/\some b≠v.ownBlock)) x.2.1 x.1.t.args
theorem Bh.start (w:World) (N:Nat) (Y:Nat->Prop):Bh w N Y (.slice none 0 0) []:=⟨Ga w N _ 3,by simp⟩
theorem Bh.below {w w':World} {N:Nat} {Y:Nat->Prop} {v:Value} {cs:List Bc} (h:Bh w N Y v cs) (hb:Below w.heap.size w w'):Bh w' N Y v cs:=
 ⟨h.own.kept (w' := w') (row := none) ⟨hb.os, hb.tape, hb.output, hb.size, λj hj _ => hb.block j hj⟩ (by rcases F9 (Value.ownBlock v) with h | ⟨x, h⟩; exact Ad h; exact Ae (by rw [h]; simp)),
  λx hx=>(h.row x hx).later hb⟩
theorem Bh.ne {w:World} {N:Nat} {Y:Nat->Prop} {v:Value} {cs:List Bc} (h:Bh w N Y v cs) {b:Nat} (hb:b<N):some b≠v.ownBlock:=λe=>by
 have:=(h.own.lt b e.symm).1; omega
theorem Bh.kept {w w':World} {N:Nat} {Y:Nat->Prop} {v:Value} {cs:List Bc} {r:Nat} (h:Bh w N Y v cs) (hr:r<N) (hY:¬Y r) (ho:w'.os=w.os) (ht:w'.tape=w.tape) (hu:w'.output=w.output) (hz:w.heap.size<=w'.heap.size) (hk:∀j,j≠r->j<w.heap.size->w'.heap[j]? = w.heap[j]?):Bh w' N Y v cs:=
 ⟨h.own.kept (w' := w') (row := some r) ⟨ho, ht, hu, hz, λj hj hne => hk j (λe => hne (by rw [e])) hj⟩ (Ae (λe => h.ne hr e.symm)),
  λx hx=>by
  have h1:=(h.row x hx).mono (Y:=λb=>(Y b∨(N<=b/\some b≠v.ownBlock))/\b<w.heap.size) λb h1 h2=>⟨h1,h2⟩
  refine(h1.kept λb hb=>hk b (λe=>?_) hb.2).mono λb hb _=>hb.1
  rcases hb.1 with h2|h2
  ·exact hY (e▸h2)
  ·omega⟩
theorem Bh.push {w w1 w2 w3:World} {N:Nat} {Y:Nat->Prop} {v:Value} {cs:List Bc} (h:Bh w N Y v cs) (hN:N<=w.heap.size) (hY:∀b,Y b->b<N) (hb:Below w.heap.size w w1) {x:Bc}
  (ht:Sl w1 (λb=>Y b∨w.heap.size<=b) x.2.1 x.1.t.args) (o:Obj) (hw2:w2=w1.alloc o) {g cap:Nat}
  (hown:w3.ownsRow N 76 3 (.slice (some ⟨g,0,none⟩) (cs.length+1) cap) (cs.length+1) (C6 cs++Di x)) (hg:w2.grownBy w3 v.ownBlock) (aa:v.ownBlock=some g∨g=w2.heap.size):
  Bh w3 N Y (.slice (some ⟨g,0,none⟩) (cs.length+1) cap) (cs++[x]):=by
 subst hw2
 have hlt:=h.own.lt
 refine⟨by rw[NQ]; simpa [C6] using hown,λy hy=>?_⟩
 have hsz:w1.heap.size<=(w1.alloc o).heap.size:=by simp
 have ae:=hb.size
 have af:N<=g:=by
  rcases aa with e|e
  ·exact(hlt g e).1
  ·simp at e; omega
 rcases Bg.1 hy with hy|hy
 ·have h1:Sl w (λb=>(Y b∨(N<=b/\some b≠v.ownBlock))/\b<w.heap.size) y.2.1 y.1.t.args:=(h.row y hy).mono λb h1 h2=>⟨h1,h2⟩
  have h2:Sl w3 (λb=>(Y b∨(N<=b/\some b≠v.ownBlock))/\b<w.heap.size) y.2.1 y.1.t.args:=h1.kept λb hx=>by
   have hne:some b≠v.ownBlock:=by
    rcases hx.1 with hy|hy
    ·exact h.ne (hY b hy)
    ·exact hy.2
   rw[hg.block b (by simp; omega) hne,AP _ _ _ (by omega),hb.block b hx.2]
  refine h2.mono λb hx _=>?_
  rcases hx.1 with hy|hy
  ·exact Ad hy
  ·refine Ae ⟨hy.1,λe=>?_⟩
   simp[Value.ownBlock]at e
   rcases aa with e'|e'
   ·exact hy.2 (by rw[e',e])
   ·simp at e'; omega
 ·have e:y=x:=by simpa using hy
  subst e
  have h1:Sl w1 (λb=>(Y b∨w.heap.size<=b)/\b<w1.heap.size) y.2.1 y.1.t.args:=ht.mono λb h1 h2=>⟨h1,h2⟩
  have h2:Sl w3 (λb=>(Y b∨w.heap.size<=b)/\b<w1.heap.size) y.2.1 y.1.t.args:=h1.kept λb hx=>by
   have hne:some b≠v.ownBlock:=by
    rcases hx.1 with hy|hy
    ·exact h.ne (hY b hy)
    ·intro e; have:=(hlt b e.symm).2; omega
   rw[hg.block b (by simp; omega) hne,AP _ _ _ hx.2]
  refine h2.mono λb hx _=>?_
  rcases hx.1 with hy|hy
  ·exact Ad hy
  ·refine Ae ⟨by omega,λe=>?_⟩
   simp[Value.ownBlock]at e
   rcases aa with e'|e'
   ·have:=(hlt g e').2; omega
   ·simp at e'; omega
theorem Bh.bv {w:World} {N:Nat} {Y:Nat->Prop} {v:Value} {cs:List Bc} (h:Bh w N Y v cs):BV w (λb=>Y b∨N<=b) v (cs.map (·.1)):=by
 have af:cs.length<=9223372036854775807:=by
  rcases h.own.2 with ⟨_,h0⟩|⟨g,cap,cur,_,_,_,h1,h2,_⟩
  ·omega
  ·unfold maxLen at h2; omega
 by_cases h0:0<cs.length
 ·obtain⟨g,cap,rfl,hg,hlt,hc⟩:=EA h.own h0
  have ae:cs.length<=cap:=by
   rcases h.own.2 with ⟨e,_⟩|⟨g',cap',cur,e,_,_,h1,_⟩
   ·cases e
   ·simp at e; omega
  refine⟨_,cap,by simp,⟨by simpa using af,by simpa using ae⟩,Ae ⟨g,0,rfl,Ae hg,λi hi=>?_⟩⟩
  have aa:i<cs.length:=by simpa using hi
  have g0:=hc (i*3+0) (.string cs[i].1.nm) (by rw[Jc cs i aa 0 (by decide)]; rfl)
  have g1:=hc (i*3+1) (.string cs[i].1.t.name) (by rw[Jc cs i aa 1 (by decide)]; rfl)
  have g2:=hc (i*3+2) (.slice cs[i].2.1 cs[i].1.t.args.length cs[i].2.2) (by rw[Jc cs i aa 2 (by decide)]; rfl)
  simp only[Hc,Ey]
  exact⟨g0,g1,_,_,g2,(h.row cs[i] (AV aa)).mono λb hb _=>hb.imp id (λh=>h.1)⟩
 ·have e:cs=[]:=Ew.1 (by omega)
  subst e
  rcases h.own.2 with ⟨hv,_⟩|⟨g,cap,cur,hv,_⟩
  ·exact⟨none,0,hv,by simp,Ad rfl⟩
  ·exact⟨_,_,hv,by simp,Ad rfl⟩
def Cs (a b:ByteArray):Bool:=Op.bytesLess a.toList b.toList
theorem NS:∀a:List UInt8,Op.bytesLess a a=false
 | []=>rfl
 |x::r=>by simp[Op.bytesLess,NS r]
theorem NT:∀a b c:List UInt8,Op.bytesLess a b=true->Op.bytesLess b c=true->Op.bytesLess a c=true
 |_,[],_,h,_=>by simp[Op.bytesLess] at h
 |_,_::_,[],_,h=>by simp[Op.bytesLess] at h
 | [],_::_,_::_,_,_=>by simp[Op.bytesLess]
 |x::a,y::b,z::c,h1,h2=>by
  simp only[Op.bytesLess,Bool.or_eq_true,Hd,decide_eq_true_eq,beq_iff_eq] at h1 h2 ⊢
  rw[UInt8.lt_iff_toNat_lt]at h1 h2 ⊢
  rcases h1 with h1|⟨rfl,h1⟩<;>rcases h2 with h2|⟨rfl,h2⟩
  ·left; omega
  ·left; exact h1
  ·left; exact h2
  ·right; exact⟨rfl,NT a b c h1 h2⟩
theorem NU:∀a b:List UInt8,Op.bytesLess a b=false->Op.bytesLess b a=false->a=b
 | [],[],_,_=>rfl
 | [],_::_,h,_=>by simp[Op.bytesLess] at h
 |_::_,[],_,h=>by simp[Op.bytesLess] at h
 |x::a,y::b,h1,h2=>by
  simp only[Op.bytesLess,Bool.or_eq_false_iff,decide_eq_false_iff_not] at h1 h2
  obtain⟨h1,h3⟩:=h1
  obtain⟨h2,h4⟩:=h2
  rw[UInt8.lt_iff_toNat_lt]at h1 h2
  have e:x=y:=UInt8.toNat_inj.mp (by omega)
  subst e
  simp only[BEq.rfl,Bool.true_and] at h3 h4
  rw[NU a b h3 h4]
theorem NV (a:ByteArray):Cs a a=false:=NS _
theorem LJ {a b c:ByteArray} (h1:Cs a b=true) (h2:Cs b c=true):Cs a c=true:=NT _ _ _ h1 h2
theorem LK {a b:ByteArray} (h1:Cs a b=false) (h2:Cs b a=false):a=b:=Ej (NU _ _ h1 h2)
theorem NW {a b:ByteArray} (h:Cs a b=true):Cs b a=false:=by
 cases hb:Cs b a with
 |false=>rfl
 |true=>have:=LJ h hb; rw[NV] at this; cases this
theorem Ur {a b c:ByteArray} (h1:Cs a b=false) (h2:Cs b c=false):Cs a c=false:=by
 cases h:Cs a c with
 |false=>rfl
 |true=>
  cases h3:Cs b a with
  |true=>rw[LJ h3 h] at h2; cases h2
  |false=>
   have e:=LK h1 h3
   subst e
   rw[h]at h2; cases h2
def E5 (l:List Bd):Prop:=l.Pairwise λa b=>Cs a.nm b.nm=true
def Ct (l:List Bd):Prop:=l.Pairwise λa b=>a.nm≠b.nm
theorem E5.apart {l:List Bd} (h:E5 l):Ct l:=h.imp fun {a b} h e=>by rw[e,NV] at h; cases h
theorem Ct.perm {l k:List Bd} (h:Ct l) (hp:k.Perm l):Ct k:=(hp.pairwise_iff (fun {_ _} hne=>D6 hne)).2 h
theorem LL {l k:List Bd} (hp:l.Perm k) (h1:E5 l) (h2:E5 k):l=k:=
 List.Perm.eq_of_pairwise (le:=λa b:Bd=>Cs a.nm b.nm=true) (λa b _ _ h3 h4=>by rw[NW h3] at h4; cases h4) h1 h2 hp
theorem LM {l:List Bd} (ha:Ct l) (h:l.Pairwise λa b=>Cs b.nm a.nm=false):E5 l:=by
 unfold E5 Ct at *
 refine(List.pairwise_and_iff.2 ⟨ha,h⟩).imp fun {a b} ⟨h1,h2⟩=>?_
 cases h3:Cs a.nm b.nm with
 |true=>rfl
 |false=>exact absurd (LK h3 h2) h1
def Gi (x:Bc):ByteArray×Value:=(x.1.nm,.agg #[.string x.1.t.name,.slice x.2.1 x.1.t.args.length x.2.2])
def LV {α:Type} (f:α->Value) (w:World) (X:Nat->Prop) (v:Value) (l:List α):Prop:=
 ∃a c,v=.slice a l.length c/\(l.length<=9223372036854775807/\l.length<=c)/\(l=[]∨∃b o,a=some ⟨b,o,none⟩/\X b/\∀i (h:i<l.length),w.cell? ⟨b,o+i,none⟩=some (f l[i]))
theorem LV.kept {α:Type} {f:α->Value} {w w':World} {X:Nat->Prop} {v:Value} {l:List α} (h:LV f w X v l) (hk:∀b,X b->w'.heap[b]? = w.heap[b]?):LV f w' X v l:=by
 obtain⟨a,c,e,hl,h⟩:=h
 refine⟨a,c,e,hl,?_⟩
 rcases h with h|⟨b,o,e,hx,h⟩
 ·exact Ad h
 ·exact Ae ⟨b,o,e,hx,λi hi=>by rw[CM (hk b hx)]; exact h i hi⟩
theorem LV.mono {α:Type} {f:α->Value} {w:World} {X Y:Nat->Prop} {v:Value} {l:List α} (h:LV f w X v l) (hk:∀b,X b->b<w.heap.size->Y b):LV f w Y v l:=by
 obtain⟨a,c,e,hl,h⟩:=h
 refine⟨a,c,e,hl,?_⟩
 rcases h with h|⟨b,o,e,hx,h⟩
 ·exact Ad h
 ·by_cases h0:l=[]
  ·exact Ad h0
  ·have hp:0<l.length:=Fb.2 h0
   exact Ae ⟨b,o,e,hk b hx (World.block_lt_of_cell? w _ (h 0 hp)),h⟩
theorem LV.below {α:Type} {f:α->Value} {w w':World} {X:Nat->Prop} {v:Value} {l:List α} {B:Nat} (h:LV f w X v l) (hb:Below B w w') (hX:∀b,X b->b<w.heap.size->b<B):LV f w' X v l:=by
 have h1:LV f w (λb=>X b/\b<B) v l:=h.mono λb hx hs=>⟨hx,hX b hx hs⟩
 have h2:LV f w' (λb=>X b/\b<B) v l:=h1.kept λb hx=>hb.block b hx.2
 exact h2.mono λb hx _=>hx.1
theorem LV.later {α:Type} {f:α->Value} {w w':World} {X:Nat->Prop} {v:Value} {l:List α} (h:LV f w X v l) (hb:Below w.heap.size w w'):LV f w' X v l:=h.below hb (λ_ _ h=>h)
theorem LV.alloc {α:Type} {f:α->Value} {w:World} {X:Nat->Prop} {v:Value} {l:List α} (h:LV f w X v l) (o:Obj):LV f (w.alloc o) X v l:=h.later ((Af _ _).alloc (Aj _) o)
theorem LV.of_own {α:Type} {f:α->Value} {w:World} {N T:Nat} {v:Value} {l:List α} (h:w.ownsRow N T 1 v l.length (l.map f)):LV f w (λb=>N<=b) v l:=by
 have h':=h
 obtain⟨_,h1⟩:=h
 rcases h1 with ⟨rfl,h0⟩|⟨g,cap,cur,hv,hg,hh,aa,ae,_⟩
 ·have e:l=[]:=Ew.1 h0
  subst e
  exact⟨none,0,rfl,by simp,Ad rfl⟩
 ·unfold maxLen at ae
  refine⟨some ⟨g,0,none⟩,cap,hv,⟨by omega,aa⟩,?_⟩
  by_cases h0:l=[]
  ·exact Ad h0
  ·have hp:0<l.length:=Fb.2 h0
   obtain⟨g2,af,hv2,_,_,hc⟩:=EA h' hp
   rw[hv]at hv2
   simp at hv2
   obtain⟨rfl,rfl⟩:=hv2
   exact Ae ⟨g,0,rfl,hg,λi hi=>by rw[Ey]; exact hc i _ (by simp[hi])⟩
def AF (x:ByteArray) (l:List ByteArray):Bool:=l.any λy=>y.toList==x.toList
theorem NX {x:ByteArray} {l:List ByteArray} {k:Nat} (h:k<l.length) (h0:AF x (l.take k)=false) (h1:(l[k].toList==x.toList)=false):AF x (l.take (k+1))=false:=by
 unfold AF at *
 rw[Bm h,He,h0]
 simpa using h1
theorem NY {x:ByteArray} {l:List ByteArray} {k:Nat} (h:k<l.length) (h1:(l[k].toList==x.toList)=true):AF x l=true:=by
 unfold AF
 rw[D7]
 exact⟨l[k],AV h,h1⟩
theorem Hl (x:ByteArray) (l:List ByteArray) (v:Value) (w:World) (X:Nat->Prop) (hv:LV Value.string w X v l):
  Calls Tryz.prog 16 #[.string x,v] w λe w'=>e=.returned (.bool (AF x l))/\w'=w:=by
 obtain⟨a,c,rfl,⟨hl,_⟩,h1⟩:=hv
 go_enter Tryz.func16,Tryz.ntmps16
 go_wp2_with fail
 go_loop [5] (λi=>∃k:Nat,k<=l.length/\i=.int .i64 k/\AF x (l.take k)=false) (λi=>l.length-(intOf i).toNat)
 case atStart=>exact⟨0,AE _,rfl,by simp[AF]⟩
 case round=>
  obtain⟨k,hk,rfl,ha⟩:=hrel
  have HA:=Aa ha
  clear ha
  by_cases hlt:k<l.length
  ·obtain⟨b,o,rfl,_,hc⟩:=h1.resolve_left (λh=>by rw[h] at hlt; simp at hlt)
   have d1:=hc k hlt
   clear hc h1
   cases hq:(l[k].toList==x.toList) with
   |true=>
    have HQ:=Aa (NY hlt hq)
    go_wp2_with fail
    go_ret
    exact⟨BH HQ.out.symm,rfl⟩
   |false=>
    have HQ:=Aa (NX hlt HA.out hq)
    go_wp2_with fail
    go_round
    case rel=>exact⟨k+1,by omega,by go_num,HQ.out⟩
    case measure=>simp[intOf]; omega
  ·have aa:l.take k=l:=AW (by omega)
   have HF:Hid (false=AF x l):=by unfold Hid; rw[<-HA.out,aa]
   go_wp2_with fail
   go_ret
   exact⟨BH HF.out,rfl⟩
theorem Tryz.infoStr:(Tryz.prog.info? 9).map (λi=>(i.zero,i.size,i.bytes))=some (some (.string ByteArray.empty),1,16):=by kernel_rfl
theorem NZ (a b:ByteArray):(a.toList==b.toList)=(b.toList==a.toList):=by
 rw[Fs]; simp; exact eq_comm
theorem Us (x:ByteArray) (l:List ByteArray) (v:Value) (w:World) (X:Nat->Prop) (hv:LV Value.string w X v l):
  Calls Tryz.prog 109 #[v,.string x] w λe w'=>(∃n:Int,e=.returned (.int .i64 n)/\decide (0<=n)=AF x l)/\w'=w:=by
 obtain⟨a,c,rfl,⟨hl,_⟩,h1⟩:=hv
 go_enter Tryz.func109,Tryz.ntmps109
 go_wp2_with fail
 go_loop [8] (λi=>∃k:Nat,k<=l.length/\i=.int .i64 k/\AF x (l.take k)=false) (λi=>l.length-(intOf i).toNat)
 case atStart=>exact⟨0,AE _,rfl,by simp[AF]⟩
 case round=>
  obtain⟨k,hk,rfl,ha⟩:=hrel
  have HA:=Aa ha
  clear ha
  by_cases hlt:k<l.length
  ·obtain⟨b,o,rfl,_,hc⟩:=h1.resolve_left (λh=>by rw[h] at hlt; simp at hlt)
   have d1:=hc k hlt
   clear hc h1
   cases hq:(x.toList==l[k].toList) with
   |true=>
    have HQ:=Aa (NY hlt (by rw[NZ]; exact hq))
    go_wp2_with fail
    go_ret
    exact⟨⟨k,rfl,by rw[HQ.out]; simp⟩,rfl⟩
   |false=>
    have HQ:=Aa (NX hlt HA.out (by rw[NZ]; exact hq))
    go_wp2_with fail
    go_round
    case rel=>exact⟨k+1,by omega,by go_num,HQ.out⟩
    case measure=>simp[intOf]; omega
  ·have aa:l.take k=l:=AW (by omega)
   have HF:Hid (false=AF x l):=by unfold Hid; rw[<-HA.out,aa]
   go_wp2_with fail
   go_ret
   exact⟨⟨-1,rfl,by rw[<-HF.out]; decide⟩,rfl⟩
theorem N1 (x:ByteArray) (l:List ByteArray) (v:Value) (w:World) (X:Nat->Prop) (hv:LV Value.string w X v l):
  Calls Tryz.prog 94 #[v,.string x] w λe w'=>e=.returned (.bool (AF x l))/\w'=w:=by
 have HV:=Aa hv
 clear hv
 go_enter Tryz.func94,Tryz.ntmps94
 go_wp2_with fail
 refine(Us x l _ _ X HV.out).mono ?_
 rintro e w1 ⟨⟨n,rfl,hn⟩,rfl⟩
 have HN:=Aa hn
 clear hn
 go_wp2_with fail
 go_ret
 exact⟨BH HN.out,rfl⟩
def Bk (acc:List ByteArray) (s:ByteArray):List ByteArray:=if (Ak s&&!AF s acc)=true then acc++[s] else acc
def At (acc:List ByteArray) (ks:List Tm):List ByteArray:=ks.foldl (λacc k=>Bk acc k.name) acc
theorem Il {acc:List ByteArray} {s:ByteArray} (h:Ak s=true) (h2:AF s acc=false):Bk acc s=acc++[s]:=by simp[Bk,h,h2]
theorem Im {acc:List ByteArray} {s:ByteArray} (h:Ak s=true) (h2:AF s acc=true):Bk acc s=acc:=by simp[Bk,h,h2]
theorem Gj {acc:List ByteArray} {s:ByteArray} (h:Ak s=false):Bk acc s=acc:=by simp[Bk,h]
theorem J2 (acc:List ByteArray) (s:ByteArray):(Bk acc s).length<=acc.length+1:=by
 unfold Bk; split<;>simp
theorem Io (acc:List ByteArray) (a b:List Tm):At acc (a++b)=At (At acc a) b:=by simp[At,List.foldl_append]
theorem Hm (ks:List Tm):∀acc,(At acc ks).length<=acc.length+ks.length:=by
 induction ks with
 |nil=>intro acc; simp[At]
 |cons k r ih=>intro acc; have:=ih (Bk acc k.name); have h2:=J2 acc k.name; simp only[At,List.foldl_cons,Bs] at *; omega
theorem Ut (acc:List ByteArray) (ks:List Tm) (k:Nat) (h:k<ks.length):At acc (ks.take (k+1))=Bk (At acc (ks.take k)) ks[k].name:=by
 rw[Bm h,Io]; rfl
theorem Ip (t:Tm) (v:Value) (w:World) (X:Nat->Prop) (hv:TV w X v t) (hsm:Ab [t]<=1000000):
  Calls Tryz.prog 15 #[v] w λe w'=>∃v',e=.returned v'/\LV Value.string w' (λb=>w.heap.size<=b) v' (At [] (Ao [t]))/\Below w.heap.size w w':=by
 obtain⟨a,c,rfl,hs⟩:=hv
 have HV:=Aa (show TV w X (.agg #[.string t.name,.slice a t.args.length c]) t from ⟨a,c,rfl,hs⟩)
 clear hs
 obtain⟨i0,hi,hz0,hz1,hz2⟩:=CT Tryz.infoStr
 go_enter Tryz.func15,Tryz.ntmps15
 go_wp2_with fail
 refine(LD t _ _ X (by exact HV.out.alloc _) hsm).mono ?_
 rintro e w2 ⟨v2,xs,rfl,hown,hrow,hb3⟩
 have ah:0<Ab [t]:=by obtain⟨s',l'⟩:=t; simp[Ab]; omega
 obtain⟨g,cap,rfl,hg,aA,ai⟩:=EA hown ah
 have hb4:=Aa (((Af w.heap.size w).alloc (Aj _) (.cells #[.string t.name,.slice a t.args.length c] 29)).trans (hb3.mono (by simp)))
 have ar:=Aa hrow
 have au:=Aa ai
 have ax:=Gh [t]
 generalize aj:Ao [t]=ks at *
 have av:=Aa aj
 clear aj
 have aB:ks.length<=1000000:=by omega
 rw[<-ax]
 clear hown hrow ai hb3 ax ah hsm
 go_wp2_with fail
 go_loopw [4,5] (λq i wr=>∃k:Nat,k<=ks.length/\i=.int .i64 k/\wr.ownsRow w2.heap.size 9 1 q (At [] (ks.take k)).length ((At [] (ks.take k)).map Value.string)/\Below w2.heap.size w2 wr) (λq i wr=>ks.length-(intOf i).toNat)
 case atStart=>exact⟨0,AE _,rfl,by simpa [At] using Ga w2 w2.heap.size 9 1,Af _ _⟩
 case round=>
  obtain⟨k,hk,rfl,hown,hb⟩:=hrel
  have aa:=Aa hown
  have HB:=Aa hb
  by_cases hlt:k<ks.length
  ·obtain⟨x0,a',c',x1,ay⟩:=ar.out.get k hlt
   have d0:=cell_later hb (au.out _ _ x0)
   have HT:=Aa (Ut [] ks k hlt)
   have ae:=Hm (ks.take k) []
   have hlen:(At [] (ks.take k)).length<=1000000:=by
    have:(ks.take k).length<=k:=List.length_take_le _ _
    simp at ae; omega
   clear x0 x1 ay hown hb ae
   generalize ak:At [] (ks.take k)=acc at *
   have az:=Aa ak
   clear ak
   cases hvb:Ak ks[k].name with
   |false=>
    have HN:=Aa (Gj (acc:=acc) hvb)
    have aq:=Aa hvb
    clear hvb
    go_wp2_with (go_at_call 14; refine(Du _ _).mono ?_; rintro e w' ⟨rfl,rfl⟩; rw[aq.out])
    go_roundw
    case rel=>exact⟨k+1,by omega,by go_num,by rw[HT.out,HN.out]; exact aa.out,HB.out⟩
    case measure=>simp[intOf]; omega
   |true=>
    have aq:=Aa hvb
    cases ag:AF ks[k].name acc with
    |true=>
     have HN:=Aa (Im hvb ag)
     have aw:=Aa ag
     clear hvb ag
     go_wp2_with (first|(go_at_call 14; refine(Du _ _).mono ?_; rintro e w' ⟨rfl,rfl⟩; rw[aq.out])|(go_at_call 16; refine(Hl _ _ _ _ _ (LV.of_own aa.out)).mono ?_; rintro e w' ⟨rfl,rfl⟩; rw[aw.out]))
     go_roundw
     case rel=>exact⟨k+1,by omega,by go_num,by rw[HT.out,HN.out]; exact aa.out,HB.out⟩
     case measure=>simp[intOf]; omega
    |false=>
     have HN:=Aa (Il hvb ag)
     have aw:=Aa ag
     clear hvb ag
     obtain⟨q2,w3,hr2,af,ao,_⟩:=run_append_own (P:=Tryz.prog) (wr.alloc (.cells #[.string ks[k].name] 9)) w2.heap.size 41 41 9 i0 _ 1 16 Tryz.underlying41 hi hz0 hz1 hz2 rfl (by decide) _ acc.length (acc.map Value.string) (aa.out.alloc _)
      ⟨wr.heap.size,0,none⟩ 1 1 [.string ks[k].name] rfl (cell_one_new _ _ _) (λx hx=>by simp at hx; subst hx; rfl) (by unfold maxLen; omega) (by omega) (by have:=HB.out.size; simp; omega)
     have HR:=Aa hr2
     have a6:=Aa af
     have a7:=Aa ((HB.out.alloc HB.out.size _).grown ao (by have:=HB.out.size; simp; omega) (λj hj=>(aa.out.lt j hj).1))
     clear hr2 af ao
     go_wp2_with (first|(go_at_call 14; refine(Du _ _).mono ?_; rintro e w' ⟨rfl,rfl⟩; rw[aq.out])|(go_at_call 16; refine(Hl _ _ _ _ _ (LV.of_own aa.out)).mono ?_; rintro e w' ⟨rfl,rfl⟩; rw[aw.out])|(at_builtin; refine D1 rfl _ _ _ _ rfl rfl rfl HR.out ?_))
     go_roundw
     case rel=>exact⟨k+1,by omega,by go_num,by rw[HT.out,HN.out]; simpa using a6.out,a7.out⟩
     case measure=>simp[intOf]; omega
  ·have a8:ks.take k=ks:=AW (by omega)
   rw[a8]at hown
   have HO:=Aa hown
   clear hown hb
   go_wp2_with fail
   go_ret
   exact⟨_,rfl,by rw[av.out]; exact(LV.of_own HO.out).mono λb hb _=>AX hb4.out.size hb,hb4.out.trans (HB.out.mono hb4.out.size)⟩
theorem GM {w w1 w2:World} {r r1:Option Nat} (h:w.grownBy w1 r) (h1:w1.grownBy w2 r1) (hr:∀k,r1=some k->r=some k∨w.heap.size<=k):w.grownBy w2 r:=
 ⟨h1.os.trans h.os,h1.tape.trans h.tape,h1.output.trans h.output,AX h.size h1.size,λk hk hne=>(h1.block k (Do hk h.size) (λe=>by
  rcases hr k e.symm with h2|h2
  ·exact hne h2.symm
  ·omega)).trans (h.block k hk hne)⟩
theorem Gk {w w':World} (hb:Below w.heap.size w w') (r:Option Nat):w.grownBy w' r:=⟨hb.os,hb.tape,hb.output,hb.size,λk hk _=>hb.block k hk⟩
theorem TV.grown {w w':World} {X:Nat->Prop} {v:Value} {t:Tm} {r:Option Nat} (h:TV w X v t) (hg:w.grownBy w' r) (hX:∀b,X b->some b≠r):TV w' X v t:=by
 have h1:TV w (λb=>X b/\b<w.heap.size) v t:=h.mono λb h1 h2=>⟨h1,h2⟩
 have h2:TV w' (λb=>X b/\b<w.heap.size) v t:=h1.kept λb hx=>hg.block b hx.2 (hX b hx.1)
 exact h2.mono λb hx _=>hx.1
def DE (w0:World) (B:Nat) (q0:Value) (acc:List ByteArray) (q:Value) (wr:World):Prop:=
 wr.ownsRow B 9 1 q acc.length (acc.map Value.string)/\w0.grownBy wr q0.ownBlock/\(∀k,q.ownBlock=some k->q0.ownBlock=some k∨w0.heap.size<=k)
theorem DE.step {w0 w1 w2:World} {B:Nat} {q0 q1 q2:Value} {ae aa:List ByteArray} (h1:DE w0 B q0 ae q1 w1) (h2:DE w1 B q1 aa q2 w2):DE w0 B q0 aa q2 w2:=by
 refine⟨h2.1,GM h1.2.1 h2.2.1 h1.2.2,λk hk=>?_⟩
 rcases h2.2.2 k hk with h|h
 ·exact h1.2.2 k h
 ·exact Ae (AX h1.2.1.size h)
theorem DE.below {w0 w1 w2:World} {B:Nat} {q0 q1:Value} {aa:List ByteArray} (h1:DE w0 B q0 aa q1 w1) (hb:Below w1.heap.size w1 w2):DE w0 B q0 aa q1 w2:=
 ⟨h1.1.kept (w' := w2) (row := none) ⟨hb.os, hb.tape, hb.output, hb.size, λj hj _ => hb.block j hj⟩ (by rcases F9 (Value.ownBlock q1) with h | ⟨x, h⟩; exact Ad h; exact Ae (by rw [h]; simp)),
  GM h1.2.1 (Gk hb q1.ownBlock) h1.2.2,h1.2.2⟩
def Hn (d:Bd):List Bd->List Bd
 | []=>[d]
 |e::r=>if Cs d.nm e.nm=true then d::e::r else e::Hn d r
def Ho:List Bd->List Bd
 | []=>[]
 |d::r=>Hn d (Ho r)
theorem LN (d:Bd):∀l,(Hn d l).Perm (d::l)
 | []=>JK _
 |e::r=>by
  rw[Hn]
  split
  ·exact JK _
  ·exact((LN d r).cons e).trans (List.Perm.swap d e r)
theorem EC:∀l,(Ho l).Perm l
 | []=>JK _
 |d::r=>(LN d _).trans ((EC r).cons d)
theorem N2 (d:Bd):∀l,E5 l->(∀e∈l,d.nm≠e.nm)->E5 (Hn d l)
 | [],_,_=>by simp[Hn,E5]
 |e::r,h,hn=>by
  obtain⟨h1,h2⟩:=I6.1 h
  rw[Hn]
  split
  ·rename_i hlt
   refine I6.2 ⟨λx hx=>?_,h⟩
   rcases BE.1 hx with rfl|hx
   ·exact hlt
   ·exact LJ hlt (h1 x hx)
  ·rename_i hlt
   refine I6.2 ⟨λx hx=>?_,N2 d r h2 λe he=>hn e (by simp[he])⟩
   rcases BE.1 ((LN d r).subset hx) with rfl|hx
   ·cases h3:Cs e.nm x.nm with
    |true=>rfl
    |false=>exact absurd (LK (by simpa using hlt) h3) (hn e (by simp))
   ·exact h1 x hx
theorem J3:∀l,Ct l->E5 (Ho l)
 | [],_=>by simp[Ho,E5]
 |d::r,h=>by
  obtain⟨h1,h2⟩:=I6.1 h
  exact N2 d _ (J3 r h2) λe he=>h1 e ((EC r).subset he)
inductive UO where
 |go (s:List Bd) (l:List Pr)
 |stop (e:Int) (s:List Bd)
def Ax:List Tm->List Tm->List Pr
 |a::r,b::q=>⟨a,b⟩::Ax r q
 |_,_=>[]
def Bo (x:ByteArray) (t:Tm) (d:Bd):Bd:=⟨d.nm,Ag [⟨x,t⟩] d.t⟩
def AD (s:List Bd):Bool:=s.any λd=>decide (2000<Ab [d.t])
def CB (lim:Bool) (s:List Bd) (l:List Pr) (x:ByteArray) (t:Tm):UO:=
 if AF x (At [] (Ao [t]))=true then .stop 6 s
 else if (lim&&AD (s.map (Bo x t)))=true then .stop 8 s
 else .go (Ho (s.map (Bo x t)++[⟨x,t⟩])) l
def Bf (lim:Bool) (s:List Bd) (l:List Pr) (a b:Tm):UO:=
 if 2000<Ab [a]∨2000<Ab [b] then .stop 8 s
 else if Ak a.name=true then (if a.name=b.name then .go s l else CB lim s l a.name b)
 else if Ak b.name=true then CB lim s l b.name a
 else if a.name=b.name/\a.args.length=b.args.length then .go s (Ax a.args b.args++l)
 else .stop 5 s
def Em (lim:Bool) (s:List Bd):List Pr->UO
 | []=>.stop 0 s
 |p::l=>Bf lim s l (Ag s p.l) (Ag s p.r)
theorem ES (lim:Bool) (s:List Bd) (p:Pr) (l:List Pr):Em lim s (p::l)=Bf lim s l (Ag s p.l) (Ag s p.r):=rfl
def AQ (lim:Bool):Nat->List Bd->List Pr->Option (Int×List Bd)
 |0,_,_=>none
 |n+1,s,l=>match Em lim s l with
  | .stop e s'=>some (e,s')
  | .go s' l'=>AQ lim n s' l'
theorem J5 (t:Tm):1<=Ab [t]:=by
 obtain⟨s,l⟩:=t
 simp[Ab]
theorem Uu (ls:List Bd):∀l:List Tm,Ab l<=Ab (Am ls l):=by
 intro l
 induction l using Tm.indL with
 |h0=>simp[Am,Ab]
 |h s l r aa ae=>
  have e1:Ab (Am ls (⟨s,l⟩::r))=Ab [Ag ls ⟨s,l⟩]+Ab (Am ls r):=by
   rw[Ba]
   generalize Ag ls ⟨s,l⟩=x
   obtain⟨s2,m⟩:=x
   simp[Ab]
  have e2:Ab (⟨s,l⟩::r)=(1+Ab l)+Ab r:=by simp[Ab]
  have h1:1+Ab l<=Ab [Ag ls ⟨s,l⟩]:=by
   by_cases hl:l=[]
   ·subst hl
    have:=J5 (Ag ls ⟨s,[]⟩)
    simpa [Ab] using this
   ·rw[Fv (Ad hl)]
    simp only[Ab]
    omega
  rw[e1,e2]
  omega
theorem LO (ls:List Bd) (t:Tm):Ab [t]<=Ab [Ag ls t]:=by
 have h:=Uu ls [t]
 rw[Ba]at h
 simpa [Am] using h
theorem N4 {l k:List Bd} (h:l.Perm k):AD l=AD k:=by
 unfold AD
 rw[Fs,D7,D7]
 exact⟨λ⟨d,hd,e⟩=>⟨d,h.subset hd,e⟩,λ⟨d,hd,e⟩=>⟨d,h.symm.subset hd,e⟩⟩
theorem Uv {s:List Bd} (x:ByteArray) (t:Tm) (h:AD s=true):AD (s.map (Bo x t))=true:=by
 unfold AD at *
 rw[D7]at *
 obtain⟨d,hd,e⟩:=h
 refine⟨Bo x t d,Cj.2 ⟨d,hd,rfl⟩,?_⟩
 have h1:=LO [⟨x,t⟩] d.t
 simp only[decide_eq_true_eq] at e ⊢
 exact Do e h1
theorem Jd {s:List Bd} (x:ByteArray) (t:Tm):AD (Ho (s.map (Bo x t)++[⟨x,t⟩]))=(AD (s.map (Bo x t))||decide (2000<Ab [t])):=by
 rw[N4 (EC _)]
 unfold AD
 rw[He]
 simp
theorem Uw {lim:Bool} {s s':List Bd} {l l':List Pr} (h:Em lim s l=.go s' l') (hg:AD s=true):AD s'=true:=by
 cases l with
 |nil=>cases h
 |cons p l=>
  have bind:∀x t,CB lim s l x t=.go s' l'->AD s'=true:=λx t h=>by
   unfold CB at h
   split at h
   ·cases h
   ·split at h
    ·cases h
    ·cases h
     rw[Jd,Uv x t hg]
     rfl
  rw[ES]at h
  unfold Bf at h
  generalize Ag s p.l=a at h
  generalize Ag s p.r=b at h
  split at h
  ·cases h
  ·split at h
   ·split at h
    ·cases h; exact hg
    ·exact bind _ _ h
   ·split at h
    ·exact bind _ _ h
    ·split at h
     ·cases h; exact hg
     ·cases h
theorem N5 {lim:Bool} {s s':List Bd} {l:List Pr} {e:Int} (h:Em lim s l=.stop e s'):s'=s:=by
 cases l with
 |nil=>cases h; rfl
 |cons p l=>
  have bind:∀x t,CB lim s l x t=.stop e s'->s'=s:=λx t h=>by
   unfold CB at h
   split at h
   ·cases h; rfl
   ·split at h
    ·cases h; rfl
    ·cases h
  rw[ES]at h
  unfold Bf at h
  generalize Ag s p.l=a at h
  generalize Ag s p.r=b at h
  split at h
  ·cases h; rfl
  ·split at h
   ·split at h
    ·cases h
    ·exact bind _ _ h
   ·split at h
    ·exact bind _ _ h
    ·split at h
     ·cases h
     ·cases h; rfl
theorem LP {lim:Bool}:∀(n:Nat) (s:List Bd) (l:List Pr) (e:Int) (sf:List Bd),AQ lim n s l=some (e,sf)->AD s=true->AD sf=true
 |0,_,_,_,_,h,_=>by cases h
 |n+1,s,l,e,sf,h,hg=>by
  rw[AQ]at h
  cases hn:Em lim s l with
  |stop e' s'=>
   rw[hn]at h
   cases h
   rw[N5 hn]; exact hg
  |go s' l'=>
   rw[hn]at h
   exact LP n s' l' e sf h (Uw hn hg)
theorem Ux {s:List Bd} {l:List Pr}:Em true s l=Em false s l∨(Em true s l=.stop 8 s/\∃s' l',Em false s l=.go s' l'/\AD s'=true):=by
 cases l with
 |nil=>exact Ad rfl
 |cons p l=>
  have bind:∀x t,CB true s l x t=CB false s l x t∨(CB true s l x t=.stop 8 s/\∃s' l',CB false s l x t=.go s' l'/\AD s'=true):=λx t=>by
   unfold CB
   by_cases h1:AF x (At [] (Ao [t]))=true
   ·rw[As h1,As h1]; exact Ad rfl
   ·rw[An h1,An h1]
    cases h2:AD (s.map (Bo x t)) with
    |true=>exact Ae ⟨rfl,_,_,rfl,by rw[Jd,h2]; rfl⟩
    |false=>exact Ad rfl
  rw[ES,ES]
  unfold Bf
  generalize Ag s p.l=a
  generalize Ag s p.r=b
  by_cases h1:2000<Ab [a]∨2000<Ab [b]
  ·rw[As h1,As h1]; exact Ad rfl
  ·rw[An h1,An h1]
   by_cases h2:Ak a.name=true
   ·rw[As h2,As h2]
    by_cases h3:a.name=b.name
    ·rw[As h3,As h3]; exact Ad rfl
    ·rw[An h3,An h3]; exact bind _ _
   ·rw[An h2,An h2]
    by_cases h3:Ak b.name=true
    ·rw[As h3,As h3]; exact bind _ _
    ·rw[An h3,An h3]; exact Ad rfl
theorem N6:∀(n:Nat) (s:List Bd) (l:List Pr) (e:Int) (sf:List Bd),AQ false n s l=some (e,sf)->AD s=false->∃e' aa,AQ true n s l=some (e',aa)/\(AD sf=true->e'=8)/\(AD sf=false->e'=e/\aa=sf)
 |0,_,_,_,_,h,_=>by cases h
 |n+1,s,l,e,sf,h,hg=>by
  rw[AQ]at h
  rcases Ux (s:=s) (l:=l) with h1|⟨h1,s',l',h2,h3⟩
  ·rw[AQ,h1]
   cases hn:Em false s l with
   |stop e' s'=>
    rw[hn]at h
    cases h
    refine⟨e,sf,rfl,λh4=>?_,λ_=>⟨rfl,rfl⟩⟩
    rw[N5 hn,hg]at h4
    cases h4
   |go s' l'=>
    rw[hn]at h
    cases h4:AD s' with
    |false=>exact N6 n s' l' e sf h h4
    |true=>
     exfalso
     rw[hn]at h1
     have h5:AD s'=false:=by
      cases l with
      |nil=>cases hn
      |cons p l=>
       have bind:∀x t,Ab [t]<=2000->CB true s l x t=.go s' l'->AD s'=false:=λx t ht h=>by
        unfold CB at h
        split at h
        ·cases h
        ·split at h
         ·cases h
         ·rename_i h6
          cases h
          rw[Jd]
          simp only[Bool.true_and,Bool.not_eq_true] at h6
          rw[h6]
          simp; omega
       rw[ES]at h1
       unfold Bf at h1
       generalize Ag s p.l=a at h1
       generalize Ag s p.r=b at h1
       split at h1
       ·cases h1
       ·rename_i h7
        split at h1
        ·split at h1
         ·cases h1; exact hg
         ·exact bind _ _ (by omega) h1
        ·split at h1
         ·exact bind _ _ (by omega) h1
         ·split at h1
          ·cases h1; exact hg
          ·cases h1
     rw[h5]at h4
     cases h4
  ·rw[h2]at h
   have h4:=LP n s' l' e sf h h3
   refine⟨8,s,by rw[AQ,h1],λ_=>rfl,λh5=>?_⟩
   rw[h4]at h5
   cases h5
structure Ex (B:Nat) (w w':World):Prop where
 os:w'.os=w.os
 tape:w'.tape=w.tape
 output:w'.output=w.output
 size:w.heap.size<=w'.heap.size
 block:∀k,k<w.heap.size->k≠B->w'.heap[k]? = w.heap[k]?
theorem Ex.refl (B:Nat) (w:World):Ex B w w:=⟨rfl,rfl,rfl,Aj _,λ_ _ _=>rfl⟩
theorem Ex.trans {B:Nat} {a b c:World} (h:Ex B a b) (k:Ex B b c):Ex B a c:=
 ⟨k.os.trans h.os,k.tape.trans h.tape,k.output.trans h.output,AX h.size k.size,λi hi hn=>(k.block i (Do hi h.size) hn).trans (h.block i hi hn)⟩
theorem Ex.drewN {B:Nat} {a w:World} (h:Ex B a w) (n:Nat):Ex B a (w.drewN n):=⟨h.os,h.tape,h.output,h.size,h.block⟩
theorem Ex.drew {B:Nat} {a w:World} (h:Ex B a w):Ex B a w.drew:=⟨h.os,h.tape,h.output,h.size,h.block⟩
theorem Ex.set {B:Nat} {a w:World} (h:Ex B a w) (i:Nat) (v:Value):Ex B a (w.setCell ⟨B,i,none⟩ v):=
 ⟨h.os,h.tape,h.output,by simpa [World.setCell] using h.size,λk hk hn=>(Aq _ _ _ _ (by simpa using hn)).trans (h.block k hk hn)⟩
theorem Ex.alloc {B:Nat} {a w:World} (h:Ex B a w) (o:Obj):Ex B a (w.alloc o):=
 ⟨h.os,h.tape,h.output,by have:=h.size; simp; omega,λk hk hn=>(AP _ _ _ (Do hk h.size)).trans (h.block k hk hn)⟩
theorem Ac.ex {w w':World} {B b T:Nat} {cs:Array Value} (h:Ac w b cs T) (he:Ex B w w') (hne:b≠B):Ac w' b cs T:=by
 unfold Ac at *
 rw[he.block b (Ac.lt h) hne]; exact h
theorem Ex.mid {B:Nat} {w w1:World} (h:Ex B w w1):∃wm,Below wm.heap.size wm w1/\wm.heap.size=w.heap.size/\Ex B w wm:=by
 by_cases hB:B<w.heap.size
 ·have aa:B<w1.heap.size:=Do hB h.size
  refine⟨{ w with heap:=w.heap.setIfInBounds B w1.heap[B]},⟨h.os,h.tape,h.output,by simpa using h.size,λk hk=>?_⟩,by simp,⟨rfl,rfl,rfl,by simp,λk hk hn=>?_⟩⟩
  ·simp at hk
   by_cases e:k=B
   ·subst e
    simp[Array.getElem?_setIfInBounds,hB,aa]
   ·rw[h.block k hk e]
    simp[Array.getElem?_setIfInBounds,D6 e]
  ·simp[Array.getElem?_setIfInBounds,D6 hn]
 ·exact⟨w,⟨h.os,h.tape,h.output,h.size,λk hk=>h.block k hk (by omega)⟩,rfl,Ex.refl _ _⟩
theorem AN.ex {w w':World} {B N T:Nat} {Y:Nat->Prop} {v:Value} {l:List Tm} {xs:List Value} (h:AN w N T Y v l xs) (he:Ex B w w') (hB:B<N) (hY:¬Y B):AN w' N T Y v l xs:=
 ⟨h.own.kept (w' := w') (row := some B) ⟨he.os, he.tape, he.output, he.size, λj hj hn => he.block j hj (λe => hn (by rw [e]))⟩ (Ae (λe => by have := (h.own.lt B e).1; omega)),
  h.row.imp λa l hs=>((hs.mono (Y:=λb=>(Y b∨(N<=b/\some b≠v.ownBlock))/\b<w.heap.size) λb h1 h2=>⟨h1,h2⟩).kept λb hb=>he.block b hb.2 (λe=>by
   rcases hb.1 with h1|h1
   ·rw[e]at h1; exact hY h1
   ·omega)).mono λb hb _=>hb.1⟩
theorem Ex.grown {B:Nat} {a w w':World} {row:Option Nat} (h:Ex B a w) (hg:w.grownBy w' row) (hr:∀k,row=some k->a.heap.size<=k):Ex B a w':=
 ⟨hg.os.trans h.os,hg.tape.trans h.tape,hg.output.trans h.output,AX h.size hg.size,λk hk hn=>(hg.block k (Do hk h.size) (λe=>by have:=hr k e.symm; omega)).trans (h.block k hk hn)⟩
theorem Ex.setNew {B:Nat} {a w:World} (h:Ex B a w) {b:Nat} (hb:a.heap.size<=b) (i:Nat) (v:Value):Ex B a (w.setCell ⟨b,i,none⟩ v):=
 ⟨h.os,h.tape,h.output,by simpa [World.setCell] using h.size,λk hk hn=>(Aq _ _ _ _ (by simp; omega)).trans (h.block k hk hn)⟩
def AR:Tm->List Int->Option Tm
 |t,[]=>some t
 |t,i::r=>if h:0<=i/\i.toNat<t.args.length then AR (t.args[i.toNat]'h.2) r else none
def PV (w:World) (X:Nat->Prop) (v:Value) (zs:List Int):Prop:=
 ∃a c,v=.slice a zs.length c/\(zs.length<=9223372036854775807/\zs.length<=c)/\(zs=[]∨∃b o,a=some ⟨b,o,none⟩/\X b/\∀i (h:i<zs.length),w.cell? ⟨b,o+i,none⟩=some (.int .i64 zs[i]))
theorem PV.kept {w w':World} {X:Nat->Prop} {v:Value} {zs:List Int} (h:PV w X v zs) (hk:∀b,X b->w'.heap[b]? = w.heap[b]?):PV w' X v zs:=by
 obtain⟨a,c,e,hl,h⟩:=h
 refine⟨a,c,e,hl,?_⟩
 rcases h with h|⟨b,o,e,hx,h⟩
 ·exact Ad h
 ·exact Ae ⟨b,o,e,hx,λi hi=>by rw[CM (hk b hx)]; exact h i hi⟩
theorem PV.mono {w:World} {X Y:Nat->Prop} {v:Value} {zs:List Int} (h:PV w X v zs) (hk:∀b,X b->b<w.heap.size->Y b):PV w Y v zs:=by
 obtain⟨a,c,e,hl,h⟩:=h
 refine⟨a,c,e,hl,?_⟩
 rcases h with h|⟨b,o,e,hx,h⟩
 ·exact Ad h
 ·by_cases h0:zs=[]
  ·exact Ad h0
  ·have hp:0<zs.length:=Fb.2 h0
   exact Ae ⟨b,o,e,hk b hx (World.block_lt_of_cell? w _ (h 0 hp)),h⟩
theorem PV.below {w w':World} {X:Nat->Prop} {v:Value} {zs:List Int} {B:Nat} (h:PV w X v zs) (hb:Below B w w') (hX:∀b,X b->b<w.heap.size->b<B):PV w' X v zs:=by
 have h1:PV w (λb=>X b/\b<B) v zs:=h.mono λb hx hs=>⟨hx,hX b hx hs⟩
 have h2:PV w' (λb=>X b/\b<B) v zs:=h1.kept λb hx=>hb.block b hx.2
 exact h2.mono λb hx _=>hx.1
theorem PV.later {w w':World} {X:Nat->Prop} {v:Value} {zs:List Int} (h:PV w X v zs) (hb:Below w.heap.size w w'):PV w' X v zs:=h.below hb (λ_ _ h=>h)
theorem PV.alloc {w:World} {X:Nat->Prop} {v:Value} {zs:List Int} (h:PV w X v zs) (o:Obj):PV (w.alloc o) X v zs:=h.later ((Af _ _).alloc (Aj _) o)
def J6:Value:=.agg #[.string ⟨#[]⟩,.slice none 0 0]
theorem CO {w:World} (o1 o2:Obj):Below w.heap.size w ((w.alloc o1).alloc o2):=((Af _ _).alloc (Aj _) _).alloc (by simp) _
theorem PV.tail {w:World} {X:Nat->Prop} {b o c:Nat} {z:Int} {zs:List Int} (hl:zs.length+1<=9223372036854775807/\zs.length+1<=c) (hx:X b) (h:∀i (h:i<(z::zs).length),w.cell? ⟨b,o+i,none⟩=some (.int .i64 (z::zs)[i])):
  PV w X (.slice (some ⟨b,o+1,none⟩) zs.length (c-1)) zs:=by
 refine⟨_,_,rfl,by omega,Ae ⟨b,o+1,rfl,hx,λi hi=>?_⟩⟩
 have:=h (i+1) (by simpa using hi)
 rw[show o+1+i=o+(i+1) by omega]
 simpa using this
theorem TV.back {w w':World} {X:Nat->Prop} {v:Value} {t:Tm} {B:Nat} (h:TV w' X v t) (hb:Below B w w') (hX:∀b,X b->b<B):TV w X v t:=by
 obtain⟨a,c,e,h⟩:=h
 exact⟨a,c,e,h.back hb hX⟩
theorem Uy {w:World} {X:Nat->Prop} {v':Value} {o:Option Tm} (h1:∀x,o=some x->TV w X v' x) (h2:o=none->v'=J6):∃s a n c,v'=.agg #[.string s,.slice a n c]:=by
 cases o with
 |none=>exact⟨_,_,_,_,h2 rfl⟩
 |some x=>obtain⟨a,c,e,_⟩:=h1 x rfl; exact⟨_,_,_,_,e⟩
theorem Uz {w w':World} {X:Nat->Prop} {v:Value} {t:Tm} (hb:Below w.heap.size w w') (h:TV w X v t):TV w' X v t:=h.later hb
theorem UA {w w1:World} {o1:Obj} {x0 x1:Value} {T n:Nat} (hb:Below (((w.alloc o1).alloc (.cells #[x0,x1] T)).drewN n).heap.size (((w.alloc o1).alloc (.cells #[x0,x1] T)).drewN n) w1):w1.cell? ⟨w.heap.size+1,0,none⟩=some x0:=by rw[hb.cell (p:=⟨_,_,none⟩) (by simp)]; simp
theorem UB {w w1:World} {o1:Obj} {x0 x1:Value} {T n:Nat} (hb:Below (((w.alloc o1).alloc (.cells #[x0,x1] T)).drewN n).heap.size (((w.alloc o1).alloc (.cells #[x0,x1] T)).drewN n) w1):w1.cell? ⟨w.heap.size+1,1,none⟩=some x1:=by rw[hb.cell (p:=⟨_,_,none⟩) (by simp)]; simp
theorem UC {w w1:World} {o1:Obj} {x0 x1:Value} {T n:Nat} (hb:Below (((w.alloc o1).alloc (.cells #[x0,x1] T)).drewN n).heap.size (((w.alloc o1).alloc (.cells #[x0,x1] T)).drewN n) w1):∀i,w1.frozen? ⟨w.heap.size+1,i,none⟩=false:=by intro i; rw[hb.frozen (p:=⟨_,_,none⟩) (by simp)]; simp
theorem UD {w w1:World} {y0 y1:Value} {o2:Obj} {T n:Nat} (hb:Below (((w.alloc (.cells #[y0,y1] T)).alloc o2).drewN n).heap.size (((w.alloc (.cells #[y0,y1] T)).alloc o2).drewN n) w1):w1.cell? ⟨w.heap.size,1,none⟩=some y1:=by rw[hb.cell (p:=⟨_,_,none⟩) (by simp; omega)]; simp
theorem LQ {w w1:World} {o1 o2:Obj} {n:Nat} {p:Addr} {v:Value} (hb:Below (((w.alloc o1).alloc o2).drewN n).heap.size (((w.alloc o1).alloc o2).drewN n) w1) (h:w.cell? p=some v):w1.cell? p=some v:=
 cell_later ((below_drewN (CO o1 o2) n).trans (hb.mono (by simp; omega))) h
theorem Fc {w:World} {K i j:Nat} {u u' v:Value} {p:Addr} (h:w.cell? p=some v) (hp:p.block≠K):((w.setCell ⟨K,i,none⟩ u).setCell ⟨K,j,none⟩ u').cell? p=some v:=by
 rw[CM (Aq _ _ _ _ (by simpa using hp)),CM (Aq _ _ _ _ (by simpa using hp)),h]
theorem UE {w:World} {K i j:Nat} {u u' v1 v2 v3 v4:Value} {p1 p2 p3 p4:Addr} (h:w.cell? p1=some v1/\w.cell? p2=some v2/\w.cell? p3=some v3/\w.cell? p4=some v4) (h1:p1.block≠K) (h2:p2.block≠K) (h3:p3.block≠K) (h4:p4.block≠K):
  ((w.setCell ⟨K,i,none⟩ u).setCell ⟨K,j,none⟩ u').cell? p1=some v1/\((w.setCell ⟨K,i,none⟩ u).setCell ⟨K,j,none⟩ u').cell? p2=some v2/\((w.setCell ⟨K,i,none⟩ u).setCell ⟨K,j,none⟩ u').cell? p3=some v3/\((w.setCell ⟨K,i,none⟩ u).setCell ⟨K,j,none⟩ u').cell? p4=some v4:=
 ⟨Fc h.1 h1,Fc h.2.1 h2,Fc h.2.2.1 h3,Fc h.2.2.2 h4⟩
theorem UF (zs:List Int):∀(t:Tm) (v p:Value) (w:World) (X:Nat->Prop),TV w X v t->PV w X p zs->
  Calls Tryz.prog 27 #[v,p] w λe w'=>∃v',e=.returned (.tuple #[v',.bool (AR t zs).isSome])/\(∀x,AR t zs=some x->TV w X v' x)/\(AR t zs=none->v'=J6)/\Below w.heap.size w w':=by
 induction zs with
 |nil=>
  intro t v p w X hv hp
  obtain⟨a,c,rfl,hs⟩:=hv
  obtain⟨pa,pc,rfl,aq,hz⟩:=hp
  have HS:Hid (AR t []=some t):=by simp[Hid,AR]
  go_enter Tryz.func27,Tryz.ntmps27
  go_wp2_with fail
  refine Ap (v:=.tuple #[.agg #[.string t.name,.slice a t.args.length c],.bool true]) (by simp[results,Tryz.results27,go_sem]) rfl ⟨_,by rw[HS.out]; rfl,?_,?_,CO _ _⟩
  ·intro x hx
   rw[HS.out]at hx
   obtain rfl:=Hf hx
   exact⟨a,c,rfl,hs⟩
  ·intro h; rw[HS.out] at h; cases h
 |cons z zs ih=>
  intro t v p w X0 hv0 ar
  have IH:=Aa ih
  clear ih
  obtain⟨X,hX,ax,hv,hp⟩:∃X:Nat->Prop,(∀b,X b->b<w.heap.size)/\(∀b,X b->X0 b)/\TV w X v t/\PV w X p (z::zs):=⟨λb=>X0 b/\b<w.heap.size,λ_ h=>h.2,λ_ h=>h.1,hv0.mono λb h1 h2=>⟨h1,h2⟩,ar.mono λb h1 h2=>⟨h1,h2⟩⟩
  clear hv0 ar
  obtain⟨a,c,rfl,hs⟩:=hv
  obtain⟨pa,pc,rfl,aq,hz⟩:=hp
  obtain⟨b,o,rfl,hx,hcell⟩:=hz.resolve_left (λh=>by cases h)
  have h0:=hcell 0 (by simp)
  simp only[FL,Et] at h0
  have aB:=λo1 o2=>cell_later (CO (w:=w) o1 o2) h0
  have hne:(((z::zs).length:Nat):Int)=(zs.length:Int)+1:=by simp
  have aC:=hs.1
  have af:zs.length+1<=9223372036854775807/\zs.length+1<=pc:=by simpa using aq
  obtain⟨ag,ah⟩:=af
  simp only[Bs] at *
  by_cases au:0<=z/\z.toNat<t.args.length
  ·obtain⟨ay,av⟩:=au
   obtain⟨b1,o1,a2,c2,rfl,e0,e1,hx2⟩:=hs.get (Af w.heap.size w) (λ_ _ h=>h) _ av
   have d0:=λo1 o2=>cell_later (CO (w:=w) o1 o2) e0
   have d1:=λo1 o2=>cell_later (CO (w:=w) o1 o2) e1
   have az:=e0
   have a6:=e1
   have ai:Hid (AR t (z::zs)=AR (t.args[z.toNat]) zs):=by
    unfold Hid; simp only[AR]; rw[DX ⟨ay,av⟩]
   have hz0:¬z<0:=by omega
   have hz1:z<(t.args.length:Int):=by omega
   obtain⟨sa,a7,HT⟩:∃sa:Option Addr,Hid ((if pc=1 then some (⟨b,o,none⟩:Addr) else some ⟨b,o+1,none⟩)=sa)/\Hid (PV w X (.slice sa zs.length (pc-1)) zs):=by
    by_cases h1:pc=1
    ·refine⟨_,rfl,?_⟩
     have:zs=[]:=Ew.1 (by omega)
     subst this
     exact⟨_,_,rfl,by simp,Ad rfl⟩
    ·refine⟨_,rfl,?_⟩
     rw[An h1]
     exact PV.tail ⟨ag,ah⟩ hx hcell
   have HX:=Aa hx2
   clear hcell
   have aj:∀o1 o2 n,PV (((w.alloc o1).alloc o2).drewN n) X (.slice sa zs.length (pc-1)) zs:=λo1 o2 n=>HT.out.later (below_drewN (CO _ _) _)
   have a8:b<w.heap.size:=World.block_lt_of_cell? w _ h0
   have aw:b1<w.heap.size:=World.block_lt_of_cell? w _ e0
   clear e0 e1
   have aj:=Aa aj
   by_cases ak:pc=1
   all_goals
    have ao:=a7.out
    first|rw[As ak] at ao|rw[An ak] at ao
    subst ao
    try (have hnil:zs=[]:=Ew.1 (by omega); subst hnil; subst ak)
    go_enter Tryz.func27,Tryz.ntmps27
    go_wp2_with fail
    go_quiet (fail)
    go_wp2_with fail
    go_region_held (λw'=>w'.cell? ⟨w.heap.size,1,none⟩=some (.slice (some ⟨b1,o1,none⟩) t.args.length c)/\w'.cell? ⟨b,o,none⟩=some (.int .i64 z)/\w'.cell? ⟨b1,o1+z.toNat*2,none⟩=some (.string t.args[z.toNat].name)/\w'.cell? ⟨b1,o1+z.toNat*2+1,none⟩=some (.slice a2 t.args[z.toNat].args.length c2)) (first|assumption|(simp[*]; done)|exact UE aA (by simp) (by simp; omega) (by simp; omega) (by simp; omega))
     ((go_at_call 27; refine(IH.out _ _ _ _ X (by exact Uz (below_drewN (CO _ _) _) HX.out) (by exact aj.out _ _ _)).mono ?_; rintro e w1 ⟨v',rfl,aa,hno,hb1⟩; obtain⟨s1,a3,n3,c3,rfl⟩:=Uy aa hno; have f0:=UA hb1; have f1:=UB hb1; have f2:=UC hb1; have aA:=And.intro (UD hb1) (And.intro (LQ hb1 h0) (And.intro (LQ hb1 az) (LQ hb1 a6)))))
    go_wp2_with fail
    refine Ap (v:=.tuple #[.agg #[.string s1,.slice a3 n3 c3],.bool _]) (by simp[results,Tryz.results27,go_sem,f0,f1,AU,AG]; rfl) rfl ⟨_,by rw[ai.out],?_,?_,?_⟩
    ·rw[ai.out]; intro x hx; exact((aa x hx).back (below_drewN (CO _ _) _) hX).mono λb hb _=>ax b hb
    ·rw[ai.out]; exact hno
    ·exact(((below_drewN (CO _ _) _).trans (hb1.mono (by simp; omega))).setCell (by simp) _).setCell (by simp) _
  ·have HN:Hid (AR t (z::zs)=none):=by
     unfold Hid; simp only[AR]; rw[dif_neg au]
   have ae:z<0∨(¬z<0/\(t.args.length:Int)<=z):=by omega
   rcases ae with h0|⟨h0,h1⟩
   all_goals
    go_enter Tryz.func27,Tryz.ntmps27
    go_wp2_with fail
    go_quiet (fail)
    go_wp2_with fail
    refine Ap (v:=.tuple #[J6,.bool false]) (by simp[results,Tryz.results27,go_sem,J6]) rfl ⟨_,by rw[HN.out]; rfl,?_,λ_=>rfl,((below_drewN (CO _ _) _).setCell (by simp) _).setCell (by simp) _⟩
    intro x hx
    rw[HN.out]at hx
    cases hx
theorem Fd {w:World} (o1 o2 o3:Obj):Below w.heap.size w (((w.alloc o1).alloc o2).alloc o3):=(CO o1 o2).alloc (by simp; omega) o3
theorem UG {w:World} (o1 o2 o3 o4:Obj):Below w.heap.size w ((((w.alloc o1).alloc o2).alloc o3).alloc o4):=(Fd o1 o2 o3).alloc (by simp; omega) o4
theorem UH {w wr w1 w3:World} {T k:Nat} {u:Value} {l:List Tm} {xs:List Value} {o1 o2:Obj} {s s':ByteArray} {a1:Option Addr} {n1 c1 g cap:Nat} {c0:Array Value} (hrow:AN wr (w.heap.size+3) T (λ_=>False) u (l.take k) xs) (hb:Below w.heap.size w wr)
  (h1:Ac wr (w.heap.size+1) c0 T) (h2:Ac wr (w.heap.size+1+1) #[.string s,u] T) (hsz:w.heap.size+3<=wr.heap.size) (hlt:k<l.length)
  (hb1:Below (wr.alloc o1).drew.heap.size (wr.alloc o1).drew w1) (ht:TV w1 (λb=>(wr.alloc o1).drew.heap.size<=b) (.agg #[.string s',.slice a1 n1 c1]) l[k])
  (hown:w3.ownsRow (w.heap.size+3) T 2 (.slice (some ⟨g,0,none⟩) ((l.take k).length+1) cap) ((l.take k).length+1) (xs++[.string s',.slice a1 n1 c1])) (hg:(w1.alloc o2).grownBy w3 u.ownBlock) (hat:u.ownBlock=some g∨g=(w1.alloc o2).heap.size):
  let w4:=w3.setCell ⟨w.heap.size+1+1,1,none⟩ (.slice (some ⟨g,0,none⟩) ((l.take k).length+1) cap)
  AN w4 (w.heap.size+3) T (λ_=>False) (.slice (some ⟨g,0,none⟩) ((l.take k).length+1) cap) (l.take (k+1)) (xs++[.string s',.slice a1 n1 c1])/\Below w.heap.size w w4/\Ac w4 (w.heap.size+1) c0 T/\Ac w4 (w.heap.size+1+1) #[.string s,.slice (some ⟨g,0,none⟩) ((l.take k).length+1) cap] T/\w.heap.size+3<=w4.heap.size:=by
 intro w4
 have ae:Below wr.heap.size wr (wr.alloc o1).drew:=((Af _ _).alloc (Aj _) o1).drew
 have hr1:=hrow.below ae
 have aa:=hrow.own.lt
 have hs1:=hb1.size
 have af:=hg.size
 simp at hs1 af
 have hp:=hr1.push (w1:=w1) (w2:=w1.alloc o2) (w3:=w3) (by simp; omega) (λ_ h=>h.elim) hb1 (ht.mono λb h _=>Ae h) o2 rfl hown hg hat
 have hw3:Below w.heap.size w w3:=(((hb.trans (ae.mono (by omega))).trans (hb1.mono (by simp; omega))).alloc (by omega) o2).grown hg (by simp; omega) (λj hj=>by have:=(aa j hj).1; omega)
 have hA:Below w.heap.size w w4:=hw3.setCell (p:=⟨w.heap.size+1+1,1,none⟩) (by simp; omega) _
 refine⟨?_,hA,(LI h1 hb1 hg (λe=>by have:=(aa _ e.symm).1; omega)).setOther _ _ (by omega),?_,by simp[w4,World.setCell]; omega⟩
 ·rw[Bm hlt]
  exact hp.setCell (by omega) (λh=>h) _
 ·exact(LI h2 hb1 hg (λe=>by have:=(aa _ e.symm).1; omega)).set 1 _
theorem UJ (t:Tm):∀(v:Value) (w:World) (X:Nat->Prop),TV w X v t->Ab [t]<=1000000->
  Calls Tryz.prog 69 #[v] w λe w'=>∃v',e=.returned v'/\TV w' (λb=>w.heap.size<=b) v' t/\Below w.heap.size w w':=by
 induction t using Tm.ind with
 |h s l ih=>
  intro v w X hv hsm
  have IH:=Aa ih
  clear ih
  obtain⟨a,c,rfl,hs⟩:=hv
  have hl:=hs.1
  have hz:Ab [(⟨s,l⟩:Tm)]=1+Ab l:=by simp[Ab]
  rw[hz]at hsm
  clear hz
  have hlen:=Ez l
  obtain⟨i0,hi,hz0,hz1,hz2⟩:=CT Tryz.infoTerm
  go_enter Tryz.func69,Tryz.ntmps69
  go_wp2_with fail
  go_loopw [12] (λi wr=>∃(k:Nat) (u:Value) (xs:List Value),k<=l.length/\i=.int .i64 k/\AN wr (w.heap.size+3) 29 (λ_=>False) u (l.take k) xs/\Below w.heap.size w wr/\Ac wr (w.heap.size+1) #[.string ⟨#[]⟩,.slice none 0 0] 29/\Ac wr (w.heap.size+1+1) #[.string s,u] 29/\w.heap.size+3<=wr.heap.size) (λi wr=>l.length-(intOf i).toNat)
  case atStart=>
   refine⟨0,.slice none 0 0,[],AE _,rfl,AN.start _ _ _ _,Fd _ _ _,?_,?_,by simp⟩
   ·have:=((Ac.new (w.alloc (.cells #[.string s,.slice a l.length c] 29)) #[.string ⟨#[]⟩,.slice none 0 0] 29)).alloc (.cells #[.string s,.slice none 0 0] 29)
    simpa using this
   ·have:=Ac.new ((w.alloc (.cells #[.string s,.slice a l.length c] 29)).alloc (.cells #[.string ⟨#[]⟩,.slice none 0 0] 29)) #[.string s,.slice none 0 0] 29
    simpa using this
  case round=>
   obtain⟨k,u,xs,hk,rfl,hrow,hb,ak,ae,hsz⟩:=hrel
   have af:=Aa hrow
   have ag:=Aa ak
   have ah:=Aa ae
   have HB:=Aa hb
   clear hrow ak
   by_cases hlt:k<l.length
   ·obtain⟨b,o,a',c',rfl,d0,d1,hx⟩:=hs.get hb (λ_ _ h=>h) k hlt
    have hc2:∀o,(wr.alloc o).cell? ⟨w.heap.size+1+1,1,none⟩=some u:=λo=>(ae.alloc o).cell 1
    have HX:=Aa hx
    have aq:Ab [l[k]]<=1000000:=by
     have:=C4 l k hlt; have:=C5 l (k+1); omega
    clear ae hb hx
    go_wp2_with fail
    go_region_law (first
     | (go_simp; go_at_call 69; refine(IH.out _ (AV hlt) _ _ X (by exact(HX.out.alloc _).later (below_drewN (Af _ _) 1)) aq).mono ?_; rintro e w1 ⟨v1,rfl,ax,hb1⟩; obtain⟨a1,c1,rfl,hs1⟩:=ax; have hc3:∀o,(w1.alloc o).cell? ⟨w.heap.size+1+1,1,none⟩=some u:=λo=>((((ah.out.alloc _).drewN 1).below hb1 (by simp; omega)).alloc o).cell 1; have ay:w1.cell? ⟨w.heap.size+1+1,1,none⟩=some u:=(((ah.out.alloc _).drewN 1).below hb1 (by simp; omega)).cell 1)
     | (refine step_append_lies _ rfl _ _ 27 rfl (w.heap.size+3) 29 i0 _ 2 40 Tryz.underlying27 hi hz0 hz1 hz2 rfl (by decide) u (l.take k).length xs rfl (by exact(((af.out.below ((Af _ _).alloc (Aj _) _)).below (below_drewN (Af _ _) 1)).below hb1).own.alloc _) ⟨w1.heap.size,0,none⟩ 1 1 [.string l[k].name,.slice a1 l[k].args.length c1] rfl rfl (cell_two_new _ _ _ _) (λx hx=>by simp at hx; rcases hx with rfl|rfl<;>rfl) (by decide) (by unfold maxLen; simp; omega) (by simp; omega) (by have:=hb1.size; simp at this ⊢; omega) _ rfl ?_; intro g cap w3 ai aa ao az; have au:=Aa (LI ah.out hb1 aa (af.out.ne (EM _))); have aB:w3.cell? ⟨w.heap.size+1+1,1,none⟩=some u:=au.out.cell 1; have aC:=au.out.frozen 1))
    all_goals
     have ar:=Aa (UH af.out HB.out ag.out ah.out hsz hlt hb1 ⟨a1,c1,rfl,hs1⟩ ai aa ao)
     clear ai aa ao hc2 hc3 ay
     go_wp2_with fail
     go_roundw
     case rel=>
      have a6:(l.take k).length=k:=by simp; omega
      obtain⟨r1,r2,r3,r4,r5⟩:=ar.out
      simp only[a6] at r1 r2 r3 r4 r5
      exact⟨k+1,_,_,by omega,by go_num,r1,r2,r3,r4,r5⟩
     case measure=>simp[intOf]; omega
   ·have av:l.take k=l:=AW (by omega)
    have hc0:=ae.cell 0
    have aD:=ae.cell 1
    have a7:=ag.out.cell 0
    have hr1:=ag.out.cell 1
    have aF:=ag.out.frozen
    obtain⟨a9,c9,aw,aj⟩:=af.out.sl
    rw[av]at aw aj
    have a8:=Aa aj
    subst aw
    clear aj av ae
    go_wp2_with fail
    refine Ap (v:=.agg #[.string s,.slice a9 l.length c9]) (by simp[results,Tryz.results69,go_sem,a7,hr1,AU,AG]) rfl ⟨_,rfl,?_,?_⟩
    ·refine⟨a9,c9,rfl,?_⟩
     have aA:Sl wr (λb=>w.heap.size+3<=b) a9 l:=a8.out.mono λb h _=>h.elim False.elim id
     exact((aA.kept λb hb=>by rw[Aq _ _ _ _ (by simp; omega),Aq _ _ _ _ (by simp; omega)]).mono λb hb _=>by omega)
    ·exact(HB.out.setCell (by simp) _).setCell (by simp) _
def FU (w:World) (F:Nat) (sv:Value) (t:Tm) (n:Nat) (e:Ending) (w':World):Prop:=
 ∃(s':ByteArray) (a':Option Addr) (l' c':Nat) (m:Int),e=.returned (.agg #[.string s',.slice a' l' c'])/\Ac w' F #[.int .i64 m,sv] 120/\Ex F w w'/\(Ab [t]<=n->m=(n:Int)-Ab [t]/\s'=t.name/\l'=t.args.length/\Sl w' (λb=>w.heap.size<=b) a' t.args)/\(n<Ab [t]->m=-1)
theorem UK (F:Nat) (sv:Value) (t:Tm) (n:Nat) (a:Option Addr) (c:Nat) (w:World) (ag:F<w.heap.size) (h:Calls Tryz.prog 102 #[.pointer (some ⟨F,0,none⟩),.agg #[.string t.name,.slice a t.args.length c],.func (.func 103) #[.pointer (some ⟨F,0,none⟩)] #[]] ((w.alloc (.cells #[.string t.name,.slice a t.args.length c] 29)).alloc (.cells #[.string ⟨#[]⟩,.slice none 0 0] 29)) λe w'=>FU ((w.alloc (.cells #[.string t.name,.slice a t.args.length c] 29)).alloc (.cells #[.string ⟨#[]⟩,.slice none 0 0] 29)) F sv t n e w'):
  Calls Tryz.prog 103 #[.pointer (some ⟨F,0,none⟩),.agg #[.string t.name,.slice a t.args.length c]] w λe w'=>FU w F sv t n e w':=by
 have ah:=@hmq Tryz.prog
 have H:=Aa h
 clear h
 go_enter Tryz.func103,Tryz.ntmps103
 go_wp2_with fail
 refine H.out.mono ?_
 rintro e w1 ⟨s',a',l',c',m,rfl,aa,hx1,ae,af⟩
 have R1:Hid (Ac w1 (w.heap.size+1) #[.string ⟨#[]⟩,.slice none 0 0] 29):=by
  have h:=(Ac.new (w.alloc (.cells #[.string t.name,.slice a t.args.length c] 29)) #[.string ⟨#[]⟩,.slice none 0 0] 29).ex hx1 (by simp; omega)
  unfold Hid
  simpa using h
 have HX:=Aa ((((Ex.refl F w).alloc (.cells #[.string t.name,.slice a t.args.length c] 29)).alloc (.cells #[.string ⟨#[]⟩,.slice none 0 0] 29)).trans hx1)
 have HF:=Aa aa
 have HY:=Aa ae
 have HN:=Aa af
 clear aa hx1 ae af
 have r0:=R1.out.c0
 have r1:=R1.out.c1
 have rf:=R1.out.frozen
 go_wp2_with fail
 refine Ap (v:=.agg #[.string s',.slice a' l' c']) (by simp[results,Tryz.results103,go_sem,AU,AG,r0,r1]) rfl ?_
 refine⟨s',a',l',c',m,rfl,(HF.out.setOther _ _ (by omega)).setOther _ _ (by omega),(HX.out.setNew (by omega) _ _).setNew (by omega) _ _,λh=>?_,HN.out⟩
 obtain⟨h1,h2,h3,h4⟩:=HY.out h
 refine⟨h1,h2,h3,(h4.kept λb hb=>?_).mono λb hb _=>by simp at hb; omega⟩
 simp at hb
 rw[Aq _ _ _ _ (by simp; omega),Aq _ _ _ _ (by simp; omega)]
theorem Sl.ex {w w':World} {F:Nat} {X:Nat->Prop} {a:Option Addr} {l:List Tm} (h:Sl w X a l) (he:Ex F w w') (hX:∀b,X b->b≠F):Sl w' X a l:=
 ((h.mono (Y:=λb=>X b/\b<w.heap.size) λb h1 h2=>⟨h1,h2⟩).kept λb hb=>he.block b hb.2 (hX b hb.1)).mono λb hb _=>hb.1
def Iq (w:World) (F O:Nat) (s:ByteArray) (u:Value) (cF:Array Value) (wr:World):Prop:=
 Ex F w wr/\Ac wr (w.heap.size+1) #[.string ⟨#[]⟩,.slice none 0 0] 29/\Ac wr O #[.string s,u] 29/\Ac wr F cF 120/\O<wr.heap.size
theorem J7 {w wr w1 w3:World} {F O:Nat} {s:ByteArray} {u v:Value} {cF ae:Array Value} {o2:Obj} (ag:F<w.heap.size) (hO:w.heap.size+2<=O) (h:Iq w F O s u cF wr) (hu:∀k,u.ownBlock=some k->O+1<=k)
  (aa:Ex F wr w1) (af:Ac w1 F ae 120) (hg:(w1.alloc o2).grownBy w3 u.ownBlock):Iq w F O s v ae (w3.setCell ⟨O,1,none⟩ v):=by
 obtain⟨h1,h2,h3,h4,h5⟩:=h
 have hne:∀b,b<O+1->some b≠u.ownBlock:=λb hb e=>by have:=hu b e.symm; omega
 have hs1:=aa.size
 have hs3:=hg.size
 simp at hs3
 refine⟨(((h1.trans aa).alloc o2).grown hg (λk hk=>by have:=hu k hk; omega)).setNew (by omega) _ _,?_,?_,?_,by simp[World.setCell]; omega⟩
 ·exact(((h2.ex aa (by omega)).alloc o2).grown hg (hne _ (by omega))).setOther _ _ (by omega)
 ·exact(((h3.ex aa (by omega)).alloc o2).grown hg (hne _ (by omega))).set 1 _
 ·exact((af.alloc o2).grown hg (hne _ (by omega))).setOther _ _ (by omega)
theorem N7 {wr w1 w3:World} {F O:Nat} {u:Value} {L:List Tm} {xs:List Value} {o2:Obj} {s':ByteArray} {a1:Option Addr} {n1 c1 g cap:Nat} {t:Tm} (ah:F<O) (hOr:O<wr.heap.size) (hrow:AN wr (O+1) 29 (λ_=>False) u L xs)
  (aa:Ex F wr w1) (ht:TV w1 (λb=>wr.heap.size<=b) (.agg #[.string s',.slice a1 n1 c1]) t)
  (hown:w3.ownsRow (O+1) 29 2 (.slice (some ⟨g,0,none⟩) (L.length+1) cap) (L.length+1) (xs++[.string s',.slice a1 n1 c1])) (hg:(w1.alloc o2).grownBy w3 u.ownBlock) (hat:u.ownBlock=some g∨g=(w1.alloc o2).heap.size):
  AN (w3.setCell ⟨O,1,none⟩ (.slice (some ⟨g,0,none⟩) (L.length+1) cap)) (O+1) 29 (λ_=>False) (.slice (some ⟨g,0,none⟩) (L.length+1) cap) (L++[t]) (xs++[.string s',.slice a1 n1 c1]):=by
 obtain⟨wm,ae,hsm,af⟩:=aa.mid
 have ag:=hrow.ex af (by omega) (λh=>h)
 exact(ag.push (w1:=w1) (w2:=w1.alloc o2) (w3:=w3) (by omega) (λ_ h=>h.elim) ae (ht.mono λb h _=>Ae (by omega)) o2 rfl hown hg hat).setCell (by omega) (λh=>h) _
def N8 (w:World) (F O:Nat) (s:ByteArray) (sv:Value) (l:List Tm) (n:Nat) (i:Value) (wr:World):Prop:=
 ∃(k:Nat) (u:Value),k<=l.length/\i=.int .i64 (k:Int)/\
  ((∃(m:Nat) (xs:List Value),(m:Int)=(n:Int)-1-Ab (l.take k)/\Iq w F O s u #[.int .i64 (m:Int),sv] wr/\AN wr (O+1) 29 (λ_=>False) u (l.take k) xs)∨
   (n<1+Ab l/\Iq w F O s u #[.int .i64 (-1),sv] wr/\∃a9 l9 c9,u=.slice a9 l9 c9))
theorem J8 (F:Nat) (sv:Value) (t:Tm):∀(n:Nat) (v:Value) (w:World) (X:Nat->Prop),TV w X v t->(∀b,X b->b≠F)->n<=1000000->Ac w F #[.int .i64 (n:Int),sv] 120->
  Calls Tryz.prog 102 #[.pointer (some ⟨F,0,none⟩),v,.func (.func 103) #[.pointer (some ⟨F,0,none⟩)] #[]] w λe w'=>FU w F sv t n e w':=by
 induction t using Tm.ind with
 |h s l ih=>
  intro n v w X hv aC hn hF
  obtain⟨a,c,rfl,hs⟩:=hv
  have IH:=Aa ih
  clear ih
  obtain⟨i0,aD,hz0,hz1,hz2⟩:=CT Tryz.infoTerm
  have f0:∀o,(w.alloc o).cell? ⟨F,0,none⟩=some (.int .i64 (n:Int)):=λo=>(hF.alloc o).cell 0
  have ff:∀o,(w.alloc o).frozen? ⟨F,0,none⟩=false:=λo=>(hF.alloc o).frozen 0
  have aF:F<w.heap.size:=hF.lt
  go_enter Tryz.func102,Tryz.ntmps102
  go_wp2_with fail
  have E3:Hid (Iq w F (w.heap.size+1+1) s (.slice none 0 0) #[.int .i64 ((n:Int)-1),sv] ((((w.setCell ⟨F,0,none⟩ (.int .i64 ((n:Int)-1))).alloc (.cells #[.string s,.slice a l.length c] 29)).alloc (.cells #[.string ⟨#[]⟩,.slice none 0 0] 29)).alloc (.cells #[.string s,.slice none 0 0] 29))):=by
   refine⟨((((Ex.refl F w).set 0 _).alloc _).alloc _).alloc _,?_,?_,(((hF.set 0 _).alloc _).alloc _).alloc _,by simp[World.setCell]⟩
   ·have h:=(Ac.new ((w.setCell ⟨F,0,none⟩ (.int .i64 ((n:Int)-1))).alloc (.cells #[.string s,.slice a l.length c] 29)) #[.string ⟨#[]⟩,.slice none 0 0] 29).alloc (.cells #[.string s,.slice none 0 0] 29)
    simpa [World.setCell] using h
   ·have h:=Ac.new (((w.setCell ⟨F,0,none⟩ (.int .i64 ((n:Int)-1))).alloc (.cells #[.string s,.slice a l.length c] 29)).alloc (.cells #[.string ⟨#[]⟩,.slice none 0 0] 29)) #[.string s,.slice none 0 0] 29
    simpa [World.setCell] using h
  generalize ((((w.setCell ⟨F,0,none⟩ (.int .i64 ((n:Int)-1))).alloc (.cells #[.string s,.slice a l.length c] 29)).alloc (.cells #[.string ⟨#[]⟩,.slice none 0 0] 29)).alloc (.cells #[.string s,.slice none 0 0] 29))=w3 at *
  generalize aH:w.heap.size+1+1=O at *
  have hO:w.heap.size+2<=O:=by omega
  clear aH
  clear f0 ff
  have HS:=Aa hs
  have hl:=hs.1
  have az:=Aa aC
  have hz:Ab [(⟨s,l⟩:Tm)]=1+Ab l:=by simp[Ab]
  clear hs aC
  go_loopw [23] (λi wr=>N8 w F O s sv l n i wr) (λi wr=>l.length-(intOf i).toNat)
  case atStart=>
   refine⟨0,.slice none 0 0,AE _,rfl,?_⟩
   by_cases aI:n=0
   ·subst aI
    exact Ae ⟨by omega,E3.out,none,0,0,rfl⟩
   ·refine Ad ⟨n-1,[],by simp[Ab]; omega,?_,AN.start _ _ _ _⟩
    rw[show((n-1:Nat):Int)=(n:Int)-1 by omega]
    exact E3.out
  case round=>
   obtain⟨k,u,hk,rfl,ao⟩:=hrel
   rcases ao with ⟨m,xs,hm,ag,hrow⟩|⟨aJ,ag,a9,l9,c9,rfl⟩
   ·have XS:=Aa ag
    have XW:=Aa hrow
    have aw:=Aa hm
    clear ag hrow
    by_cases hlt:k<l.length
    ·obtain⟨b,o,a',c',rfl,d0,d1,hx⟩:=(HS.out.ex XS.out.1 az.out).get (Af _ _) (λ_ _ h=>h) k hlt
     obtain⟨av,cv,ev,aK⟩:=hx
     simp at ev
     obtain⟨rfl,rfl⟩:=ev
     have aL:m<=1000000:=by omega
     have ak:Hid (O≠F):=by unfold Hid; omega
     have aq:Hid (F<O+1):=by unfold Hid; omega
     have hlen:=Ez l
     have hsk:(l.take k).length=k:=by simp; omega
     have aQ:k<=1000000:=by have h1:=Ez (l.take k); rw[hsk] at h1; omega
     have ax:Hid ((l.take k).length+1<=maxLen/\((l.take k).length+1)*40<=140737488355328):=by unfold Hid; rw[hsk]; exact⟨by unfold maxLen; omega,by omega⟩
     clear hsk
     have ay:Hid (Calls Tryz.prog 103 #[.pointer (some ⟨F,0,none⟩),.agg #[.string l[k].name,.slice a' l[k].args.length c']] (wr.alloc (.cells #[.string l[k].name,.slice a' l[k].args.length c'] 29)).drew λe w''=>FU (wr.alloc (.cells #[.string l[k].name,.slice a' l[k].args.length c'] 29)).drew F sv l[k] m e w''):=UK F sv l[k] m a' c' _ (by have:=XS.out.1.size; simp; omega) (IH.out l[k] (AV hlt) m _ _ X ⟨a',c',rfl,((aK.later ((Af _ _).alloc (Aj _) (.cells #[.string l[k].name,.slice a' l[k].args.length c'] 29))).later ((Af _ _).drew)).later (((Af _ _).alloc (Aj _) _).alloc (by simp) _)⟩ az.out aL (by exact((((XS.out.2.2.2.1.alloc _).drewN 1).alloc _).alloc _)))
     have f0:∀o,(wr.alloc o).cell? ⟨F,0,none⟩=some (.int .i64 (m:Int)):=λo=>(XS.out.2.2.2.1.alloc o).cell 0
     have o1:∀o,(wr.alloc o).cell? ⟨O,1,none⟩=some u:=λo=>(XS.out.2.2.1.alloc o).cell 1
     have aR:¬(m:Int)<0:=by omega
     by_cases hle:Ab [l[k]]<=m
     ·have a6:Hid (Calls Tryz.prog 103 #[.pointer (some ⟨F,0,none⟩),.agg #[.string l[k].name,.slice a' l[k].args.length c']] (wr.alloc (.cells #[.string l[k].name,.slice a' l[k].args.length c'] 29)).drew λe w''=>∃a1 c1,e=.returned (.agg #[.string l[k].name,.slice a1 l[k].args.length c1])/\Ac w'' F #[.int .i64 ((m:Int)-Ab [l[k]]),sv] 120/\Ex F wr w''/\Sl w'' (λb=>wr.heap.size<=b) a1 l[k].args):=ay.out.mono λe w'' hp=>by
       obtain⟨s1,a1,l1,c1,m1,h1,h2,h3,h4,_⟩:=hp
       obtain⟨rfl,rfl,rfl,h5⟩:=h4 hle
       exact⟨a1,c1,h1,h2,(((Ex.refl F wr).alloc _).drew).trans h3,h5.mono λb hb _=>by simp at hb; omega⟩
      clear ay
      go_wp2_with fail
      go_region_law (first
       | (go_simp; go_at_call 103; refine a6.out.mono ?_; rintro e w1 ⟨a1,c1,rfl,ar,ae,hs1⟩; have hc3:∀o,(w1.alloc o).cell? ⟨O,1,none⟩=some u:=λo=>((Ac.ex XS.out.2.2.1 ae ak.out).alloc o).cell 1; have a7:w1.cell? ⟨O,1,none⟩=some u:=(Ac.ex XS.out.2.2.1 ae ak.out).cell 1)
       | (refine step_append_lies _ rfl _ _ 27 rfl (O+1) 29 i0 _ 2 40 Tryz.underlying27 aD hz0 hz1 hz2 rfl (by decide) u (l.take k).length xs rfl (by exact(AN.ex (B:=F) XW.out ae aq.out (λh=>h)).own.alloc _) ⟨w1.heap.size,0,none⟩ 1 1 [.string l[k].name,.slice a1 l[k].args.length c1] rfl rfl (cell_two_new _ _ _ _) (λx hx=>by simp at hx; rcases hx with rfl|rfl<;>rfl) (by decide) ax.out.1 ax.out.2 (by have:=ae.size; have:=XS.out.2.2.2.2; simp; omega) _ rfl ?_; intro g cap w3 af aa ah ai; have aj:=Aa (((Ac.ex XS.out.2.2.1 ae ak.out).alloc _).grown aa (XW.out.ne (EM _))); have a8:w3.cell? ⟨O,1,none⟩=some u:=aj.out.cell 1; have aA:=aj.out.frozen 1))
      all_goals
       have HK:=Aa (J7 (v:=.slice (some ⟨g,0,none⟩) ((l.take k).length+1) cap) aF hO XS.out (λj hj=>(XW.out.own.lt j hj).1) ae ar aa)
       have aM:=Aa (N7 (by omega) XS.out.2.2.2.2 XW.out ae ⟨a1,c1,rfl,hs1⟩ af aa ah)
       clear af aa ah hc3 a7 a8 aA aj ar ae hs1 ai
       go_wp2_with fail
       go_roundw
       case rel=>
        have aB:(l.take k).length=k:=by simp; omega
        have h1:=HK.out
        have h2:=aM.out
        have aG:=aw.out
        simp only[aB] at h1 h2
        refine⟨k+1,.slice (some ⟨g,0,none⟩) (k+1) cap,by omega,by go_num,Ad ⟨m-Ab [l[k]],xs++[.string l[k].name,.slice a1 l[k].args.length c1],by rw[C4 l k hlt]; omega,?_,?_⟩⟩
        ·rw[show((m-Ab [l[k]]:Nat):Int)=(m:Int)-Ab [l[k]] by omega]
         exact h1
        ·rw[Bm hlt]
         exact h2
       case measure=>simp[intOf]; omega
     ·have a6:Hid (Calls Tryz.prog 103 #[.pointer (some ⟨F,0,none⟩),.agg #[.string l[k].name,.slice a' l[k].args.length c']] (wr.alloc (.cells #[.string l[k].name,.slice a' l[k].args.length c'] 29)).drew λe w''=>∃s1 a1 l1 c1,e=.returned (.agg #[.string s1,.slice a1 l1 c1])/\Ac w'' F #[.int .i64 (-1),sv] 120/\Ex F wr w''):=ay.out.mono λe w'' hp=>by
       obtain⟨s1,a1,l1,c1,m1,h1,h2,h3,_,h4⟩:=hp
       obtain rfl:=h4 (by omega)
       exact⟨s1,a1,l1,c1,h1,h2,(((Ex.refl F wr).alloc _).drew).trans h3⟩
      clear ay
      go_wp2_with fail
      go_region_law (first
       | (go_simp; go_at_call 103; refine a6.out.mono ?_; rintro e w1 ⟨s1,a1,l1,c1,rfl,ar,ae⟩; have hc3:∀o,(w1.alloc o).cell? ⟨O,1,none⟩=some u:=λo=>((Ac.ex XS.out.2.2.1 ae ak.out).alloc o).cell 1; have a7:w1.cell? ⟨O,1,none⟩=some u:=(Ac.ex XS.out.2.2.1 ae ak.out).cell 1)
       | (refine step_append_lies _ rfl _ _ 27 rfl (O+1) 29 i0 _ 2 40 Tryz.underlying27 aD hz0 hz1 hz2 rfl (by decide) u (l.take k).length xs rfl (by exact(AN.ex (B:=F) XW.out ae aq.out (λh=>h)).own.alloc _) ⟨w1.heap.size,0,none⟩ 1 1 [.string s1,.slice a1 l1 c1] rfl rfl (cell_two_new _ _ _ _) (λx hx=>by simp at hx; rcases hx with rfl|rfl<;>rfl) (by decide) ax.out.1 ax.out.2 (by have:=ae.size; have:=XS.out.2.2.2.2; simp; omega) _ rfl ?_; intro g cap w3 af aa ah ai; have aj:=Aa (((Ac.ex XS.out.2.2.1 ae ak.out).alloc _).grown aa (XW.out.ne (EM _))); have a8:w3.cell? ⟨O,1,none⟩=some u:=aj.out.cell 1; have aA:=aj.out.frozen 1))
      all_goals
       have HK:=Aa (J7 (v:=.slice (some ⟨g,0,none⟩) ((l.take k).length+1) cap) aF hO XS.out (λj hj=>(XW.out.own.lt j hj).1) ae ar aa)
       clear af aa ah hc3 a7 a8 aA aj ar ae ai
       go_wp2_with fail
       go_roundw
       case rel=>
        have aB:(l.take k).length=k:=by simp; omega
        have h0:=HK.out
        have aG:=aw.out
        simp only[aB] at h0
        refine⟨k+1,.slice (some ⟨g,0,none⟩) (k+1) cap,by omega,by go_num,Ae ⟨?_,h0,_,_,_,rfl⟩⟩
        have h1:=C4 l k hlt
        have h2:=C5 l (k+1)
        omega
       case measure=>simp[intOf]; omega
    ·have aN:l.take k=l:=AW (by omega)
     rw[aN]at XW aw
     obtain⟨a9,c9,aO,au⟩:=XW.out.sl
     subst aO
     have S9:=Aa au
     clear au
     have r0:=XS.out.2.1.c0
     have r1:=XS.out.2.1.c1
     have rf:=XS.out.2.1.frozen
     have o0:=XS.out.2.2.1.c0
     have o1:=XS.out.2.2.1.c1
     go_wp2_with fail
     refine Ap (v:=.agg #[.string s,.slice a9 l.length c9]) (by simp[results,Tryz.results102,go_sem,AU,AG,r0,r1]) rfl ?_
     have aG:=aw.out
     refine⟨s,a9,l.length,c9,m,rfl,(XS.out.2.2.2.1.setOther _ _ (by omega)).setOther _ _ (by omega),(XS.out.1.setNew (by omega) _ _).setNew (by omega) _ _,λh=>⟨by rw[hz]; omega,rfl,rfl,(S9.out.kept λb hb=>?_).mono λb hb _=>?_⟩,λh=>by omega⟩
     ·have hb':O+1<=b:=hb.elim False.elim id
      rw[Aq _ _ _ _ (by simp; omega),Aq _ _ _ _ (by simp; omega)]
     ·have hb':O+1<=b:=hb.elim False.elim id
      omega
   ·have XS:=Aa ag
    clear ag
    have f0:∀o,(wr.alloc o).cell? ⟨F,0,none⟩=some (.int .i64 (-1)):=λo=>(XS.out.2.2.2.1.alloc o).cell 0
    by_cases hlt:k<l.length
    ·obtain⟨b,o,a',c',rfl,d0,d1,hx⟩:=(HS.out.ex XS.out.1 az.out).get (Af _ _) (λ_ _ h=>h) k hlt
     clear hx
     have o0:∀o,(wr.alloc o).cell? ⟨O,0,none⟩=some (.string s):=λo=>(XS.out.2.2.1.alloc o).cell 0
     have o1:∀o,(wr.alloc o).cell? ⟨O,1,none⟩=some (.slice a9 l9 c9):=λo=>(XS.out.2.2.1.alloc o).cell 1
     have r0:=XS.out.2.1.c0
     have r1:=XS.out.2.1.c1
     have rf:=XS.out.2.1.frozen
     have aP:w.heap.size+1<wr.heap.size:=XS.out.2.1.lt
     go_wp2_with fail
     refine Ap (v:=.agg #[.string s,.slice a9 l9 c9]) (by simp[results,Tryz.results102,go_sem,AU,AG,r0,r1,aP,Gc]) rfl ?_
     exact⟨s,a9,l9,c9,-1,rfl,((XS.out.2.2.2.1.setOther _ _ (by omega)).setOther _ _ (by omega)).alloc _,((XS.out.1.setNew (by omega) _ _).setNew (by omega) _ _).alloc _,λh=>by omega,λ_=>rfl⟩
    ·have r0:=XS.out.2.1.c0
     have r1:=XS.out.2.1.c1
     have rf:=XS.out.2.1.frozen
     have o0:=XS.out.2.2.1.c0
     have o1:=XS.out.2.2.1.c1
     go_wp2_with fail
     refine Ap (v:=.agg #[.string s,.slice a9 l9 c9]) (by simp[results,Tryz.results102,go_sem,AU,AG,r0,r1]) rfl ?_
     exact⟨s,a9,l9,c9,-1,rfl,(XS.out.2.2.2.1.setOther _ _ (by omega)).setOther _ _ (by omega),(XS.out.1.setNew (by omega) _ _).setNew (by omega) _ _,λh=>by omega,λ_=>rfl⟩
def Bb:List (ByteArray×Value)->ByteArray->Option Value
 | [],_=>none
 |p::r,n=>if p.1=n then some p.2 else Bb r n
def Gl (es:Array MapEntry) (clk:Nat):Prop:=(∀x∈es.toList,x.born<clk)/\(es.toList.map (·.born)).Nodup
def Bl (w:World) (r:Nat) (L:List (ByteArray×Value)):Prop:=
 ∃es clk,w.heap[r]? = some (.map es clk)/\es.toList.map (λe=>(e.key,e.val))=L.map (λp=>(Value.string p.1,p.2))/\Gl es clk
theorem Gl.push {es:Array MapEntry} {aa:Nat} (h:Gl es aa) (k v:Value):Gl (es.push { key:=k,val:=v,born:=aa}) (aa+1):=by
 obtain⟨h1,h2⟩:=h
 refine⟨λx hx=>?_,?_⟩
 ·rw[Array.toList_push,Bg]at hx
  rcases hx with hx|hx
  ·have:=h1 x hx; omega
  ·have e:x={ key:=k,val:=v,born:=aa}:=by simpa using hx
   subst e; exact EM _
 ·rw[Array.toList_push,Cr,List.nodup_append]
  refine⟨h2,by simp,λa ha b hb=>?_⟩
  obtain⟨x,hx,rfl⟩:=Cj.1 ha
  have:=h1 x hx
  have e:b=aa:=by simpa using hb
  omega
theorem UL (j:Nat) (k v:Value):∀l:List MapEntry,(l.modify j λe=>{ e with key:=k,val:=v}).map (·.born)=l.map (·.born):=by
 induction j with
 |zero=>intro l; cases l<;>simp
 |succ j ih=>intro l; cases l with
  |nil=>simp
  |cons a r=>simp[List.modify_succ_cons,ih r]
theorem Gl.modify {es:Array MapEntry} {aa:Nat} (h:Gl es aa) (j:Nat) (k v:Value):Gl (es.modify j λe=>{ e with key:=k,val:=v}) aa:=by
 obtain⟨h1,h2⟩:=h
 have e:=UL j k v es.toList
 refine⟨λx hx=>?_,by rw[Array.toList_modify,e]; exact h2⟩
 rw[Array.toList_modify]at hx
 have:x.born∈es.toList.map (·.born):=by rw[<-e]; exact Cj.2 ⟨x,hx,rfl⟩
 obtain⟨y,hy,hb⟩:=Cj.1 this
 rw[<-hb]; exact h1 y hy
theorem Bl.new (w:World):Bl (w.alloc (.map #[] 0)) w.heap.size []:=⟨#[],0,EZ w _,rfl,by simp[Gl]⟩
theorem Bl.lt {w:World} {r:Nat} {L:List (ByteArray×Value)} (h:Bl w r L):r<w.heap.size:=by
 obtain⟨es,aa,h,_⟩:=h
 exact(DM.1 h).1
theorem Bl.kept {w w':World} {r:Nat} {L:List (ByteArray×Value)} (h:Bl w r L) (hk:w'.heap[r]? = w.heap[r]?):Bl w' r L:=by
 obtain⟨es,aa,h1,h2⟩:=h
 exact⟨es,aa,hk.trans h1,h2⟩
theorem Bl.below {w w':World} {r B:Nat} {L:List (ByteArray×Value)} (h:Bl w r L) (hb:Below B w w') (hB:r<B):Bl w' r L:=h.kept (hb.block r hB)
theorem J9 (n:ByteArray):∀(l:List MapEntry) (L:List (ByteArray×Value)) (i:Nat),l.map (λe=>(e.key,e.val))=L.map (λp=>(Value.string p.1,p.2))->
  (Bb L n=none->Instr.findNow .string (.string n) l i=some none)/\(∀v,Bb L n=some v->∃j,Instr.findNow .string (.string n) l i=some (some (j,v)))
 | [],[],i,h=>⟨λ_=>rfl,λv h=>by simp[Bb] at h⟩
 | [],p::L,i,h=>by simp at h
 |e::l,[],i,h=>by simp at h
 |e::l,p::L,i,h=>by
  simp only[BP,Gd,Prod.mk.injEq] at h
  obtain⟨⟨hk,hv⟩,ht⟩:=h
  obtain⟨aa,ae⟩:=J9 n l L (i+1) ht
  by_cases hn:p.1=n
  ·have hs:Instr.sameNow .string (.string n) e.key=some true:=by
    rw[hk,hn]
    show some (n==n)=some true
    rw[show(n==n)=true from (JM _ _).2 rfl]
   refine⟨λh=>by simp[Bb,hn] at h,λv h=>⟨i,?_⟩⟩
   simp only[Bb,hn,if_true,GH] at h
   simp[Instr.findNow,hs,hv,h]
  ·have hs:Instr.sameNow .string (.string n) e.key=some false:=by
    rw[hk]
    show some (n==p.1)=some false
    have hb:(n==p.1)=false:=by
     cases hh:(n==p.1) with
     |false=>rfl
     |true=>exact absurd ((JM _ _).1 hh).symm hn
    rw[hb]
   refine⟨λh=>?_,λv h=>?_⟩
   ·rw[Bb,An hn]at h
    simp[Instr.findNow,hs,aa h]
   ·rw[Bb,An hn]at h
    obtain⟨j,hj⟩:=ae v h
    exact⟨j,by simp[Instr.findNow,hs,hj]⟩
theorem ET {P:Program} {w:World} {T kt et:TypeId} {r:Nat} {L:List (ByteArray×Value)} {z:Value} (hm:P.underlying T=some (.map kt et)) (hk:P.underlying kt=some .string) (hz:(zeroValue et).run P w=.ok z w) (h:Bl w r L) (n:ByteArray):
  (Instr.lookup T (.map (some r)) (.string n) true).run P w=.ok (.tuple #[(Bb L n).getD z,.bool (Bb L n).isSome]) w:=by
 obtain⟨es,aa,hb,he,hst⟩:=h
 obtain⟨h1,h2⟩:=J9 n es.toList L 0 he
 have hc:∀b,(Instr.checkKey b 10000 kt (.string n)).run P w=.ok () w:=λb=>JN (k:=.string n) hk (by simp[MapKept.IsKey]) b 9999
 cases hg:Bb L n with
 |none=>simp[Instr.lookup,FM hm,Hg hb,hc,Ia hk (h1 hg),Result.andThen,hz]
 |some v=>
  obtain⟨j,hj⟩:=h2 v hg
  simp[Instr.lookup,FM hm,Hg hb,hc,Ia hk hj,Result.andThen]
theorem Je {P:Program} {w:World} {T kt et:TypeId} {r:Nat} {L:List (ByteArray×Value)} (hm:P.underlying T=some (.map kt et)) (hk:P.underlying kt=some .string) (h:Bl w r L) (n:ByteArray) (v:Value) (hn:Bb L n=none):
  ∃w',(Instr.mapUpdate T (.map (some r)) (.string n) v).run P w=.ok () w'/\Bl w' r (L++[(n,v)])/\w'.heap.size=w.heap.size/\w'.os=w.os/\w'.tape=w.tape/\w'.output=w.output/\(∀b,b≠r->w'.heap[b]? = w.heap[b]?):=by
 obtain⟨es,aa,hb,he,hst⟩:=h
 obtain⟨h1,h2⟩:=J9 n es.toList L 0 he
 have hc:(Instr.checkKey false 10000 kt (.string n)).run P w=.ok () w:=JN (k:=.string n) hk (by simp[MapKept.IsKey]) false 9999
 have hlt:r<w.heap.size:=(DM.1 hb).1
 refine⟨{ w with heap:=w.heap.setIfInBounds r (.map (es.push { key:=.string n,val:=v,born:=aa}) (aa+1))},?_,⟨_,_,(Ib hb).1,by simp[he],hst.push _ _⟩,by simp,rfl,rfl,rfl,λb hne=>(Ib hb).2 b hne⟩
 simp[Instr.mapUpdate,FM hm,Hg hb,hc,Ia hk (h1 hn),MapKept.run_setObj_map _ hb,Result.andThen]
def Hp (ls:List Bd):Prop:=∀k (h:k<ls.length),Ar (ls.take k) ls[k].nm=none
def DF (w:World) (X:Nat->Prop):List Bd->List (ByteArray×Value)->Prop
 | [],L=>L=[]
 |d::r,L=>∃a c L',L=(d.nm,.agg #[.string d.t.name,.slice a d.t.args.length c])::L'/\Sl w X a d.t.args/\DF w X r L'
theorem DF.imp {w w':World} {X Y:Nat->Prop} (hs:∀a l,Sl w X a l->Sl w' Y a l):∀ {l:List Bd} {L:List (ByteArray×Value)},DF w X l L->DF w' Y l L
 | [],L,h=>h
 |d::r,L,h=>by obtain⟨a,c,L',e,h1,h2⟩:=h; exact⟨a,c,L',e,hs _ _ h1,DF.imp hs h2⟩
theorem DF.push {w:World} {X:Nat->Prop} {d:Bd} {a:Option Addr} {c:Nat} (hs:Sl w X a d.t.args):∀ {l:List Bd} {L:List (ByteArray×Value)},DF w X l L->DF w X (l++[d]) (L++[(d.nm,.agg #[.string d.t.name,.slice a d.t.args.length c])])
 | [],L,h=>by
  have e:L=[]:=h
  subst e
  exact⟨a,c,[],rfl,hs,rfl⟩
 |d'::r,L,h=>by obtain⟨a',c',L',e,h1,h2⟩:=h; subst e; exact⟨a',c',_,rfl,h1,DF.push hs h2⟩
theorem DF.get {w:World} {X:Nat->Prop} (n:ByteArray):∀ {l:List Bd} {L:List (ByteArray×Value)},DF w X l L->(Ar l n=none->Bb L n=none)/\(∀t,Ar l n=some t->∃a c,Bb L n=some (.agg #[.string t.name,.slice a t.args.length c])/\Sl w X a t.args)
 | [],L,h=>by
  have e:L=[]:=h
  subst e
  exact⟨λ_=>rfl,λt h=>by simp[Ar] at h⟩
 |d::r,L,h=>by
  obtain⟨a,c,L',rfl,h1,h2⟩:=h
  obtain⟨g1,g2⟩:=DF.get n h2
  by_cases hd:d.nm=n
  ·refine⟨λh=>by simp[Ar,hd] at h,λt h=>?_⟩
   rw[Ar,As hd]at h
   cases h
   exact⟨a,c,by simp[Bb,hd],h1⟩
  ·refine⟨λh=>?_,λt h=>?_⟩
   ·rw[Ar,An hd]at h
    simp only[Bb,hd,if_false]
    exact g1 h
   ·rw[Ar,An hd]at h
    simp only[Bb,hd,if_false]
    exact g2 t h
def UM (w:World) (X:Nat->Prop) (ls:List Bd) (v:Value) (wr:World):Prop:=∃(k:Nat) (L:List (ByteArray×Value)),v=.int .i64 (k:Int)/\k<=ls.length/\Bl wr w.heap.size L/\DF wr (λb=>X b/\b<w.heap.size) (ls.take k) L/\Below w.heap.size w wr
theorem UN (ls:List Bd) (ho:Hp ls) (u:Value) (w:World) (X:Nat->Prop) (hu:BV w X u ls):
  Calls Tryz.prog 63 #[u] w λe w'=>∃L,e=.returned (.map (some w.heap.size))/\Bl w' w.heap.size L/\DF w' (λb=>X b/\b<w.heap.size) ls L/\Below w.heap.size w w':=by
 have HU:=Aa hu
 obtain⟨a,c,rfl,hl,ae⟩:=hu
 clear ae
 have av:=@run_makeMap Tryz.prog
 go_enter Tryz.func63,Tryz.ntmps63
 go_wp2_with fail
 go_loopw [9] (λv wr=>UM w X ls v wr) (λv wr=>ls.length-(intOf v).toNat)
 case atStart=>exact⟨0,[],rfl,AE _,Bl.new w,rfl,(Af _ _).alloc (Aj _) _⟩
 case round=>
  obtain⟨k,L,rfl,hk,hM,hP,hb⟩:=hrel
  have HM:=Aa hM
  have HP:=Aa hP
  have HB:=Aa hb
  by_cases hlt:k<ls.length
  ·obtain⟨b,o,a',c',rfl,d0,d1,d2,hs⟩:=((HU.out.mono (Y:=λb=>X b/\b<w.heap.size) λb h1 h2=>⟨h1,h2⟩).later hb).get k hlt
   have aj:(k:Int)<(ls.length:Int):=by omega
   have HX:=Aa hs
   have hno:=(hP.get ls[k].nm).1 (ho k hlt)
   have aa:ls.take (k+1)=ls.take k++[ls[k]]:=Bm hlt
   have ak:=Aa aa
   have ao:=hM.lt
   clear hb hs hM hP aa
   generalize ls[k]=d at *
   obtain⟨w2,hrun,af,hz2,ag,ah,ae,hk2⟩:=Je (P:=Tryz.prog) (w:=wr.alloc (.cells #[.string d.nm,.string d.t.name,.slice a' d.t.args.length c'] 76)) Tryz.underlying96 Tryz.underlying9 (HM.out.kept (AP _ _ _ ao)) d.nm (.agg #[.string d.t.name,.slice a' d.t.args.length c']) hno
   have aq:=Aa af
   have ar:Hid (Below w.heap.size w w2):=by
    have h0:=HB.out.alloc HB.out.size (.cells #[.string d.nm,.string d.t.name,.slice a' d.t.args.length c'] 76)
    exact⟨ag.trans h0.os,ah.trans h0.tape,ae.trans h0.output,by rw[hz2]; exact h0.size,λj hj=>(hk2 j (by omega)).trans (h0.block j hj)⟩
   have au:Hid (DF w2 (λb=>X b/\b<w.heap.size) (ls.take (k+1)) (L++[(d.nm,.agg #[.string d.t.name,.slice a' d.t.args.length c'])])):=by
    have ai:∀q l,Sl wr (λb=>X b/\b<w.heap.size) q l->Sl w2 (λb=>X b/\b<w.heap.size) q l:=λq l h=>h.kept λj hj=>(hk2 j (by have:=hj.2; omega)).trans (AP _ _ _ (by have:=hj.2; omega))
    unfold Hid
    rw[ak.out]
    exact DF.push (ai _ _ HX.out) (HP.out.imp ai)
   clear af hz2 ag ah ae hk2 hno
   go_wp2_with fail
   go_roundw
   case rel=>exact⟨k+1,_,by go_num,by omega,aq.out,au.out,ar.out⟩
   case measure=>simp[intOf]; omega
  ·have aa:ls.take k=ls:=AW (by omega)
   rw[aa]at HP
   clear hP aa
   go_wp2_with fail
   go_ret
   exact⟨L,rfl,HM.out,HP.out,HB.out⟩
theorem UQ (r:Nat) (w:World):
  Calls Tryz.prog 62 #[.map (some r)] w λe w'=>e=.returned (.func (.func 86) #[] #[.pointer (some ⟨w.heap.size,0,none⟩)])/\w'=w.alloc (.cells #[.map (some r)] 96):=by
 have aa:=@hmq Tryz.prog
 go_enter Tryz.func62,Tryz.ntmps62
 go_wp2_with fail
 go_ret
 exact⟨rfl,rfl⟩
theorem N9 (ls:List Bd) (n:ByteArray) (B r:Nat) (L:List (ByteArray×Value)) (w:World) (X:Nat->Prop) (hB:Ac w B #[.map (some r)] 96) (hM:Bl w r L) (hP:DF w X ls L):
  Calls Tryz.prog 86 #[.string n,.pointer (some ⟨B,0,none⟩)] w λe w'=>Below w.heap.size w w'/\((∃t a c,Ar ls n=some t/\e=.returned (.tuple #[.agg #[.string t.name,.slice a t.args.length c],.bool true])/\Sl w X a t.args)∨(Ar ls n=none/\e=.returned (.tuple #[.agg #[.string ⟨#[]⟩,.slice none 0 0],.bool false]))):=by
 have c0:∀o,(w.alloc o).cell? ⟨B,0,none⟩=some (.map (some r)):=λo=>(hB.alloc o).cell 0
 have hlt:B<w.heap.size:=hB.lt
 have hz:∀w',(zeroValue 29).run Tryz.prog w'=.ok (.agg #[.string ⟨#[]⟩,.slice none 0 0]) w':=λw'=>Tryz.zeroValue29 w'
 have ae:=λo:Obj=>hM.kept (AP w o _ hM.lt)
 cases hf:Ar ls n with
 |none=>
  have hg:=(hP.get n).1 hf
  have aa:∀o,(Instr.lookup 96 (.map (some r)) (.string n) true).run Tryz.prog (w.alloc o)=.ok (.tuple #[.agg #[.string ⟨#[]⟩,.slice none 0 0],.bool false]) (w.alloc o):=λo=>by
   rw[ET (P:=Tryz.prog) Tryz.underlying96 Tryz.underlying9 (hz _) (ae o) n,hg]; rfl
  have HF:=Aa hf
  clear hf hg ae hP hM hB
  go_enter Tryz.func86,Tryz.ntmps86
  go_wp2_with fail
  have q0:=((Ac.new w #[.string ⟨#[]⟩,.slice none 0 0] 29).alloc (.cells #[.string ⟨#[]⟩,.slice none 0 0] 29)).cell 0
  have q1:=((Ac.new w #[.string ⟨#[]⟩,.slice none 0 0] 29).alloc (.cells #[.string ⟨#[]⟩,.slice none 0 0] 29)).cell 1
  simp at q0 q1
  refine Ap (v:=.tuple #[.agg #[.string ⟨#[]⟩,.slice none 0 0],.bool false]) (by simp[results,Tryz.results86,go_sem,q0,q1]) rfl ?_
  exact⟨((Af _ _).alloc (Aj _) _).alloc (by simp) _,Ae ⟨by trivial,rfl⟩⟩
 |some t=>
  obtain⟨a,c,hg,hs⟩:=(hP.get n).2 t hf
  have aa:∀o,(Instr.lookup 96 (.map (some r)) (.string n) true).run Tryz.prog (w.alloc o)=.ok (.tuple #[.agg #[.string t.name,.slice a t.args.length c],.bool true]) (w.alloc o):=λo=>by
   rw[ET (P:=Tryz.prog) Tryz.underlying96 Tryz.underlying9 (hz _) (ae o) n,hg]; rfl
  have HF:=Aa hf
  have HS:=Aa hs
  clear hf hg hs ae hP hM hB
  go_enter Tryz.func86,Tryz.ntmps86
  go_wp2_with fail
  have q0:=((Ac.new w #[.string t.name,.slice a t.args.length c] 29).alloc (.cells #[.string t.name,.slice a t.args.length c] 29)).cell 0
  have q1:=((Ac.new w #[.string t.name,.slice a t.args.length c] 29).alloc (.cells #[.string t.name,.slice a t.args.length c] 29)).cell 1
  simp at q0 q1
  refine Ap (v:=.tuple #[.agg #[.string t.name,.slice a t.args.length c],.bool true]) (by simp[results,Tryz.results86,go_sem,q0,q1]) rfl ?_
  exact⟨((Af _ _).alloc (Aj _) _).alloc (by simp) _,Ad ⟨t,a,c,rfl,rfl,HS.out⟩⟩
def Oa (s:ByteArray):Nat->Nat->Nat
 |0,i=>i
 |f+1,i=>if i<s.size/\EQ (Dt s i)=true then Oa s f (i+1) else i
def Gm (s:ByteArray) (i:Nat):Nat:=Oa s (s.size-i) i
structure Rd where
 err:Int
 t:Tm
 pos:Nat
 k:Nat
def GN (e:Int):Rd:=⟨e,⟨⟨#[]⟩,[]⟩,0,0⟩
def rd (s:ByteArray):Nat->Option (ByteArray×List Tm)->Nat->Nat->Rd
 |0,_,_,_=>GN 99
 |f+1,none,i,k=>
  if Gm s i=i then GN (if i=s.size then 13 else 12)
  else if Be (s.extract i (Gm s i))=false then GN 1
  else if 200<k+1 then GN 3
  else if Gm s i<s.size/\Dt s (Gm s i)=40 then
   if Ak (s.extract i (Gm s i))=true then GN 2 else rd s f (some (s.extract i (Gm s i),[])) (Gm s i) (k+1)
  else ⟨0,⟨s.extract i (Gm s i),[]⟩,Gm s i,k+1⟩
 |f+1,some (nm,acc),i,k=>
  if (rd s f none (i+1) k).err≠0 then GN (rd s f none (i+1) k).err
  else if (rd s f none (i+1) k).pos=s.size then GN 13
  else if Dt s (rd s f none (i+1) k).pos=41 then ⟨0,⟨nm,acc++[(rd s f none (i+1) k).t]⟩,(rd s f none (i+1) k).pos+1,(rd s f none (i+1) k).k⟩
  else if Dt s (rd s f none (i+1) k).pos=44 then rd s f (some (nm,acc++[(rd s f none (i+1) k).t])) (rd s f none (i+1) k).pos (rd s f none (i+1) k).k
  else GN 12
def kL (post:List UInt8):Prop:=post=[]∨∃c r,post=c::r/\(c=41∨c=44)
def Ob (x:List UInt8):Prop:=x=[]∨∃c r,x=c::r/\(c=41∨c=44∨c=61)
def UR (x:List UInt8):Prop:=x=[]∨∃c r,x=c::r/\EQ (c.toNat:Int)=false
theorem Ob.ends {x:List UInt8} (h:Ob x):UR x:=by
 rcases h with h|⟨c,r,e,h⟩
 ·exact Ad h
 ·refine Ae ⟨c,r,e,?_⟩
  rcases h with rfl|rfl|rfl<;>decide
theorem US {s:ByteArray} {l:List Tm} (h:Ah [(⟨s,l⟩:Tm)]=0):Ah l=0:=by
 simp only[Ah] at h
 repeat' split at h
 all_goals first|(cases h; done)|assumption|simp_all
def GO (w w':World) (b:Nat) (v v':Value):Prop:=
 w'.os=w.os/\w'.tape=w.tape/\w'.output=w.output/\w.heap.size<=w'.heap.size/\(∀k,k<w.heap.size->k≠b->some k≠v.ownBlock->w'.heap[k]? = w.heap[k]?)/\(∀k,v'.ownBlock=some k->v.ownBlock=some k∨w.heap.size<=k)
theorem GO.refl (w:World) (b:Nat) (v:Value):GO w w b v v:=⟨rfl,rfl,rfl,Aj _,λ_ _ _ _=>rfl,λ_ h=>Ad h⟩
theorem GO.trans {w w1 w2:World} {b:Nat} {v v1 v2:Value} (h:GO w w1 b v v1) (h1:GO w1 w2 b v1 v2):GO w w2 b v v2:=by
 obtain⟨a1,a2,a3,a4,a5,a6⟩:=h
 obtain⟨c1,c2,c3,c4,c5,c6⟩:=h1
 refine⟨c1.trans a1,c2.trans a2,c3.trans a3,AX a4 c4,λk hk hb hv=>?_,λk hk=>?_⟩
 ·refine(c5 k (Do hk a4) hb (λe=>?_)).trans (a5 k hk hb hv)
  rcases a6 k e.symm with h|h
  ·exact hv h.symm
  ·omega
 ·rcases c6 k hk with h|h
  ·exact a6 k h
  ·exact Ae (AX a4 h)
theorem GO.of_below {w w':World} (hb:Below w.heap.size w w') (b:Nat) (v:Value):GO w w' b v v:=⟨hb.os,hb.tape,hb.output,hb.size,λk hk _ _=>hb.block k hk,λ_ h=>Ad h⟩
structure Lm where
 kind:Int
 idx:Int
 subs:List Lm
theorem Lm.ind {P:Lm->Prop} (h:∀k x l,(∀y∈l,P y)->P ⟨k,x,l⟩) (t:Lm):P t:=
 Lm.rec (motive_1:=P) (motive_2:=λl=>∀x∈l,P x) (λk x l ih=>h k x l ih) (λx hx=>by cases hx)
  (λa l ha hl x hx=>by
   rcases BE.1 hx with e|e
   ·subst e; exact ha
   ·exact hl x e) t
theorem Lm.indL {P:List Lm->Prop} (h0:P []) (h:∀k x l r,P l->P r->P (⟨k,x,l⟩::r)) (l:List Lm):P l:=
 Lm.rec_1 (motive_1:=λt=>P t.subs) (motive_2:=P) (λ_ _ _ ih=>ih) h0 (λa l ha hl=>by obtain⟨k,x,m⟩:=a; exact h k x m l ha hl) l
def En (w:World) (X:Nat->Prop):Nat->Nat->List Lm->Prop
 |_,_,[]=>True
 |b,o,⟨k,x,l⟩::r=>X b/\w.cell? ⟨b,o,none⟩=some (.int .i64 k)/\w.cell? ⟨b,o+1,none⟩=some (.int .i64 x)/\
   (∃a c,w.cell? ⟨b,o+2,none⟩=some (.slice a l.length c)/\l.length<=9223372036854775807/\(l=[]∨∃b' o',a=some ⟨b',o',none⟩/\En w X b' o' l))/\En w X b (o+3) r
def CV (w:World) (X:Nat->Prop) (a:Option Addr) (l:List Lm):Prop:=l.length<=9223372036854775807/\(l=[]∨∃b o,a=some ⟨b,o,none⟩/\En w X b o l)
def MV (w:World) (X:Nat->Prop) (v:Value) (t:Lm):Prop:=∃a c,v=.agg #[.int .i64 t.kind,.int .i64 t.idx,.slice a t.subs.length c]/\CV w X a t.subs
theorem UT {w w':World} {X:Nat->Prop} (h:∀b,X b->w'.heap[b]? = w.heap[b]?) (l:List Lm):∀b o,En w X b o l->En w' X b o l:=by
 induction l using Lm.indL with
 |h0=>intro b o _; simp[En]
 |h k x l r aa ae=>
  intro b o hl
  simp only[En] at hl ⊢
  obtain⟨hx,h1,af,⟨a,c,h2,ag,h3⟩,h4⟩:=hl
  refine⟨hx,by rw[CM (h b hx)]; exact h1,by rw[CM (h b hx)]; exact af,⟨a,c,by rw[CM (h b hx)]; exact h2,ag,?_⟩,ae _ _ h4⟩
  rcases h3 with h3|⟨b',o',h3,h5⟩
  ·exact Ad h3
  ·exact Ae ⟨b',o',h3,aa _ _ h5⟩
theorem UU {w:World} {X Y:Nat->Prop} (h:∀b,X b->b<w.heap.size->Y b) (l:List Lm):∀b o,En w X b o l->En w Y b o l:=by
 induction l using Lm.indL with
 |h0=>intro b o _; simp[En]
 |h k x l r aa ae=>
  intro b o hl
  simp only[En] at hl ⊢
  obtain⟨hx,h1,af,⟨a,c,h2,ag,h3⟩,h4⟩:=hl
  have hb:b<w.heap.size:=by
   apply G7
   intro hn
   have e:w.heap[b]? = none:=I2 (by omega)
   simp[World.cell?,e]at h1
  refine⟨h b hx hb,h1,af,⟨a,c,h2,ag,?_⟩,ae _ _ h4⟩
  rcases h3 with h3|⟨b',o',h3,h5⟩
  ·exact Ad h3
  ·exact Ae ⟨b',o',h3,aa _ _ h5⟩
theorem CV.kept {w w':World} {X:Nat->Prop} {a:Option Addr} {l:List Lm} (h:CV w X a l) (hk:∀b,X b->w'.heap[b]? = w.heap[b]?):CV w' X a l:=by
 obtain⟨hl,h⟩:=h
 refine⟨hl,?_⟩
 rcases h with h|⟨b,o,e,h⟩
 ·exact Ad h
 ·exact Ae ⟨b,o,e,UT hk _ _ _ h⟩
theorem CV.mono {w:World} {X Y:Nat->Prop} {a:Option Addr} {l:List Lm} (h:CV w X a l) (hk:∀b,X b->b<w.heap.size->Y b):CV w Y a l:=by
 obtain⟨hl,h⟩:=h
 refine⟨hl,?_⟩
 rcases h with h|⟨b,o,e,h⟩
 ·exact Ad h
 ·exact Ae ⟨b,o,e,UU hk _ _ _ h⟩
theorem CV.below {w w':World} {X:Nat->Prop} {a:Option Addr} {l:List Lm} {B:Nat} (h:CV w X a l) (hb:Below B w w') (hX:∀b,X b->b<w.heap.size->b<B):CV w' X a l:=by
 have h1:CV w (λb=>X b/\b<B) a l:=h.mono λb hx hs=>⟨hx,hX b hx hs⟩
 have h2:CV w' (λb=>X b/\b<B) a l:=h1.kept λb hx=>hb.block b hx.2
 exact h2.mono λb hx _=>hx.1
theorem MV.kept {w w':World} {X:Nat->Prop} {v:Value} {t:Lm} (h:MV w X v t) (hk:∀b,X b->w'.heap[b]? = w.heap[b]?):MV w' X v t:=by
 obtain⟨a,c,e,h⟩:=h
 exact⟨a,c,e,h.kept hk⟩
theorem MV.mono {w:World} {X Y:Nat->Prop} {v:Value} {t:Lm} (h:MV w X v t) (hk:∀b,X b->b<w.heap.size->Y b):MV w Y v t:=by
 obtain⟨a,c,e,h⟩:=h
 exact⟨a,c,e,h.mono hk⟩
theorem MV.below {w w':World} {X:Nat->Prop} {v:Value} {t:Lm} {B:Nat} (h:MV w X v t) (hb:Below B w w') (hX:∀b,X b->b<w.heap.size->b<B):MV w' X v t:=by
 obtain⟨a,c,e,h⟩:=h
 exact⟨a,c,e,h.below hb hX⟩
theorem MV.alloc {w:World} {X:Nat->Prop} {v:Value} {t:Lm} (h:MV w X v t) (o:Obj):MV (w.alloc o) X v t:=
 h.below ((Af _ _).alloc (Aj _) o) (λ_ _ h=>h)
theorem MV.later {w w':World} {X:Nat->Prop} {v:Value} {t:Lm} (h:MV w X v t) (hb:Below w.heap.size w w'):MV w' X v t:=h.below hb (λ_ _ h=>h)
theorem CV.later {w w':World} {X:Nat->Prop} {a:Option Addr} {l:List Lm} (h:CV w X a l) (hb:Below w.heap.size w w'):CV w' X a l:=h.below hb (λ_ _ h=>h)
theorem UV {w:World} {X:Nat->Prop}:∀(l:List Lm) (b o:Nat),En w X b o l->∀i (h:i<l.length),
  X b/\w.cell? ⟨b,o+i*3,none⟩=some (.int .i64 l[i].kind)/\w.cell? ⟨b,o+i*3+1,none⟩=some (.int .i64 l[i].idx)/\∃a c,w.cell? ⟨b,o+i*3+2,none⟩=some (.slice a l[i].subs.length c)/\CV w X a l[i].subs:=by
 intro l
 induction l with
 |nil=>intro b o _ i h; simp at h
 |cons t r ih=>
  intro b o hl i h
  obtain⟨s,x,k⟩:=t
  simp only[En] at hl
  obtain⟨hx,h1,aa,⟨a,c,h2,h3⟩,h4⟩:=hl
  cases i with
  |zero=>exact⟨hx,h1,aa,a,c,h2,h3⟩
  |succ i=>
   have:=ih b (o+3) h4 i (by simpa using h)
   simp only[F7]
   rw[show o+(i+1)*3=o+3+i*3 by omega]
   exact this
theorem CV.get {w wr:World} {X:Nat->Prop} {a:Option Addr} {l:List Lm} {B:Nat} (h:CV w X a l) (hb:Below B w wr) (hX:∀b,X b->b<w.heap.size->b<B) (k:Nat) (hk:k<l.length):
  ∃b o a' c',a=some ⟨b,o,none⟩/\wr.cell? ⟨b,o+k*3,none⟩=some (.int .i64 l[k].kind)/\wr.cell? ⟨b,o+k*3+1,none⟩=some (.int .i64 l[k].idx)/\wr.cell? ⟨b,o+k*3+2,none⟩=some (.slice a' l[k].subs.length c')/\MV wr X (.agg #[.int .i64 l[k].kind,.int .i64 l[k].idx,.slice a' l[k].subs.length c']) l[k]:=by
 have h':=h.below hb hX
 obtain⟨_,h1⟩:=h'
 rcases h1 with h1|⟨b,o,e,h1⟩
 ·subst h1; simp at hk
 ·obtain⟨_,h2,aa,a',c',h3,h4⟩:=UV _ _ _ h1 k hk
  exact⟨b,o,a',c',e,h2,aa,h3,a',c',rfl,h4⟩
theorem Ir (n:Nat):(Lib.decDigits n).length<=n+1:=by
 induction n using Nat.strongRecOn with
 |ind n ih=>
  rw[Lib.decDigits]
  by_cases h:n<10
  ·rw[DX h]; simp
  ·rw[dif_neg h]
   have:=ih (n / 10) (by omega)
   simp only[Dm,Bs,EN]
   omega
theorem Oc {n:Nat} (h:n<10):Lib.decDigits n=[UInt8.ofNat (48+n)]:=by rw[Lib.decDigits,DX h]
theorem UW {n:Nat} (h:¬n<10):Lib.decDigits n=Lib.decDigits (n / 10)++Lib.decDigits (n % 10):=by
 conv=>lhs; rw[Lib.decDigits,dif_neg h]
 rw[Oc (n:=n % 10) (by omega)]
theorem Od {a b:ByteArray} (h:a.data.toList=b.data.toList):Ending.returned (.string a)=.returned (.string b):=by
 have:a=b:=by
  obtain⟨⟨x⟩⟩:=a; obtain⟨⟨y⟩⟩:=b; simp at h; rw[h]
 rw[this]
theorem Oe (n:Nat):n<=1000000->∀(w:World),Calls Tryz.prog 42 #[.int .i64 n] w λe w'=>e=.returned (.string ⟨(Lib.decDigits n).toArray⟩)/\Below w.heap.size w w':=by
 induction n using Nat.strongRecOn with
 |ind n ih=>
  intro hn w
  by_cases h:n<10
  ·have HD:=Aa (Oc h)
   generalize Lib.decDigits n=D at HD ⊢
   have h':(n:Int)<10:=by omega
   have hw2:48+(n:Int)=((UInt8.ofNat (48+n)).toNat:Int):=by
    have:(UInt8.ofNat (48+n)).toNat=48+n:=by simp; omega
    rw[this]; omega
   have hcv:(convert 106 9 (.slice (some ⟨w.heap.size,0,none⟩) 1 1)).run Tryz.prog (w.alloc (.cells #[.int .u8 (48+(n:Int))] 5))=.ok (.string ⟨([UInt8.ofNat (48+n)]).toArray⟩) (w.alloc (.cells #[.int .u8 (48+(n:Int))] 5)):=
    run_convert_bytes_back _ 106 9 5 ⟨w.heap.size,0,none⟩ 1 [UInt8.ofNat (48+n)] Tryz.underlying106 Tryz.underlying5 Tryz.underlying9 (λj hj=>by
     have aa:j=0:=by simp at hj; exact hj
     subst aa
     have:=(Ac.new w #[.int .u8 (48+(n:Int))] 5).cell 0
     rw[hw2]at this
     rw[hw2]
     exact this)
   clear hw2
   go_enter Tryz.func42,Tryz.ntmps42
   go_wp2_with fail
   go_ret
   exact⟨Od (by rw[HD.out]; simp[UInt8.ofNat_add]),(Af _ _).alloc (Aj _) _⟩
  ·have IH:=Aa ih
   have HD:=Aa (UW h)
   clear ih
   have h':¬(n:Int)<10:=by omega
   have e1:(n:Int) / 10=((n / 10:Nat):Int):=by omega
   have e2:(n:Int) % 10=((n % 10:Nat):Int):=by omega
   have E1:=Aa e1
   have E2:=Aa e2
   clear e1 e2
   generalize Lib.decDigits n=D at HD ⊢
   go_enter Tryz.func42,Tryz.ntmps42
   go_wp2_with fail
   rw[E1.out]
   refine(IH.out (n / 10) (by omega) (by omega) _).mono ?_
   rintro e w1 ⟨rfl,hb1⟩
   go_wp2_with fail
   rw[E2.out]
   refine(IH.out (n % 10) (by omega) (by omega) _).mono ?_
   rintro e w2 ⟨rfl,hb2⟩
   have ae:Hid (Below w.heap.size w w2):=hb1.trans (hb2.mono hb1.size)
   clear hb1 hb2
   have l1:(Lib.decDigits (n / 10)).length<=1000001:=by have:=Ir (n / 10); omega
   have l2:(Lib.decDigits (n % 10)).length<=1000001:=by have:=Ir (n % 10); omega
   go_wp2_with fail
   go_ret
   exact⟨Od (by rw[HD.out]; simp),ae.out⟩
end Go.Proofs.YtlkeafenklamjaaGreatDoor
