import Derived.Test.YthaililgaompeaaGreatDoorZBTopNewmanOwn
import Derived.Sort.Grow
import Derived.Maps.RangeRun
import Derived.Deep.RegionHeld
import Derived.Deep.RegionHeld3
import Derived.Lib.Builder
import Derived.RangeFuncNested
import Derived.RangeFuncBound
import Derived.RangeFuncCalls
import Derived.RangeFuncLeaves
import Derived.RangeFuncWrites
import Derived.Shelf.Abstract
import Derived.Shelf.RegionOpen
import Derived.OwnWalkIn
import Derived.TacticsInMore
import Derived.LoopNIn
import Derived.LoopIn
namespace Go.Proofs.YthaililgaompeaaGreatDoor
set_option linter.all false
set_option maxRecDepth 20000
set_option maxHeartbeats 8000000
open Go.RowKit Go.Proofs.Tryz
variable {W W' aa c d w w' w1 w2 wr:World} {X Y f g g':Nat->Prop} {a t x:Tm} {row:List ByteArray} {A N T b cap gf l n r:Nat} {s:Bool} {L rem:List (ByteArray×Value)} {P:Program} {i:Int} {q u v:Value} {xs:List Value} {E:Prop} {hs:List Int} {α β:Type} {lb:Array Value} {S:World->Prop}
def IZ (ls:List Bd):Prop:=∀k (h:k<ls.length),As (ls.take k) ls[k].nm=none
def DC (w:World) (X:Nat->Prop):List Bd->List (ByteArray×Value)->Prop
 | [],L=>L=[]
 |d::r,L=>∃a c L',L=(d.nm,.agg (zF d.t a c))::L'/\Sl w X a d.t.args/\DC w X r L'
theorem DC.imp (hs:∀a l,Sl w X a l->Sl w' Y a l):∀ {l:List Bd} {L:List (ByteArray×Value)},DC w X l L->DC w' Y l L
 | [],L,h=>h
 |d::r,L,h=>by obtain⟨a,c,b,e,h1,h2⟩:=h; exact⟨a,c,b,e,hs _ _ h1,DC.imp hs h2⟩
theorem DC.push {d:Bd} {a:Option Addr} {c:Nat} (hs:Sl w X a d.t.args):∀ {l:List Bd} {L:List (ByteArray×Value)},DC w X l L->DC w X (l++[d]) (L++[(d.nm,.agg (zF d.t a c))])
 | [],L,h=>by
  have e:L=[]:=h;subst e;exact⟨a,c,[],rfl,hs,rfl⟩
 |d'::r,L,h=>by obtain⟨a',c',L',e,h1,h2⟩:=h; subst e; exact⟨a',c',_,rfl,h1,DC.push hs h2⟩
theorem DC.get (n:ByteArray):∀ {l:List Bd} {L:List (ByteArray×Value)},DC w X l L->(As l n=none->AG L n=none)/\(∀t,As l n=some t->∃a c,AG L n=some (.agg (zF t a c))/\Sl w X a t.args)
 | [],L,h=>by
  have e:L=[]:=h;subst e;exact⟨λ_=>rfl,λt h=>by simp[As] at h⟩
 |d::r,L,h=>by
  obtain⟨a,c,L',rfl,h1,h2⟩:=h;obtain⟨g1,g2⟩:=DC.get n h2;by_cases hd:d.nm=n
  ·refine⟨λh=>by simp[As,hd] at h,λt h=>?_⟩;rw[As,Ao hd]at h;cases h;exact⟨a,c,by simp[AG,hd],h1⟩
  ·refine⟨λh=>?_,λt h=>?_⟩
   ·rw[As,Ah hd]at h;simp only[AG,hd,if_false];exact g1 h
   ·rw[As,Ah hd]at h;simp only[AG,hd,if_false];exact g2 t h
def YB (w:World) (X:Nat->Prop) (ls:List Bd) (v:Value) (wr:World):Prop:=∃(k:Nat) (L:List (ByteArray×Value)),v=zA k/\k<=ls.length/\AO wr w.heap.size L/\DC wr (λb=>X b/\b<w.heap.size) (ls.take k) L/\Below w.heap.size w wr
theorem YC (ls:List Bd) (ho:IZ ls) (u:Value) (w:World) (X:Nat->Prop) (hu:BV w X u ls):
  Calls prog 77 #[u] w λe w'=>∃L,e=.returned (.map (some w.heap.size))/\AO w' w.heap.size L/\DC w' (λb=>X b/\b<w.heap.size) ls L/\Below w.heap.size w w':=by
 have C:=Aa hu;obtain⟨a,c,rfl,hl,ab⟩:=hu;clear ab;have au:=@run_makeMap prog;go_enter func77,ntmps77;go_wp2_with fail;go_loopw [9] (λv wr=>YB w X ls v wr) (λv wr=>ls.length-(intOf v).toNat);case atStart=>exact⟨0,[],rfl,Be _,AO.new w,rfl,(Ag _ _).alloc (Al _) _⟩
 case round=>
  obtain⟨k,L,rfl,hk,f,hP,hb⟩:=hrel;have r:=Aa f;have g:=Aa hP;have i:=Aa hb;by_cases m:k<ls.length
  ·obtain⟨b,o,a',c',rfl,d0,d1,d2,hs⟩:=((C.o.mono (Y:=λb=>X b/\b<w.heap.size) λb h1 h2=>⟨h1,h2⟩).later hb).get k m;have ak:(k:Int)<(ls.length:Int):=(by omega);have D:=Aa hs;have s:=(hP.get ls[k].nm).1 (ho k m);have aa:ls.take (k+1)=ls.take k++[ls[k]]:=Ci m;have E:=Aa aa;have F:=f.lt;clear hb hs f hP aa;generalize ls[k]=d at *;obtain⟨w2,hrun,x,y,z,A,ab,n⟩:=Iw (P:=prog) (w:=wr.alloc (zh #[.string d.nm,.string d.t.name,.slice a' d.t.args.length c'] 155)) underlying69 underlying9 (r.o.kept (Ay _ _ _ F)) d.nm (.agg (zF d.t a' c')) s;have G:=Aa x;have H:Hid (Below w.heap.size w w2):=by
    have h0:=i.o.alloc i.o.size (.cells #[.string d.nm,.string d.t.name,.slice a' d.t.args.length c'] 155);exact⟨z.trans h0.os,A.trans h0.tape,ab.trans h0.output,by rw[y]; exact h0.size,λj hj=>(n j (by omega)).trans (h0.block j hj)⟩
   have I:Hid (DC w2 (λb=>X b/\b<w.heap.size) (ls.take (k+1)) (L++[(d.nm,.agg (zF d.t a' c'))])):=Aa (by have B:∀q l,Sl wr (λb=>X b/\b<w.heap.size) q l->Sl w2 (λb=>X b/\b<w.heap.size) q l:=λq l h=>h.kept λj hj=>(n j (by have:=hj.2; omega)).trans (Ay _ _ _ (by have:=hj.2; omega));rw[E.o];exact DC.push (B _ _ D.o) (g.o.imp B));clear x y z A ab n s;go_wp2_with fail;go_roundw
   case rel=>exact⟨k+1,_,by go_num,by omega,G.o,I.o,H.o⟩
   case measure=>simp[intOf]; omega
  ·have aa:ls.take k=ls:=BH (by omega);rw[aa]at g;clear hP aa;go_wp2_with fail;go_ret;exact⟨L,rfl,r.o,g.o,i.o⟩
theorem YD (r:Nat) (w:World):
  Calls prog 76 #[.map (some r)] w λe w'=>e=.returned (.func (.func 102) #[] #[zC w.heap.size])/\w'=w.alloc (zh #[.map (some r)] 69):=by
 have aa:=@hmq prog;go_enter func76,ntmps76;go_wp2_with fail;go_ret;exact⟨rfl,rfl⟩
theorem RL (ls:List Bd) (n:ByteArray) (B r:Nat) (L:List (ByteArray×Value)) (w:World) (X:Nat->Prop) (h:Ac w B #[.map (some r)] 69) (i:AO w r L) (hP:DC w X ls L):
  Calls prog 102 #[.string n,zC B] w λe w'=>Below w.heap.size w w'/\((∃t a c,As ls n=some t/\e=.returned (.tuple #[.agg (zF t a c),.bool true])/\Sl w X a t.args)∨(As ls n=none/\e=.returned (.tuple #[.agg zd,.bool false]))):=by
 have c0:∀o,(w.alloc o).cell? (zD B 0)=some (.map (some r)):=λo=>(h.alloc o).cell 0;have hlt:B<w.heap.size:=h.lt;have hz:∀w',(zeroValue 31).run prog w'=.ok (.agg zd) w':=λw'=>zeroValue31 w';have ab:=λo:Obj=>i.kept (Ay w o _ i.lt);cases b:As ls n with
 |none=>
  have d:=(hP.get n).1 b;have aa:∀o,(Instr.lookup 69 (.map (some r)) (.string n) true).run prog (w.alloc o)=.ok (.tuple #[.agg zd,.bool false]) (w.alloc o):=λo=>by
   rw[El (P:=prog) underlying69 underlying9 (hz _) (ab o) n,d]; rfl
  have j:=Aa b;clear b d ab hP i h;go_enter func102,ntmps102;go_wp2_with fail;have f:=((Ac.new w zd 31).alloc zc).cell 0;have g:=((Ac.new w zd 31).alloc zc).cell 1;simp at f g;refine Aq (v:=.tuple #[.agg zd,.bool false]) (by simp[results,results102,go_sem,f,g]) rfl ?_;exact⟨((Ag _ _).alloc (Al _) _).alloc (by simp) _,Ad ⟨by trivial,rfl⟩⟩
 |some t=>
  obtain⟨a,c,d,hs⟩:=(hP.get n).2 t b;have aa:∀o,(Instr.lookup 69 (.map (some r)) (.string n) true).run prog (w.alloc o)=.ok (.tuple #[.agg (zF t a c),.bool true]) (w.alloc o):=λo=>by
   rw[El (P:=prog) underlying69 underlying9 (hz _) (ab o) n,d]; rfl
  have j:=Aa b;have k:=Aa hs;clear b d hs ab hP i h;go_enter func102,ntmps102;go_wp2_with fail;have f:=((Ac.new w (zF t a c) 31).alloc (ze t a c)).cell 0;have g:=((Ac.new w (zF t a c) 31).alloc (ze t a c)).cell 1;simp at f g;refine Aq (v:=.tuple #[.agg (zF t a c),.bool true]) (by simp[results,results102,go_sem,f,g]) rfl ?_;exact⟨((Ag _ _).alloc (Al _) _).alloc (by simp) _,Ae ⟨t,a,c,rfl,rfl,k.o⟩⟩
theorem Em (row:List ByteArray) (a b:Tm):AC row a b=true↔Aj a.name=false/\((∃x∈a.args,x=b∨AC row x b=true)∨
  (Aj b.name=false/\Bq row b a=false/\(∀y∈b.args,AC row a y=true)/\(Bq row a b=true∨∃x y,AV a.args b.args=some (x,y)/\AC row x y=true))):=by
 have h1:((a.args.any λx=>AP x b||AC row x b)=true)↔∃x∈a.args,x=b∨AC row x b=true:=by
  rw[D6];constructor
  ·rintro⟨x,hx,h⟩;rw[Bool.or_eq_true,Cr]at h;exact⟨x,hx,h⟩
  ·rintro⟨x,hx,h⟩;exact⟨x,hx,by rw[Bool.or_eq_true,Cr]; exact h⟩
 have h2:((b.args.all λy=>AC row a y)=true)↔∀y∈b.args,AC row a y=true:=by rw[GR]
 rw[Ra];by_cases f:Aj a.name=true
 ·simp[f]
 ·rw[Ah f];have g:Aj a.name=false:=by simpa using f
  by_cases hs:(a.args.any λx=>AP x b||AC row x b)=true
  ·rw[Ao hs];exact⟨λ_=>⟨g,Ae (h1.1 hs)⟩,λ_=>rfl⟩
  ·rw[Ah hs];have aa:¬ ∃x∈a.args,x=b∨AC row x b=true:=λh=>hs (h1.2 h);by_cases d:Aj b.name=true
   ·rw[Ao d];constructor
    ·intro h; cases h
    ·rintro⟨_,h|h⟩
     ·exact absurd h aa
     ·rw[d]at h; cases h.1
   ·rw[Ah d];have i:Aj b.name=false:=(by simpa using d);by_cases e:Bq row b a=true
    ·rw[Ao e];constructor
     ·intro h; cases h
     ·rintro⟨_,h|h⟩
      ·exact absurd h aa
      ·rw[e]at h; cases h.2.1
    ·rw[Ah e];have j:Bq row b a=false:=(by simpa using e);by_cases ab:(b.args.all λy=>AC row a y)=false
     ·rw[Ao ab];constructor
      ·intro h; cases h
      ·rintro⟨_,h|h⟩
       ·exact absurd h aa
       ·rw[h2.2 h.2.2.1]at ab; cases ab
     ·rw[Ah ab];have k:∀y∈b.args,AC row a y=true:=h2.1 (by simpa using ab);by_cases c:Bq row a b=true
      ·rw[Ao c];exact⟨λ_=>⟨g,Ad ⟨i,j,k,Ae c⟩⟩,λ_=>rfl⟩
      ·rw[Ah c];cases hu:AV a.args b.args with
       |none=>
        constructor
        ·intro h; cases h
        ·rintro⟨_,h|⟨_,_,_,h|⟨x,y,h,_⟩⟩⟩
         ·exact absurd h aa
         ·exact absurd h c
         ·cases h
       |some p=>
        obtain⟨x,y⟩:=p;constructor
        ·intro h;exact⟨g,Ad ⟨i,j,k,Ad ⟨x,y,rfl,h⟩⟩⟩
        ·rintro⟨_,h|⟨_,_,_,h|⟨x',y',h,h'⟩⟩⟩
         ·exact absurd h aa
         ·exact absurd h c
         ·cases h; exact h'
theorem OK (ha:Aj a.name=false) (hx:x∈a.args):AC row a x=true:=(Em row a x).2 ⟨ha,Ae ⟨x,hx,Ae rfl⟩⟩
theorem OL {b:Tm}:Bq row a b=true↔AU b.name row<AU a.name row∨(AU b.name row=AU a.name row/\(B8 b.name a.name=true∨(b.name=a.name/\b.args.length<a.args.length))):=by
 unfold Bq;by_cases h1:AU a.name row=AU b.name row
 ·rw[Ah (by simpa using h1)];by_cases h2:a.name=b.name
  ·rw[Ah (by simpa using h2)];have h3:B8 b.name a.name=false:=by rw[h2]; exact JG _
   simp[h1,h2,h3,JG]
  ·rw[Ao h2];have h3:b.name≠a.name:=λe=>h2 e.symm;simp[h1,h3]
 ·rw[Ao h1];have h3:AU b.name row≠AU a.name row:=λe=>h1 e.symm;simp[h3]
theorem JT {b:Tm} (c:a.name=b.name) (d:a.args.length=b.args.length):Bq row a b=false:=by
 cases h:Bq row a b with
 |false=>rfl
 |true=>
  rw[OL,c,d]at h;rcases h with h|⟨_,h|⟨_,h⟩⟩
  ·omega
  ·rw[JG]at h; cases h
  ·omega
theorem RM {b c:Tm} (h1:Bq row a b=true) (h2:Bq row b c=true):Bq row a c=true:=by
 rw[OL]at *;rcases h1 with h1|⟨h1,ab⟩
 ·rcases h2 with h2|⟨h2,_⟩
  ·exact Ae (by omega)
  ·exact Ae (by omega)
 ·rcases h2 with h2|⟨h2,aa⟩
  ·exact Ae (by omega)
  ·refine Ad ⟨by omega,?_⟩;rcases ab with ab|⟨e,l1⟩
   ·rcases aa with aa|⟨d,l2⟩
    ·exact Ae (Oj aa ab)
    ·rw[d]; exact Ae ab
   ·rcases aa with aa|⟨d,l2⟩
    ·rw[<-e]; exact Ae aa
    ·exact Ad ⟨d.trans e,by omega⟩
theorem YF {a b:ByteArray} (h:a≠b):B8 a b=true∨B8 b a=true:=by
 cases h1:B8 a b with
 |true=>exact Ae rfl
 |false=>
  cases h2:B8 b a with
  |true=>exact Ad rfl
  |false=>exact absurd (JH h1 h2) h
theorem OM {b:Tm} (h1:Bq row a b=false) (h2:Bq row b a=false):a.name=b.name/\a.args.length=b.args.length:=by
 have c:¬Bq row a b=true:=by rw[h1]; simp
 have d:¬Bq row b a=true:=by rw[h2]; simp
 rw[OL]at c d;have e:AU b.name row=AU a.name row:=by
  rcases Nat.lt_trichotomy (AU b.name row) (AU a.name row) with h|h|h
  ·exact absurd (Ae h) c
  ·exact h
  ·exact absurd (Ae h) d
 have f:a.name=b.name:=by
  apply EX;intro g;rcases YF g with h|h
  ·exact d (Ad ⟨e.symm,Ae h⟩)
  ·exact c (Ad ⟨e,Ae h⟩)
 refine⟨f,?_⟩;rcases Nat.lt_trichotomy a.args.length b.args.length with h|h|h
 ·exact absurd (Ad ⟨e.symm,Ad ⟨f,h⟩⟩) d
 ·exact h
 ·exact absurd (Ad ⟨e,Ad ⟨f.symm,h⟩⟩) c
theorem ON {b:Tm} (h:Bq row b a=false):Bq row a b=true∨(a.name=b.name/\a.args.length=b.args.length):=by
 cases h1:Bq row a b with
 |true=>exact Ae rfl
 |false=>exact Ad (OM h1 h)
theorem Ix {b a' b':Tm} (h1:a.name=a'.name) (h2:a.args.length=a'.args.length) (h3:b.name=b'.name) (c:b.args.length=b'.args.length):Bq row a b=Bq row a' b':=by
 unfold Bq;rw[h1,h2,h3,c]
theorem RN:∀l:List Tm,AV l l=none
 | []=>rfl
 |t::l=>by rw[AV,Ao (Cr.2 rfl),RN l]
theorem RO {R:Tm->Tm->Prop}:∀ {a b c:List Tm} {x y f z:Tm},(∀x∈a,∀y∈b,∀z∈c,R x y->R y z->R x z/\x≠z)->a.length=b.length->b.length=c.length->AV a b=some (x,y)->AV b c=some (f,z)->R x y->R f z->∃p q,AV a c=some (p,q)/\R p q
 | [],_,_,x,y,f,z,_,_,_,h,_,_,_=>by simp[AV] at h
 |_::_,[],_,x,y,f,z,_,_,_,h,_,_,_=>by simp[AV] at h
 |_::_,_::_,[],x,y,f,z,_,_,_,_,h,_,_=>by simp[AV] at h
 |t::a,u::b,v::c,x,y,f,z,k,h1,h2,hu,hv,i,j=>by
  rw[AV]at hu hv;by_cases g:AP t u=true
  ·rw[Ao g]at hu;rw[Cr]at g;subst g;by_cases d:AP t v=true
   ·rw[Ao d]at hv;rw[AV,Ao d];exact RO (λx hx y hy z hz=>k x (by simp[hx]) y (by simp[hy]) z (by simp[hz])) (by simpa using h1) (by simpa using h2) hu hv i j
   ·rw[Ah d]at hv;cases hv;rw[AV,Ah d];exact⟨_,_,rfl,j⟩
  ·rw[Ah g]at hu;cases hu;by_cases d:AP u v=true
   ·rw[Cr]at d;subst d;rw[AV,Ah g];exact⟨_,_,rfl,i⟩
   ·rw[Ah d]at hv;cases hv;obtain⟨h3,l⟩:=k _ (by simp) _ (by simp) _ (by simp) i j;have m:¬AP t v=true:=λe=>l (Cr.1 e);rw[AV,Ah m];exact⟨_,_,rfl,h3⟩
theorem I1 (t:Tm):0<Ab [t]:=by
 obtain⟨s,l⟩:=t;simp[Ab]; omega
theorem RP (row:List ByteArray):∀n:Nat,(∀a b c:Tm,Ab [a]+Ab [b]+Ab [c]<=n->AC row a b=true->AC row b c=true->AC row a c=true)/\(∀a:Tm,3*Ab [a]<=n->AC row a a=false)
 |0=>⟨λa b c h=>by have:=I1 a; omega,λa h=>by have:=I1 a; omega⟩
 |n+1=>by
  obtain⟨e,IR⟩:=RP row n;refine⟨λa b c t m i=>?_,λa t=>?_⟩
  ·have aa:=(Em row a b).1 m;have ab:=(Em row b c).1 i;obtain⟨d,aa⟩:=aa;obtain⟨vb,ab⟩:=ab;rcases aa with ⟨x,hx,h⟩|⟨_,A,o,B⟩
   ·have:=Cw hx;rcases h with rfl|h
    ·exact(Em row a c).2 ⟨d,Ae ⟨x,hx,Ad i⟩⟩
    ·exact(Em row a c).2 ⟨d,Ae ⟨x,hx,Ad (e x b c (by omega) h i)⟩⟩
   ·rcases ab with ⟨y,hy,h⟩|⟨j,r,C,D⟩
    ·have:=Cw hy;rcases h with rfl|h
     ·exact o y hy
     ·exact e a y c (by omega) (o y hy) h
    ·have k:∀z∈c.args,AC row a z=true:=λz hz=>by
      have:=Cw hz;exact e a b z (by omega) m (C z hz)
     rcases ON A with g1|⟨l,l1⟩
     ·have f:Bq row a c=true:=by
       rcases ON r with g2|⟨g,l2⟩
       ·exact RM g1 g2
       ·rw[<-Ix (a:=a) (b:=b) rfl rfl g l2]; exact g1
      exact(Em row a c).2 ⟨d,Ad ⟨j,Ok f,k,Ae f⟩⟩
     ·rcases ON r with g2|⟨g,l2⟩
      ·have f:Bq row a c=true:=by rw[Ix (a':=b) (b':=c) l l1 rfl rfl]; exact g2
       exact(Em row a c).2 ⟨d,Ad ⟨j,Ok f,k,Ae f⟩⟩
      ·have E:Bq row c a=false:=JT (g.symm.trans l.symm) (by omega);rcases B with h|⟨x,y,hu,F⟩
       ·rw[JT l l1]at h; cases h
       ·rcases D with h|⟨y',z,G,H⟩
        ·rw[JT g l2]at h; cases h
        ·have key:∀x∈a.args,∀y∈b.args,∀z∈c.args,AC row x y=true->AC row y z=true->AC row x z=true/\x≠z:=by
          intro x I y J z L h1 h2;have sx:=Cw I;have sy:=Cw J;have sz:=Cw L;have h3:=e x y z (by omega) h1 h2;refine⟨h3,?_⟩;rintro rfl;rcases Nat.le_total (Ab [x]) (Ab [y]) with hle|hle
          ·rw[IR x (by omega)]at h3; cases h3
          ·have s:=e y x y (by omega) h2 h1;rw[IR y (by omega)]at s; cases s
         obtain⟨p,q,M,N⟩:=RO (R:=λu v=>AC row u v=true) key l1 l2 hu G F H;exact(Em row a c).2 ⟨d,Ad ⟨j,E,k,Ad ⟨p,q,M,N⟩⟩⟩
  ·cases h:AC row a a with
   |false=>rfl
   |true=>
    obtain⟨d,h⟩:=(Em row a a).1 h;rcases h with ⟨x,hx,h⟩|⟨_,_,_,h|⟨x,y,hu,_⟩⟩
    ·have:=Cw hx;rcases h with rfl|h
     ·omega
     ·have h1:=e x a x (by omega) h (OK d hx);rw[IR x (by omega)]at h1;exact h1.symm
    ·rw[JT rfl rfl]at h; exact h.symm
    ·rw[RN]at hu; cases hu
theorem OO (row:List ByteArray) (a:Tm):AC row a a=false:=(RP row _).2 a (Al _)
theorem RQ:∀(p q:List Tm) {a b:Tm},a≠b->AV (p++a::q) (p++b::q)=some (a,b)
 | [],q,a,b,h=>by rw[CE,CE,AV,Ah λe=>h (Cr.1 e)]
 |t::p,q,a,b,h=>by rw[Bj,Bj,AV,Ao (Cr.2 rfl)]; exact RQ p q h
theorem RR {s:ByteArray} (hs:Aj s=false) (p q:List Tm) {b:Tm} (h:AC row a b=true):AC row ⟨s,p++a::q⟩ ⟨s,p++b::q⟩=true:=by
 have c:a≠b:=λe=>by rw[e,OO] at h; cases h
 refine(Em row _ _).2 ⟨hs,Ad ⟨hs,JT rfl (by simp),λy hy=>?_,Ad ⟨a,b,RQ p q c,h⟩⟩⟩;have hy':y∈p++b::q:=hy;rw[Ba,Bh]at hy';rcases hy' with hy'|rfl|hy'
 ·exact OK hs (show y∈p++a::q by simp[hy'])
 ·exact(Em row _ _).2 ⟨hs,Ae ⟨a,(show a∈p++a::q by simp),Ad h⟩⟩
 ·exact OK hs (show y∈p++a::q by simp[hy'])
theorem YG (hx:x∈t.args):∀k∈Ap [x],k∈Ap [t]:=by
 obtain⟨s,l⟩:=t;intro k hk;have e:Ap [(⟨s,l⟩:Tm)]=⟨s,l⟩::(Ap l++Ap []):=by simp[Ap]
 obtain⟨p,q,aa⟩:=List.append_of_mem (show x∈l from hx);rw[e,aa,show p++x::q=p++([x]++q) by simp,Mp,Mp];simp[hk]
theorem RT (s:List Bd):∀l:List Tm,At s l=l.map (Ai s)
 | []=>by simp[At]
 |t::l=>by rw[AY,RT s l]; rfl
def Gw (s:List Bd):Prop:=∀n x,As s n=some x->Aj n=true
theorem OP {s:List Bd} (hs:Gw s) (h:Aj t.name=false):Ai s t=⟨t.name,t.args.map (Ai s)⟩:=by
 obtain⟨n,l⟩:=t;have a:As s n=none:=by
  cases b:As s n with
  |none=>rfl
  |some x=>have:=hs n x b;rw[show Aj n=false from h]at this;cases this
 rw[Iu (Ad a),RT]
theorem RU {f:Tm->Tm}:∀ {a b:List Tm} {x y:Tm},AV a b=some (x,y)->f x≠f y->AV (a.map f) (b.map f)=some (f x,f y)
 | [],_,x,y,h,_=>by simp[AV] at h
 |_::_,[],x,y,h,_=>by simp[AV] at h
 |t::a,u::b,x,y,h,c=>by
  rw[AV]at h;by_cases e:AP t u=true
  ·rw[Ao e]at h;rw[Cr]at e;subst e;rw[Bo,Bo,AV,Ao (Cr.2 rfl)];exact RU h c
  ·rw[Ah e]at h;cases h;rw[Bo,Bo,AV,Ah λe'=>c (Cr.1 e')]
theorem MF {row:List ByteArray} {s:List Bd} (hs:Gw s):∀(n:Nat) (a b:Tm),Ab [a]+Ab [b]<=n->AC row a b=true->AC row (Ai s a) (Ai s b)=true
 |0,a,b,h,_=>by have:=I1 a; omega
 |n+1,a,b,hn,h=>by
  obtain⟨c,h⟩:=(Em row a b).1 h;rw[OP hs c];rcases h with ⟨x,hx,h⟩|⟨d,g,all,h⟩
  ·refine(Em row _ _).2 ⟨c,Ae ⟨Ai s x,Bk.2 ⟨x,hx,rfl⟩,?_⟩⟩;have:=Cw hx;rcases h with rfl|h
   ·exact Ae rfl
   ·exact Ad (MF hs n x b (by omega) h)
  ·rw[OP hs d];refine(Em row _ _).2 ⟨c,Ad ⟨d,?_,λy hy=>?_,?_⟩⟩
   ·rw[<-g];exact Ix rfl (by simp) rfl (by simp)
   ·obtain⟨f,aa,rfl⟩:=Bk.1 (show y∈b.args.map (Ai s) from hy);have:=Cw aa;have h1:=MF hs n a f (by omega) (all f aa);rw[OP hs c]at h1;exact h1
   ·rcases h with h|⟨x,y,hu,h⟩
    ·refine Ae ?_;rw[<-h];exact Ix rfl (by simp) rfl (by simp)
    ·obtain⟨i,j⟩:=JI hu;have:=Cw i;have:=Cw j;have h1:=MF hs n x y (by omega) h;have k:Ai s x≠Ai s y:=λe=>by rw[e,OO] at h1; cases h1
     exact Ad ⟨_,_,RU hu k,h1⟩
def MG (l:List Tm):Prop:=∀k∈Ap l,Aj k.name=true->k.args=[]
theorem MG.cons {r:List Tm} (h:MG (t::r)):MG [t]/\MG r:=by
 have e:Ap (t::r)=Ap [t]++Ap r:=Mp [t] r;exact⟨λk hk=>h k (by rw[e]; simp[hk]),λk hk=>h k (by rw[e]; simp[hk])⟩
def Ea (a b:ByteArray):Int:=if B8 a b=true then -1 else if B8 b a=true then 1 else 0
theorem OQ (a:ByteArray) (w:World):Calls prog 145 #[.string a] w λe w'=>e=.returned (.bool false)/\w'=w:=by
 go_enter func145,ntmps145;go_wp2_with fail;go_ret;exact⟨by simp,rfl⟩
theorem YH (a b:ByteArray) (w:World):Calls prog 127 #[.string a,.string b] w λe w'=>e=.returned (zA (Ea a b))/\w'=w:=by
 cases h1:Op.bytesLess a.toList b.toList with
 |true=>have c:Hid (Ea a b=-1):=Aa (by unfold Ea B8;rw[h1];rfl);go_enter func127,ntmps127;go_wp2_with (go_at_call 145; refine(OQ _ _).mono ?_; rintro e w' ⟨rfl,rfl⟩);go_ret;exact⟨by rw[c.o]; rfl,rfl⟩
 |false=>
  by_cases he:a=b
  ·have c:Hid (Ea a b=0):=Aa (by unfold Ea B8;rw[h1,he,Oi];rfl);have h2:(a.toList==b.toList)=true:=KO he;clear he;go_enter func127,ntmps127;go_wp2_with (go_at_call 145; refine(OQ _ _).mono ?_; rintro e w' ⟨rfl,rfl⟩);go_ret;exact⟨by rw[c.o]; rfl,rfl⟩
  ·have c:Hid (Ea a b=1):=by
    unfold Hid Ea;have h3:B8 b a=true:=by
     cases h:B8 b a with
     |true=>rfl
     |false=>exact absurd (JH h1 h) he
    rw[Ah (by unfold B8; rw[h1]; simp),Ao h3]
   have h2:(a.toList==b.toList)=false:=Oe he;clear he;go_enter func127,ntmps127;go_wp2_with (go_at_call 145; refine(OQ _ _).mono ?_; rintro e w' ⟨rfl,rfl⟩);go_ret;exact⟨by rw[c.o]; rfl,rfl⟩
open Go.ChangeMaps (setBlock)
def DD (w:World) (b r:Nat) (L rem:List (ByteArray×Value)):Prop:=
 ∃es clk since seen c0,w.heap[b]? = some (.map es clk)/\es.toList.map (λe=>(e.key,e.val))=L.map (λp=>(Value.string p.1,p.2))/\Hs es clk/\
  w.heap[r]? = some (.mapIter (some b) since seen c0)/\(∀x∈es.toList,x.born<since)/\since<=c0/\since<=clk/\
  (leftOf es seen).toList.map (λe=>(e.key,e.val))=rem.map (λp=>(Value.string p.1,p.2))
def RV (w:World) (b r:Nat):Nat:=
 match w.heap[b]?,w.heap[r]? with
 |some (.map es _),some (.mapIter _ _ seen _)=>(leftOf es seen).size
 |_,_=>0
theorem DD.left (h:DD w b r L rem):RV w b r=rem.length:=by
 obtain⟨es,aa,since,seen,c0,hb,_,_,a,_,_,_,c⟩:=h;have:=Cb List.length c;simp only[EZ,L8] at this;simp only[RV,hb,a];exact this
theorem DD.map (h:DD w b r L rem):AO w b L:=by
 obtain⟨es,aa,since,seen,c0,hb,he,hs,_⟩:=h;exact⟨es,aa,hb,he,hs⟩
theorem DD.ne (h:DD w b r L rem):r≠b:=by
 obtain⟨es,aa,since,seen,c0,hb,he,hs,a,_⟩:=h;intro e;rw[e,hb]at a;cases a
theorem DD.lt (h:DD w b r L rem):r<w.heap.size:=by
 obtain⟨es,aa,since,seen,c0,hb,he,hs,a,_⟩:=h;exact(CO.1 a).1
theorem DD.kept (h:DD w b r L rem) (aa:w'.heap[b]? = w.heap[b]?) (ab:w'.heap[r]? = w.heap[r]?):DD w' b r L rem:=by
 obtain⟨es,a,since,seen,c0,hb,he,hs,c,rest⟩:=h;exact⟨es,a,since,seen,c0,aa.trans hb,he,hs,ab.trans c,rest⟩
theorem DD.below {B:Nat} (h:DD w b r L rem) (hb:Below B w w') (h1:b<B) (h2:r<B):DD w' b r L rem:=h.kept (hb.block b h1) (hb.block r h2)
theorem AO.range {T a c:TypeId} (h:AO w b L) (hm:P.underlying T=some (.map a c)):
  ∃o,(Instr.range T (.map (some b))).run P w=.ok (zC w.heap.size) (w.alloc o)/\DD (w.alloc o) b w.heap.size L L:=by
 have d:=h.lt;obtain⟨es,aa,hb,he,hs⟩:=h;refine⟨_,run_range_map w T a c b es aa hm hb,es,aa,aa,#[],aa,(Ay _ _ _ d).trans hb,he,hs,Fk w _,hs.1,Al _,Al _,?_⟩;rw[<-he];congr 1
 simp[leftOf]
theorem YJ {l:List MapEntry} (h:l.map (λe=>(e.key,e.val))=L.map (λp=>(Value.string p.1,p.2))) {e:MapEntry} (he:e∈l):∃p∈L,e.key=.string p.1/\e.val=p.2:=by
 have:(e.key,e.val)∈L.map (λp=>(Value.string p.1,p.2)):=by rw[<-h]; exact Bk.2 ⟨e,he,rfl⟩
 obtain⟨p,hp,a⟩:=Bk.1 this;simp only[IK] at a;exact⟨p,hp,a.1.symm,a.2.symm⟩
theorem OR (seen:Array Nat) (e:MapEntry):∀(l:List MapEntry) (R:List (ByteArray×Value)),(l.map (·.born)).Nodup->e∈l->seen.contains e.born=false->(l.filter λx=>!seen.contains x.born).map (λe=>(e.key,e.val))=R.map (λp=>(Value.string p.1,p.2))->
  ∃p c,e.key=.string p.1/\e.val=p.2/\R.Perm (p::c)/\(l.filter λx=>!(seen.push e.born).contains x.born).map (λe=>(e.key,e.val))=c.map (λp=>(Value.string p.1,p.2))
 | [],R,_,he,_,_=>by cases he
 |a::l,R,f,he,hs,b=>by
  simp only[Bo,List.nodup_cons] at f;obtain⟨g,i⟩:=f;by_cases ha:a.born=e.born
  ·have k:e=a:=by
    rcases Bh.1 he with h|h
    ·exact h
    ·exact absurd (Bk.2 ⟨e,h,ha.symm⟩) g
   subst k;have m:(!seen.contains e.born)=true:=by rw[hs]; rfl
   rw[GV (by simpa using m)]at b;match R,b with
   |p::c,b=>
    simp only[Bo,Hj,IK] at b;refine⟨p,c,b.1.1,b.1.2,List.Perm.refl _,?_⟩;rw[Hk (by simp),<-b.2];congr 1
    refine List.filter_congr λx hx=>?_;have n:x.born≠e.born:=λh=>g (Bk.2 ⟨x,hx,h⟩);simp[n]
  ·have j:e∈l:=by
    rcases Bh.1 he with h|h
    ·exact absurd (by rw[h]) ha
    ·exact h
   by_cases ab:seen.contains a.born=true
   ·rw[Hk (by simpa using ab)]at b;obtain⟨p,c,h1,h2,h3,d⟩:=OR seen e l R i j hs b;refine⟨p,c,h1,h2,h3,?_⟩;rw[Hk (by simp at ab ⊢; exact λh=>absurd ab h),d]
   ·have aa:seen.contains a.born=false:=(by simpa using ab);rw[GV (by simpa using aa)]at b;match R,b with
    |q::o,b=>simp only[Bo,Hj] at b;obtain⟨p,c,h1,h2,h3,d⟩:=OR seen e l o i j hs b.2;refine⟨p,q::c,h1,h2,(List.Perm.cons q h3).trans (List.Perm.swap p q c),?_⟩;rw[GV (by simp at aa ⊢; exact⟨aa,ha⟩),Bo,Bo,d,b.1]
theorem DD.next (h:DD w b r L rem) (ty:TypeId):
  (rem=[]/\(Instr.next (zC r) false ty).run P w=.ok (.tuple #[.bool false]) w)∨
  ∃p aa w',rem.Perm (p::aa)/\(Instr.next (zC r) false ty).run P w=.ok (.tuple #[.bool true,.string p.1,p.2]) w'/\DD w' b r L aa/\
   w'.heap.size=w.heap.size/\w'.os=w.os/\w'.tape=w.tape/\w'.output=w.output/\(∀j,j≠r->w'.heap[j]? = w.heap[j]?)/\(Instr.entry (zC r)).run P w'=.ok (.tuple #[.string p.1,p.2]) w':=by
 have l:=h.ne;obtain⟨es,a,since,seen,c0,hb,he,hs,d,hold,m,f,g⟩:=h;rcases run_next_at (P:=P) w ty r b since c0 seen es a d hb hold m with ⟨h0,hrun⟩|⟨e,n,w1,c,hrun⟩
 ·refine Ae ⟨?_,hrun⟩;have:=Cb List.length g;simp only[EZ,L8,h0] at this;exact Fj.1 this.symm
 ·obtain⟨i,o⟩:=mem_left n;have q:(es.toList.filter λx=>!seen.contains x.born).map (λe=>(e.key,e.val))=rem.map (λp=>(Value.string p.1,p.2)):=by
   rw[<-g]; unfold leftOf; rw[Array.toList_filter]
  obtain⟨p,aa,hk,hv,s,t⟩:=OR seen e es.toList rem hs.2 i o q;have u:w1.heap[r]? = some (.mapIter (some b) since seen c0):=by rcases c with rfl|rfl<;>exact d
  have v:w1.heap[b]? = some (.map es a):=by rcases c with rfl|rfl<;>exact hb
  have ab:=GU (o':=.mapIter (some b) since (seen.push e.born) a) u;have k:(setBlock w1 r (.mapIter (some b) since (seen.push e.born) a)).heap[b]? = some (.map es a):=(ab.2 b (λy=>l y.symm)).trans v;rw[hk,hv]at hrun;refine Ad ⟨p,aa,_,s,hrun,⟨es,a,since,seen.push e.born,a,k,he,hs,ab.1,hold,f,f,?_⟩,?_,?_,?_,?_,?_,?_⟩
  ·rw[<-t]; unfold leftOf; rw[Array.toList_filter]
  ·rcases c with rfl|rfl<;>simp[setBlock]
  ·rcases c with rfl|rfl<;>rfl
  ·rcases c with rfl|rfl<;>rfl
  ·rcases c with rfl|rfl<;>rfl
  ·intro j hj;have:=ab.2 j hj;rcases c with rfl|rfl<;>exact this
  ·have:=run_entry_at (P:=P) _ r b since seen es a e ab.1 k i hs.2;rw[hk,hv]at this;exact this
def I2:List (ByteArray×Value)->ByteArray->List (ByteArray×Value)
 | [],_=>[]
 |p::r,n=>if p.1=n then r else p::I2 r n
theorem RX (n:ByteArray) (q:MapEntry->Bool):∀(l:List MapEntry) (L:List (ByteArray×Value)) (i:Nat),l.map (λe=>(e.key,e.val))=L.map (λp=>(Value.string p.1,p.2))->(∀e∈l,e.key=.string n->q e=false)->
  (AG L n=none->I2 L n=L)/\(∀v,AG L n=some v->∃j,Instr.findNow .string (.string n) l i=some (some (i+j,v))/\j<l.length/\(l.eraseIdx j).map (λe=>(e.key,e.val))=(I2 L n).map (λp=>(Value.string p.1,p.2))/\(l.eraseIdx j).filter q=l.filter q)
 | [],[],i,h,_=>⟨λ_=>rfl,λv hv=>by simp[AG] at hv⟩
 | [],p::L,i,h,_=>by simp at h
 |e::l,[],i,h,_=>by simp at h
 |e::l,p::L,i,h,hq=>by
  simp only[Bo,Hj,IK] at h;obtain⟨⟨hk,he⟩,ht⟩:=h;obtain⟨ab,c⟩:=RX n q l L (i+1) ht λe he=>hq e (by simp[he]);by_cases a:p.1=n
  ·have hs:Instr.sameNow .string (.string n) e.key=some true:=(by rw[hk,a];show some (n==n)=some true;rw[show(n==n)=true from (L6 _ _).2 rfl]);refine⟨λh=>by simp[AG,a] at h,λv hv=>?_⟩;simp only[AG,a,F4,Gr] at hv;refine⟨0,by simp[Instr.findNow,hs,he,hv],by simp,?_,?_⟩
   ·simp[I2,a,ht]
   ·rw[List.eraseIdx_cons_zero,Hk (by rw[hq e (by simp) (by rw[hk,a])]; simp)]
  ·have hs:Instr.sameNow .string (.string n) e.key=some false:=by
    rw[hk];show some (n==p.1)=some false;have hb:(n==p.1)=false:=by
     cases d:(n==p.1) with
     |false=>rfl
     |true=>exact absurd ((L6 _ _).1 d).symm a
    rw[hb]
   refine⟨λh=>?_,λv hv=>?_⟩
   ·rw[AG,Ah a]at h;rw[I2,Ah a,ab h]
   ·rw[AG,Ah a]at hv;obtain⟨j,h1,h2,h3,b⟩:=c v hv;refine⟨j+1,by simp[Instr.findNow,hs,h1]; omega,by simpa using h2,?_,?_⟩
    ·rw[I2,Ah a]; simp[h3,hk,he]
    ·rw[List.eraseIdx_cons_succ];cases aa:q e with
     |true=>rw[GV aa,GV aa,b]
     |false=>rw[Hk (by simp[aa]),Hk (by simp[aa]),b]
theorem DD.drop {T a f ty:TypeId} (h:DD w b r L rem) (hm:P.underlying T=some (.map a f)) (hk:P.underlying a=some .string) (n:ByteArray) (g:∀p∈rem,p.1≠n) (v:Value) (hv:AG L n=some v):
  ∃w',(Builtin.delete_ #[T,a] ty #[.map (some b),.string n]).run P w=.ok (.tuple #[]) w'/\DD w' b r (I2 L n) rem/\w'.heap.size=w.heap.size/\w'.os=w.os/\w'.tape=w.tape/\w'.output=w.output/\(∀j,j≠b->w'.heap[j]? = w.heap[j]?):=by
 have l:=h.ne;obtain⟨es,c,since,seen,c0,hb,he,hs,m,hold,o,q,s⟩:=h;have d:(es.toList.filter λx=>!seen.contains x.born).map (λe=>(e.key,e.val))=rem.map (λp=>(Value.string p.1,p.2)):=(by rw[<-s]; unfold leftOf; rw[Array.toList_filter]);have hq:∀e∈es.toList,e.key=.string n->(!seen.contains e.born)=false:=λe t u=>by
  cases hc:seen.contains e.born with
  |true=>rfl
  |false=>obtain⟨p,hp,h1,_⟩:=YJ d (L9.2 ⟨t,by rw[hc]; rfl⟩);rw[u]at h1;exact absurd (Value.string.inj h1).symm (g p hp)
 obtain⟨j,h1,h2,h3,y⟩:=(RX n (λx=>!seen.contains x.born) es.toList L 0 he hq).2 v hv;rw[DA]at h1;have hc:∀b,(Instr.checkKey b 10000 a (.string n)).run P w=.ok () w:=λb=>L7 (k:=.string n) hk (by simp[MapKept.IsKey]) b 9999;have aa:(es.eraseIdxIfInBounds j).toList=es.toList.eraseIdx j:=by
  unfold Array.eraseIdxIfInBounds;rw[EY (by simpa using h2)];simp
 have ab:∀x∈(es.eraseIdxIfInBounds j).toList,x∈es.toList:=λx hx=>by rw[aa] at hx; exact(List.eraseIdx_sublist _ _).subset hx
 refine⟨setBlock w b (.map (es.eraseIdxIfInBounds j) c),?_,⟨es.eraseIdxIfInBounds j,c,since,seen,c0,(GU hb).1,by rw[aa]; exact h3,⟨λx hx=>hs.1 x (ab x hx),?_⟩,((GU hb).2 r l).trans m,λx hx=>hold x (ab x hx),o,q,?_⟩,by simp[setBlock],rfl,rfl,rfl,λi hi=>(GU hb).2 i hi⟩
 ·simp[Builtin.delete_,Fl hm,F5 hb,hc,Jr hk h1,NW _ hb,Result.andThen,setBlock]
 ·rw[aa];exact hs.2.sublist ((List.eraseIdx_sublist _ _).map _)
 ·unfold leftOf;rw[Array.toList_filter,aa,y];exact d
theorem Tryz.infoBind:(prog.info? 155).map (λi=>(i.zero,i.size,i.bytes))=some (some (.agg #[.string ByteArray.empty,.string ByteArray.empty,zB]),3,56):=by kernel_rfl
theorem YK (w:World) (c0 c1 c2:Value) (T:Nat):∀j u,[c0,c1,c2][j]? = some u->(w.alloc (zh #[c0,c1,c2] T)).cell? (((zD w.heap.size 0):Addr).add j)=some u:=
 World.news_of_block (cs:=#[c0,c1,c2]) (Fk w _)
theorem RY (y:Bc):∀(cs:List Bc) (i:Nat),i<cs.length->DS (cs.set i y)=(((DS cs).set (i*3) (.string y.1.nm)).set (i*3+1) (.string y.1.t.name)).set (i*3+2) (.slice y.2.1 y.1.t.args.length y.2.2)
 | [],i,h=>by simp at h
 |x::r,0,h=>by simp[DS,F6]
 |x::r,i+1,h=>by
  have a:=RY y r i (by simpa using h);rw[List.set_cons_succ,DS,DS,a];rw[show(i+1)*3=i*3+3 by omega,show i*3+3+1=(i*3+1)+3 by omega,show i*3+3+2=(i*3+2)+3 by omega];simp[F6]
def put3 (w:World) (g i:Nat) (y:Bc):World:=(((w.setCell ⟨g,i*3,none⟩ (.string y.1.nm)).setCell ⟨g,i*3+1,none⟩ (.string y.1.t.name)).setCell ⟨g,i*3+2,none⟩ (.slice y.2.1 y.1.t.args.length y.2.2))
theorem YL {g i:Nat} {y:Bc} (h:b≠g):(put3 w g i y).heap[b]? = w.heap[b]? := by
 unfold put3;rw[An _ _ _ _ (by simpa using h),An _ _ _ _ (by simpa using h),An _ _ _ _ (by simpa using h)]
theorem Sl.put3 {g i:Nat} {a:Option Addr} {l:List Tm} {y:Bc} (h:Sl w (λb=>Y b∨(N<=b/\some b≠(Value.slice (some (zD g 0)) n cap).ownBlock)) a l) (c:∀b,Y b->b<N) (hg:N<=g):Sl (put3 w g i y) (λb=>Y b∨(N<=b/\some b≠(Value.slice (some (zD g 0)) n cap).ownBlock)) a l:=
 h.kept λb hb=>YL (by
  rcases hb with hb|hb
  ·have:=c b hb; omega
  ·intro e; exact hb.2 (by simp[Value.ownBlock,e]))
theorem CQ.put {cs:List Bc} {g:Nat} (h:CQ w N Y (.slice (some (zD g 0)) n cap) cs) (a:∀b,Y b->b<N) (i:Nat) (hi:i<cs.length) (y:Bc) (hy:Sl w (λb=>Y b∨(N<=b/\some b≠(Value.slice (some (zD g 0)) n cap).ownBlock)) y.2.1 y.1.t.args):CQ (put3 w g i y) N Y (.slice (some (zD g 0)) n cap) (cs.set i y):=by
 have ab:N<=g:=(h.own.lt g rfl).1;refine⟨?_,λx hx=>?_⟩
 ·rcases h.own.2 with ⟨e,_⟩|⟨g',ad,cur,e,aa,hb,h1,h2,h3,c⟩
  ·cases e
  ·simp at e;obtain⟨rfl,rfl,rfl⟩:=e;have d:Ac w g cur 155:=hb;have f:=((d.set (i*3) (.string y.1.nm)).set (i*3+1) (.string y.1.t.name)).set (i*3+2) (.slice y.2.1 y.1.t.args.length y.2.2);refine⟨QZ _,Ad ⟨g,cap,_,by simp,aa,f,by simpa using h1,h2,by simpa using h3,?_⟩⟩;rw[RY y cs i hi,<-c];simp[KH]
 ·rcases List.mem_or_eq_of_mem_set hx with h1|h1
  ·exact(h.row x h1).put3 a ab
  ·rw[h1]; exact hy.put3 a ab
theorem CQ.swap {A B:List Bc} {x y:Bc} {g:Nat} (h:CQ w N Y (.slice (some (zD g 0)) n cap) ((A++[y])++x::B)) (a:∀b,Y b->b<N):CQ (put3 (put3 w g (A.length+1) y) g A.length x) N Y (.slice (some (zD g 0)) n cap) (A++x::y::B):=by
 have aa:N<=g:=(h.own.lt g rfl).1;have h1:=h.put a (A.length+1) (by simp) y (h.row y (by simp));have h2:=h1.put a A.length (by simp) x ((h.row x (by simp)).put3 a aa);have e:(((A++[y])++x::B).set (A.length+1) y).set A.length x=A++x::y::B:=(by rw[List.set_append_right _ _ (by simp)];simp[List.set_append_right]);rw[e]at h2;exact h2
def I4 (p t:Tm):Bool:=(AX p t []).isSome
def YN (ls:List Pr) (w:World) (v:Value) (wr:World):Prop:=∃k:Nat,v=zA k/\k<=ls.length/\EL ls k=0/\Below w.heap.size w wr
theorem RZ {b:Tm} (h:Av a≠0):CJ a b=Av a:=by unfold CJ; rw[Ah h]
theorem YP {b:Tm} (h:Av a=0):CJ a b=Av b:=by unfold CJ; rw[Ao h]
theorem R7 (ls:List Pr) (u:Value) (w:World) (X:Nat->Prop) (hu:QV w X u ls):
  Calls prog 74 #[u] w λe w'=>e=.returned (zA (Cs ls))/\Below w.heap.size w w':=by
 have A:=Aa (hu.mono (Y:=λb=>X b/\b<w.heap.size) λb h1 h2=>⟨h1,h2⟩);obtain⟨a,c,rfl,hl,B⟩:=hu;clear B;go_enter func74,ntmps74;by_cases ab:40<ls.length
 ·go_wp2_with fail;go_ret;exact⟨Cj (by unfold Cs; rw[Ao ab]),Ag _ _⟩
 ·go_wp2_with fail;go_loopw [12] (λv wr=>YN ls w v wr) (λv wr=>ls.length-(intOf v).toNat);case atStart=>exact⟨0,rfl,Be _,rfl,Ag _ _⟩
  case round=>
   obtain⟨k,rfl,hk,m,hb⟩:=hrel;have C:=Aa hb;have g:=Aa m;clear m;by_cases h:k<ls.length
   ·obtain⟨b,o,a1,c1,a2,c2,rfl,d0,d1,d2,d3,n,q⟩:=(A.o.later hb).get k h;have ak:(k:Int)<(ls.length:Int):=(by omega);have aa:Below wr.heap.size wr (wr.alloc (zh (zi ls[k] a1 c1 a2 c2) 34)):=(Ag _ _).alloc (Al _) _;have D:=Aa (n.later aa);have E:=Aa (q.later aa);have s:=Aa (Ac.new wr (zi ls[k] a1 c1 a2 c2) 34);have t:=Aa (hb.trans (aa.mono hb.size));have x:=Aa (Ya h ab g.o);have F:=Aa (Ox h g.o);clear n q hb aa;generalize ls[k]=d at *;go_wp2_with fail;generalize wr.alloc (zh (zi d a1 c1 a2 c2) 34)=w1 at *;generalize wr.heap.size=P at *;refine(JE d.l _ _ _ ⟨a1,c1,rfl,D.o⟩).mono ?_;rintro e w2 ⟨rfl,hb2⟩;have G:=Aa (E.o.later hb2);have i:=Aa (t.o.trans (hb2.mono t.o.size));have p2:=cell_later hb2 (s.o.cell 2);have p3:=cell_later hb2 (s.o.cell 3);clear hb2;by_cases hm:Av d.l=0
    ·have j:=Aa (YP (b:=d.r) hm);rw[hm];clear hm;go_wp2_with fail;refine(JE d.r _ _ _ ⟨a2,c2,rfl,G.o⟩).mono ?_;rintro e w3 ⟨rfl,y⟩;have z:=Aa (i.o.trans (y.mono i.o.size));clear y;by_cases hm:Av d.r=0
     ·have f:Hid (EL ls (k+1)=0):=Aa (by rw[F.o,j.o,hm]);rw[hm];clear hm;go_wp2_with fail;go_roundw
      case rel=>exact⟨k+1,by go_num,by omega,f.o,z.o⟩
      case measure=>simp[intOf]; omega
     ·have H:(Av d.r==0)=false:=(by simpa using hm);have f:Hid (Cs ls=Av d.r):=Aa (by rw[x.o (by rw[j.o]; exact hm),j.o]);clear hm;go_wp2_with fail;go_ret;exact⟨Cj f.o.symm,z.o⟩
    ·have H:(Av d.l==0)=false:=(by simpa using hm);have f:Hid (Cs ls=Av d.l):=Aa (by rw[x.o (by rw[RZ hm]; exact hm),RZ hm]);clear hm;go_wp2_with fail;go_ret;exact⟨Cj f.o.symm,i.o⟩
   ·have I:k=ls.length:=(by omega);go_wp2_with fail;go_ret;exact⟨Cj (by unfold Cs; rw[Ah ab,<-I]; exact g.o.symm),C.o⟩
def YQ (ls:List Pr) (w:World) (v:Value) (wr:World):Prop:=∃k:Nat,v=zA k/\k<=ls.length/\EM ls k=0/\Below w.heap.size w wr
theorem En (h:Av t=0):Ab [t]<=200:=by
 unfold Av at h;split at h
 ·exact absurd h (by decide)
 ·omega
def G2 (w0:World) (N:Nat) (q0:Value) (ps:List (List Int)) (q:Value) (xs:List Value) (wr:World):Prop:=
 wr.ownsRow N 22 1 q ps.length xs/\DU wr (λb=>N<=b/\some b≠q.ownBlock) ps xs/\w0.grownBy wr q0.ownBlock/\(∀k,q.ownBlock=some k->q0.ownBlock=some k∨w0.heap.size<=k)
theorem PV.grownBy {Z:Nat->Prop} {z:List Int} {r:Option Nat} (h:PV w Z u z) (a:w.grownBy w' r) (c:∀b,Z b->some b≠r):PV w' Z u z:=by
 have h1:PV w (λb=>Z b/\b<w.heap.size) u z:=h.mono λb h1 h2=>⟨h1,h2⟩;have h2:PV w' (λb=>Z b/\b<w.heap.size) u z:=h1.kept λb hx=>a.block b hx.2 (c b hx.1);exact h2.mono λb hx _=>hx.1
theorem G2.mono {a:World} {b c:Value} {ps aa:List (List Int)} {ab:List Value} (h:G2 a N b aa c ab w1) (h1:G2 w1 N c ps q xs wr):G2 a N b ps q xs wr:=by
 refine⟨h1.1,h1.2.1,JJ h.2.2.1 h1.2.2.1 h.2.2.2,λk hk=>?_⟩;rcases h1.2.2.2 k hk with e|e
 ·exact h.2.2.2 k e
 ·exact Ad (Bf h.2.2.1.size e)
theorem G2.later {a:World} {b:Value} {ps:List (List Int)} (h:G2 a N b ps q xs w1) (hb:Below w1.heap.size w1 w2):G2 a N b ps q xs w2:=
 ⟨h.1.kept (w' := w2) (row := none) ⟨hb.os, hb.tape, hb.output, hb.size, λj hj _ => hb.block j hj⟩ (by rcases Kz (Value.ownBlock q) with h | ⟨x, h⟩; exact Ae h; exact Ad (by rw [h]; simp)),
  h.2.1.imp λu z hp=>hp.later hb,JJ h.2.2.1 (IW hb q.ownBlock) h.2.2.2,h.2.2.2⟩
theorem G2.here {a:Value} {ps:List (List Int)} {b:World} (h:G2 b N a ps q xs w1):G2 w1 N q ps q xs w1:=⟨h.1,h.2.1,IW (Ag _ _) _,λ_ h=>Ae h⟩
theorem YU (b o n a:Nat) (hn:n+1<=a) (w':World):Sem.run prog (Instr.slice 22 (.slice (some (zD b o)) (n+1) a) (some (zA 1)) none none) w'=.ok (.slice (if a=1 then some (zD b o) else some ⟨b,o+1,none⟩) n (a-1)) w':=by
 have ab:(1:Int)<=(n:Int)+1:=by omega
 have c:(1:Int)<=((n+1:Nat):Int):=by omega
 rw[run_slice_l (P:=prog) (ht:=underlying22) (h0:=by omega) (h1:=c)];by_cases aa:a=1
 ·subst aa;simp[go_sem,sliced]
 ·simp[go_sem,sliced,aa]
theorem OS {ops:Array Oper} {o:Oper} {a:Act} {K:Act->World->Prop} {Q:Exit->Act->World->Prop} {b:Value} (aa:o.guard=none) (s x:Operand) (t t':TypeId)
  (ho:o.op=.call { callee:=.builtin .append,args:=#[s,x],argTypes:=#[t,t']}) (hs:a.eval s=v) (hx:a.eval x=u)
  (c:(Builtin.append_ #[t,t'] o.type #[v,u]).run P w=.ok b w') (h:K (a.put o.dst b) w'):if Region.wanted o (yielded ops a.tmps)=true then Oper.wp P o a w K Q else E:=by
 have hw:Region.wanted o (yielded ops a.tmps)=true:=by simp[Region.wanted,aa]
 rw[Ao hw];unfold Oper.wp execOp;simp only[ho,resolve,invoke,builtin,Sem.run_bind,Sem.run_pure,Result.andThen_ok,List.map_toArray,Bo,Ky,hs,hx,c];exact h
theorem R8 {a m:Nat} {c:List Value} (h:w.ownsRow N T 1 q n xs) (h':w.ownsRow b a 1 u m c) (d:T≠a) (k:Nat) (hk:q.ownBlock=some k):u.ownBlock≠some k:=by
 intro e;obtain⟨_,h⟩:=h;obtain⟨_,h'⟩:=h';rcases h with ⟨rfl,_⟩|⟨g,cap,cur,rfl,_,f,_⟩
 ·simp[Value.ownBlock]at hk
 ·rcases h' with ⟨rfl,_⟩|⟨g',ab,ad,rfl,_,aa,_⟩
  ·simp[Value.ownBlock]at e
  ·simp[Value.ownBlock]at hk e;subst hk; subst e;rw[f]at aa; simp at aa; exact d aa.2
def Iy (W W':World) (u u':Value) (n:Nat):Prop:=
 (∃g cap,u=.slice (some (zD g 0)) n cap/\u'=.slice (some (zD g 0)) (n+1) cap)∨((∀k,u'.ownBlock=some k->W.heap.size<=k)/\Below W.heap.size W W')
theorem YV (h:W.ownsRow N 3 1 u hs.length (hs.map λz=>zA z)) (q:N<=W.heap.size) (i:Int) (F:Nat) (hF:W.heap[F]? = some (.cells #[zA i] 3 (0,0))) (hn:hs.length<=1000000):
  ∃a W',(Builtin.append_ #[22,22] 22 #[u,.slice (some (zD F 0)) 1 1]).run prog W=.ok a W'/\W'.ownsRow N 3 1 a (hs++[i]).length ((hs++[i]).map λz=>zA z)/\W.grownBy W' u.ownBlock/\Iy W W' u a hs.length:=by
 obtain⟨i0,hi,r,ab,s⟩:=DO Tryz.infoInt;have t:W.cell? (zD F 0)=some (zA i):=by simp[World.cell?,hF]
 have f:Src prog i0.size 22 (.slice (some (zD F 0)) 1 1) 1 [zA i] W:=by
  rw[ab];refine Src.ofSlice W underlying22 ⟨F,0,none⟩ 1 1 _ (by simp) (λj v hj=>?_) (by intro v hv; simp at hv; subst hv; rfl);match j,hj with
  |0,hj=>simp at hj; subst hj; simpa [Addr.add] using t
 have h':=h;obtain⟨hl,h1⟩:=h;have grow:∀(base:Option Addr) (cap:Nat),u=.slice base hs.length cap->(Builtin.firstCells i0.size hs.length (.slice base hs.length cap)).run prog W.drew=.ok (hs.map λz=>Value.int .i64 z).toArray W.drew->cap<hs.length+1->cap<=1000000 ->
   ∃a W',(Builtin.append_ #[22,22] 22 #[u,.slice (some (zD F 0)) 1 1]).run prog W=.ok a W'/\W'.ownsRow N 3 1 a (hs++[i]).length ((hs++[i]).map λz=>zA z)/\W.grownBy W' u.ownBlock/\Iy W W' u a hs.length:=by
  intro base cap hu x aq c;subst hu;have b:=run_append_grow_src (P:=prog) W 22 22 22 3 i0 (zA 0) underlying22 hi r base hs.length cap _ x _ 1 _ f (by omega) (by omega) (by rw[s]; exact growslice_fits (by omega) (by omega));have au:=grownCap_ge W (hs.length+1) cap 3;have c:=grownCap_le_maxLen W (hs.length+1) cap 3 (by unfold maxLen; omega);have l:Below W.heap.size W (W.drew.alloc (zh (((hs.map λz=>Value.int .i64 z)++[Value.int .i64 i]).toArray++Builtin.zeroCells (Value.int .i64 0).cells (grownCap W (hs.length+1) cap 3-(hs.length+1))) 3)):=((Ag W.heap.size W).drew).alloc (Al _) _;refine⟨_,_,b,⟨by simp,Ad ⟨W.heap.size,_,_,by simp,q,Fk W.drew _,by simp; omega,c,?_,?_⟩⟩,IW l _,Ad ⟨λk hk=>?_,l⟩⟩
  ·simp[Builtin.zeroCells,Value.cells]; omega
  ·rw[Array.toList_append,Hl (by simp),BH (by simp)]; simp
  ·simp[Value.ownBlock]at hk; omega
 rcases h1 with ⟨hu,h0⟩|⟨g,cap,cur,hu,y,d,av,c,hcs,m⟩
 ·have e:hs=[]:=Fj.1 h0;subst e;exact grow none 0 hu (by simp[Builtin.firstCells,go_sem]) (by simp) (by omega)
 ·by_cases aa:hs.length+1<=cap
  ·subst hu;simp only[Nat.mul_one] at hcs m;have aw:g<W.heap.size:=(h'.lt g rfl).2;have n:hs.length<cur.size:=(by omega);have b:=run_append_room_src (P:=prog) W 22 22 22 3 i0 underlying22 hi g 0 hs.length cap _ 1 _ f aa (λj hj=>by simp at hj; subst hj; rw[ab]; simp[World.cell?,d,n]) (λj hj=>by simp at hj; subst hj; rw[ab]; simp[World.frozen?,d]);rw[ab]at b;simp only[World.setCells,DA,Nat.mul_one] at b;refine⟨_,_,b,⟨by simp,Ad ⟨g,cap,cur.setIfInBounds hs.length (zA i),by simp,y,?_,by simpa using aa,c,by simp[hcs],?_⟩⟩,⟨rfl,rfl,rfl,by simp[World.setCell],λk hk o=>An _ _ _ _ (by simp[Value.ownBlock] at o; simpa using o)⟩,Ae ⟨g,cap,rfl,rfl⟩⟩
   ·simp[World.setCell,Jq,d]
   ·simp only[NX,Cv,IL,Nat.mul_one,CI,Bo,Ky];rw[Ci (by simpa using n),List.take_set_of_le (by omega),m];simp
  ·exact grow (some (zD g 0)) cap hu (by
    have hc:=h'.cells (g:=g) (by rw[hu]; rfl);exact run_firstCells_some (P:=prog) W.drew i0.size hs.length (zD g 0) hs.length cap _ (by rw[ab]; simp) (λj v hj=>hc j v hj)) (by omega) (by omega)
def CT (A:Nat) (w w':World) (q u:Value):Prop:=
 w'.os=w.os/\w'.tape=w.tape/\w'.output=w.output/\w.heap.size<=w'.heap.size/\∀b,b<w.heap.size->b≠A->some b≠q.ownBlock->some b≠u.ownBlock->w'.heap[b]? = w.heap[b]?
theorem CT.of_below (hb:Below w.heap.size w w') (q u:Value):CT A w w' q u:=⟨hb.os,hb.tape,hb.output,hb.size,λk hk _ _ _=>hb.block k hk⟩
theorem CT.of_grown' (hb:w.grownBy w' u.ownBlock) (q:Value):CT A w w' q u:=⟨hb.os,hb.tape,hb.output,hb.size,λk hk _ _ h=>hb.block k hk h⟩
theorem CT.trans {a u1:Value} (h:CT A w w1 q u) (h1:CT A w1 w2 a u1) (hq:∀k,a.ownBlock=some k->q.ownBlock=some k∨w.heap.size<=k) (hu:∀k,u1.ownBlock=some k->u.ownBlock=some k∨w.heap.size<=k):CT A w w2 q u:=
 ⟨h1.1.trans h.1,h1.2.1.trans h.2.1,h1.2.2.1.trans h.2.2.1,Bf h.2.2.2.1 h1.2.2.2.1,λb hb aa ab c=>(h1.2.2.2.2 b (B7 hb h.2.2.2.1) aa
  (λe=>by rcases hq b e.symm with h2|h2; exact ab h2.symm; omega) (λe=>by rcases hu b e.symm with h2|h2; exact c h2.symm; omega)).trans (h.2.2.2.2 b hb aa ab c)⟩
theorem CT.own (aa:A<N) (h:CT A w w' q u) (hv:w.ownsRow N T 1 v n xs) (hq:∀k,v.ownBlock=some k->q.ownBlock≠some k) (hu:∀k,v.ownBlock=some k->u.ownBlock≠some k):w'.ownsRow N T 1 v n xs:=by
 have a:=hv.lt;obtain⟨h1,h2⟩:=hv;refine⟨h1,h2.imp id ?_⟩;rintro⟨g,cap,cur,rfl,b,c,d⟩;exact⟨g,cap,cur,rfl,b,by rw[h.2.2.2.2 g (a g rfl).2 (by have:=(a g rfl).1; omega) (λe=>hq g rfl e.symm) (λe=>hu g rfl e.symm)]; exact c,d⟩
def Dd (A:Nat) (w0:World) (N:Nat) (q0 u:Value) (hs:List Int) (Y:Nat->Prop) (ps:List (List Int)) (q:Value) (xs:List Value) (wr:World):Prop:=
 wr.ownsRow N 22 1 q ps.length xs/\wr.ownsRow N 3 1 u hs.length (hs.map λz=>zA z)/\DU wr (λb=>N<=b/\some b≠q.ownBlock/\some b≠u.ownBlock/\¬Y b) ps xs/\CT A w0 wr q0 u/\(∀k,q.ownBlock=some k->q0.ownBlock=some k∨w0.heap.size<=k)
theorem Sa:(22:Nat)≠3:=by decide
theorem Dd.far {a:World} {b:Value} {ps:List (List Int)} (h:Dd A a N b u hs Y ps q xs wr) (k:Nat) (hk:q.ownBlock=some k):u.ownBlock≠some k:=R8 h.1 h.2.1 Sa k hk
theorem Dd.far' {a:World} {b:Value} {ps:List (List Int)} (h:Dd A a N b u hs Y ps q xs wr) (k:Nat) (hk:u.ownBlock=some k):q.ownBlock≠some k:=R8 h.2.1 h.1 (EI Sa) k hk
theorem Dd.later {a:World} {b:Value} {ps:List (List Int)} (aa:A<N) (h:Dd A a N b u hs Y ps q xs w1) (hb:Below w1.heap.size w1 w2):Dd A a N b u hs Y ps q xs w2:=by
 refine⟨CT.own aa (CT.of_below (A:=A) hb zB zB) h.1 (by simp[Value.ownBlock]) (by simp[Value.ownBlock]),CT.own aa (CT.of_below (A:=A) hb zB zB) h.2.1 (by simp[Value.ownBlock]) (by simp[Value.ownBlock]),h.2.2.1.imp λu z hp=>hp.later hb,h.2.2.2.1.trans (CT.of_below hb q u) h.2.2.2.2 (λk h=>Ae h),h.2.2.2.2⟩
theorem Dd.here {a:World} {b:Value} {ps:List (List Int)} (h:Dd A a N b u hs Y ps q xs w1):Dd A w1 N q u hs Y ps q xs w1:=⟨h.1,h.2.1,h.2.2.1,CT.of_below (Ag _ _) _ _,λ_ h=>Ae h⟩
theorem Dd.store {d:Value} {ps:List (List Int)} (aa:A<N) (h:Dd A c N d u hs Y ps q xs wr) (v:Value):Dd A c N d u hs Y ps q xs (wr.setCell (zD A 0) v):=by
 have a:CT A wr (wr.setCell (zD A 0) v) zB (zB):=⟨rfl,rfl,rfl,by simp[World.setCell],λb hb e _ _=>An _ _ _ _ (by simpa using e)⟩;refine⟨CT.own aa a h.1 (by simp[Value.ownBlock]) (by simp[Value.ownBlock]),CT.own aa a h.2.1 (by simp[Value.ownBlock]) (by simp[Value.ownBlock]),h.2.2.1.imp λx z hp=>hp.kept λb hb=>An _ _ _ _ (by have:=hb.1; simp; omega),h.2.2.2.1.trans a (by simp[Value.ownBlock]) (by simp[Value.ownBlock]),h.2.2.2.2⟩
theorem YW {a:Value} (b:A<N) (h:W.ownsRow N 3 1 u hs.length (hs.map λz=>zA z)) (hg:W.grownBy W' u.ownBlock) (he:Iy W W' u a hs.length) (h':aa.ownsRow N 3 1 a (hs++[i]).length ((hs++[i]).map λz=>zA z)) (c:CT A W' aa q a) (hq:∀k,u.ownBlock=some k->q.ownBlock≠some k):
  aa.ownsRow N 3 1 u hs.length (hs.map λz=>zA z):=by
 rcases he with ⟨g,cap,rfl,rfl⟩|⟨ab,d⟩
 ·obtain⟨_,h1⟩:=h;obtain⟨_,h2⟩:=h';rcases h1 with ⟨h1,_⟩|⟨g1,ag,ah,h1,f,_,j,l,_,_⟩
  ·simp at h1
  ·rcases h2 with ⟨h2,_⟩|⟨g2,ak,m,h2,_,n,_,_,hcs,o⟩
   ·simp at h2
   ·simp at h1 h2;obtain⟨rfl,rfl⟩:=h1;obtain⟨rfl,rfl⟩:=h2;refine⟨by simp,Ad ⟨g,cap,m,rfl,f,n,j,l,hcs,?_⟩⟩;have h3:=Cb (List.take hs.length) o;rw[List.take_take]at h3;simpa [Hl,Nat.min_eq_left] using h3
 ·have r:=h.lt;exact CT.own b ((CT.of_below d q a).trans c (λk h=>Ae h) (λk h=>Ae h)) h hq (λk hk e=>by have:=ab k e; have:=(r k hk).2; omega)
theorem Dd.down {f a:Value} {ps:List (List Int)} (ab:A<N) (h:Dd A d N f u hs Y ps q xs wr) (hb:Below wr.heap.size wr W) (h':W'.ownsRow N 3 1 a (hs++[i]).length ((hs++[i]).map λz=>zA z)) (c:W.grownBy W' u.ownBlock) (he:Iy W W' u a hs.length):
  Dd A W' N q a (hs++[i]) (λb=>b<wr.heap.size/\(Y b∨some b=u.ownBlock)) ps q xs W':=by
 have h2:=Dd.later ab h hb;have ad:=h.2.1.lt;have ae:=hb.size;have hu:∀b,b<wr.heap.size->some b=a.ownBlock->some b=u.ownBlock:=λb hb e=>by
  rcases he with ⟨g,cap,rfl,rfl⟩|⟨aa,_⟩
  ·simpa [Value.ownBlock] using e
  ·have:=aa b e.symm; omega
 refine⟨CT.own ab (CT.of_grown' (A:=A) c zB) h2.1 (by simp[Value.ownBlock]) h2.far,h',h.2.2.1.imp λx z hp=>?_,CT.of_below (Ag _ _) _ _,λ_ h=>Ae h⟩;refine((hp.mono (Y:=λb=>(N<=b/\some b≠q.ownBlock/\some b≠u.ownBlock/\¬Y b)/\b<wr.heap.size) λb h1 h2=>⟨h1,h2⟩).kept (w':=W') λb hx=>?_).mono λb hx _=>⟨hx.1.1,hx.1.2.1,λe=>hx.1.2.2.1 (hu b hx.2 e),λe=>?_⟩
 ·rw[c.block b (by omega) hx.1.2.2.1,hb.block b hx.2]
 ·rcases e.2 with e|e
  ·exact hx.1.2.2.2 e
  ·exact hx.1.2.2.1 e
theorem Dd.up {f:World} {j l a:Value} {ps m:List (List Int)} {n:List Value} (o:A<N) (h:Dd A d N j u hs Y ps q xs wr) (r:∀b,Y b->b<wr.heap.size) (hb:Below wr.heap.size wr W) (c:W.grownBy W' u.ownBlock) (he:Iy W W' u a hs.length)
  (h':Dd A W' N q a (hs++[i]) (λb=>b<wr.heap.size/\(Y b∨some b=u.ownBlock)) m l n f):Dd A d N j u hs Y m l n f:=by
 have h2:=Dd.later o h hb;have aa:=h.2.1.lt;have ai:=hb.size;have aj:=c.size;have ak:=h.2.2.2.1.2.2.2.1;have ab:∀k,a.ownBlock=some k->u.ownBlock=some k∨W.heap.size<=k:=λk hk=>by
  rcases he with ⟨g,cap,rfl,rfl⟩|⟨s,_⟩
  ·exact Ae hk
  ·exact Ad (s k hk)
 refine⟨h'.1,YW o h2.2.1 c he h'.2.1 h'.2.2.2.1 h2.far',h'.2.2.1.imp λx z hp=>hp.mono λb hx _=>⟨hx.1,hx.2.1,λe=>hx.2.2.2 ⟨(aa b e.symm).2,Ad e⟩,λe=>hx.2.2.2 ⟨r b e,Ae e⟩⟩,?_,λk hk=>?_⟩
 ·exact h2.2.2.2.1.trans ((CT.of_grown' c q).trans h'.2.2.2.1 (λk h=>Ae h) ab) h2.2.2.2.2 (λk h=>Ae h)
 ·rcases h'.2.2.2.2 k hk with e|e
  ·exact h.2.2.2.2 k e
  ·right; omega
abbrev Dn:=List Int×Tm
def Bv (q:List Int):Nat:=(q.headD 0).toNat
def Cg:List Int->Nat->Nat->List Int->List Tm->List Dn
 |_,_,_,_,[]=>[]
 |hs,j,st,r,⟨s,l⟩::rest=>(if j<st then [] else (hs++[(j:Int)],⟨s,l⟩)::Cg (hs++[(j:Int)]) 0 (Bv (if j=st then r else [])) (if j=st then r else []).tail l)++Cg hs (j+1) st r rest
def BB (hs fs:List Int) (t:Tm):List Dn:=(hs,t)::Cg hs 0 (Bv fs) fs.tail t.args
theorem Ht (hs:List Int) (j st:Nat) (r:List Int) (t:Tm) (rest:List Tm):Cg hs j st r (t::rest)=(if j<st then [] else BB (hs++[(j:Int)]) (if j=st then r else []) t)++Cg hs (j+1) st r rest:=by
 obtain⟨s,l⟩:=t;rw[Cg];rfl
theorem Sb (hs:List Int) (st:Nat) (r:List Int) (a b:List Tm):∀j,Cg hs j st r (a++b)=Cg hs j st r a++Cg hs (j+a.length) st r b:=by
 induction a with
 |nil=>intro j; simp[Cg]
 |cons t a c=>
  intro j;rw[Bj,Ht,Ht,c,DN,Bg];congr 3
  omega
theorem YX (hs:List Int) (st:Nat) (r:List Int) (l:List Tm) (k:Nat) (h:k<l.length) (aa:st<=k):Cg hs 0 st r (l.take (k+1))=Cg hs 0 st r (l.take k)++BB (hs++[(k:Int)]) (if k=st then r else []) l[k]:=by
 rw[Ci h,Sb,Ht];have e:0+(l.take k).length=k:=by rw[List.length_take]; omega
 rw[e,Ah (by omega)];simp[Cg]
theorem Sc (hs:List Int) (st:Nat) (r:List Int):∀(l:List Tm) (j:Nat),j+l.length<=st->Cg hs j st r l=[]
 | [],_,_=>by simp[Cg]
 |t::l,j,h=>by
  rw[Ht,Sc hs st r l (j+1) (by simp at h; omega),Ao (by simp at h; omega)];rfl
theorem YY (g:List Int->Tm->List β):∀(l:List Tm) (hs:List Int) (j:Nat) (G:List Int->List β),(∀k p x,(h:k<l.length)->AA l[k] p=some x->G (((j+k:Nat):Int)::p)=g (hs++(((j+k:Nat):Int)::p)) x)->(Cg hs j 0 [] l).flatMap (λd=>g d.1 d.2)=(Fp j l).flatMap G:=by
 intro l;induction l using Tm.indL with
 |h0=>intro hs j G h; simp[Cg,Fp]
 |h s l rest aa ab=>
  intro hs j G h;have h1:(BB (hs++[(j:Int)]) [] ⟨s,l⟩).flatMap (λd=>g d.1 d.2)=(Ez (⟨s,l⟩:Tm)).flatMap λp=>G ((j:Int)::p):=by
   unfold BB Ez;rw[Hm,Hm];congr 1
   ·have:=h 0 [] ⟨s,l⟩ (by simp) rfl;simpa using this.symm
   ·refine aa (hs++[(j:Int)]) 0 _ λk p x hk hx=>?_;have:=h 0 (((0+k:Nat):Int)::p) x (by simp) (by
     simp only[Gs,AA];have e:((0+k:Nat):Int).toNat=k:=(by omega);rw[EY ⟨by omega,by rw[e]; exact hk⟩];simp only[e];exact hx)
    simpa using this
  rw[Ht,KZ,Hn,Hn,List.flatMap_map];congr 1
  ·rw[Ah (by omega)];have e:(if j=0 then ([]:List Int) else [])=[]:=(by split<;>rfl);rw[e];exact h1
  ·refine ab hs (j+1) G λk p x hk hx=>?_;have:=h (k+1) p x (by simp; omega) (by simpa using hx);have e:((j+(k+1):Nat):Int)=((j+1+k:Nat):Int):=(by omega);rw[e]at this;exact this
theorem K9 (g:List Int->Tm->List β) (t:Tm) (G:List Int->List β) (h:∀p x,AA t p=some x->G p=g p x):(BB [] [] t).flatMap (λd=>g d.1 d.2)=(Ez t).flatMap G:=by
 unfold BB Ez;rw[Hm,Hm];congr 1
 ·exact(h [] t rfl).symm
 ·refine YY g t.args [] 0 G λk p x hk hx=>?_;refine h _ _ ?_;have e:((0+k:Nat):Int).toNat=k:=by omega
  simp only[AA];rw[EY ⟨by omega,by rw[e]; exact hk⟩];simp only[e];exact hx
theorem YZ {a:Value} {Q:Nat->Prop} (h:W.ownsRow N 3 1 u hs.length (hs.map λz=>zA z)) (hg:W.grownBy W' u.ownBlock) (he:Iy W W' u a hs.length) (h':aa.ownsRow N 3 1 a (hs++[i]).length ((hs++[i]).map λz=>zA z)) (c:Ak Q W' aa) (hq:∀k,u.ownBlock=some k->a.ownBlock≠some k->¬Q k):
  aa.ownsRow N 3 1 u hs.length (hs.map λz=>zA z):=by
 rcases he with ⟨g,cap,rfl,rfl⟩|⟨ab,b⟩
 ·obtain⟨_,h1⟩:=h;obtain⟨_,h2⟩:=h';rcases h1 with ⟨h1,_⟩|⟨g1,af,ag,h1,d,_,f,j,_,_⟩
  ·simp at h1
  ·rcases h2 with ⟨h2,_⟩|⟨g2,aj,l,h2,_,m,_,_,hcs,n⟩
   ·simp at h2
   ·simp at h1 h2;obtain⟨rfl,rfl⟩:=h1;obtain⟨rfl,rfl⟩:=h2;refine⟨by simp,Ad ⟨g,cap,l,rfl,d,m,f,j,hcs,?_⟩⟩;have h3:=Cb (List.take hs.length) n;rw[List.take_take]at h3;simpa [Hl,Nat.min_eq_left] using h3
 ·have o:=h.lt;refine Dc h λg hk=>?_;have q:=(o g hk).2;have al:=b.size;rw[c.block g (by omega) (hq g hk (λe=>by have:=ab g e; omega)),b.block g q]
open Go.RowKit Go.Shelf
def Y3 (l:Nat) (r rb rd:Loop) (Post:Bool->World->Prop):Exit->Act->World->Prop
 | .normal,_,w3=>w3.heap[l]? = some (.loop rb)/\Post true (w3.putObj l (.loop r))
 | .ret,_,w3=>w3.heap[l]? = some (.loop rb)/\Post false (w3.putObj l (.loop rd))
 |_,_,_=>False
theorem JU {r:Loop} {args:Array Value} {aa:Bool->World->Prop} {assign body:Code} {ps:Array Tmp} {tmps:Array Value} {rb rd:Loop} (ab:rb={ r with state:=.busy}) (i:rd={ r with state:=.done,pending:=some .ret}) (j:r.assign=assign) (k:r.body=body) (m:r.params=ps) (o:r.tmps=tmps) (q:W.heap[l]? = some (.loop r)) (b:r.state=.ready) (f:r.pending=none) (u:args.size=ps.size)
  (h:assign.wpIn (Fence.wide.inRound l) n P (Exit.then (λx g=>g.heap[l]? = some (.loop r)/\body.wpIn (Fence.wide.inRound l) n P (Y3 l r rb rd aa) x (g.putObj l (.loop rb))) (λ_ _ _=>False)) { tmps:=(ps.zip args).foldl (λt (p,v)=>t.setIfInBounds p v) tmps,defers:=[]} W):
  YieldAt Fence.wide n P l args W λe W'=>∃s,e=.returned (.bool s)/\aa s W':=by
 subst ab; subst i; subst j; subst k; subst m; subst o;refine⟨r.fn,_,r.assign,r.body,run_yield q u,roundIn_of_wpIn trivial (wpIn_mono h ?_)⟩;rintro e a w1 hp;cases e with
 |normal=>
  obtain⟨h1,h2⟩:=hp;refine⟨_,run_beginRound h1 b,wpIn_mono h2 ?_⟩;rintro y a3 w3 h3;cases y with
  |normal=>
   obtain⟨h3,d⟩:=h3;refine⟨_,_,run_endRound none h3,true,rfl,?_⟩;have z:({ r with state:=.ready,pending:=none}:Loop)=r:=by
    obtain⟨_,_,_,_,_,_,_,_⟩:=r;simp at b f;subst b; subst f;rfl
   have A:({ ({ r with state:=.busy}:Loop) with state:=if (none:Option Code).isNone then .ready else .done,pending:=none}:Loop)=r:=by rw[<-z]; rfl
   rw[A];exact d
  |ret=>obtain⟨h3,d⟩:=h3;exact⟨_,_,run_endRound (some .ret) h3,false,rfl,d⟩
  |exit id=>exact h3.elim
  |goto t=>exact h3.elim
  |panic c=>exact h3.elim
  |outgrown=>exact h3.elim
 |ret=>exact hp.elim
 |exit id=>exact hp.elim
 |goto t=>exact hp.elim
 |panic c=>exact hp.elim
 |outgrown=>exact hp.elim
theorem La {g:Operand} {ps:Array Tmp} {assign body:Code} {Q:Exit->Act->World->Prop} {a:Act} (f:a.eval g=.func (.func gf) #[] lb) (i:∀args w,(callFunc gf args).run P w=.ok (.enter gf args) w)
  (h:∀(r:Loop),r.state=.ready->r.pending=none->r.tmps=a.tmps->r.params=ps->r.assign=assign->r.body=body -> 
   Calls P gf (#[.func (.yield (w.heap.size+1)) #[] #[]]++lb) ((w.alloc (.deferred (some []))).alloc (.loop r)) λe W=>(∃v,e=.returned v)/\((W.heap[w.heap.size+1]? = some (.loop r)/\Q .normal { a with defers:={ target:=.collected w.heap.size,args:=#[]}::a.defers} (W.putObj (w.heap.size+1) (.loop { r with state:=.exhausted})))∨
    (W.heap[w.heap.size+1]? = some (.loop { r with state:=.done,pending:=some .ret})/\Q .ret { a with defers:={ target:=.collected w.heap.size,args:=#[]}::a.defers} (W.putObj (w.heap.size+1) (.loop { r with state:=.exhausted,pending:=some .ret}))))):
  (Code.rangeFunc g ps assign body).wpIn Fence.wide n P Q a w:=by
 refine wpIn_rangeFunc ?_;intro fn aa;obtain⟨r,b⟩:∃r:Loop,r={ state:=.ready,pending:=none,fn,tmps:=a.tmps,params:=ps,assign,body,defers:=w.heap.size}:=⟨_,rfl⟩;refine⟨w.heap.size+1,[{ target:=.collected w.heap.size,args:=#[]}],(w.alloc (.deferred (some []))).alloc (.loop r),{ target:=.fn (.func gf) lb,args:=#[.func (.yield (w.heap.size+1)) #[] #[]]},(w.alloc (.deferred (some []))).alloc (.loop r),gf,#[.func (.yield (w.heap.size+1)) #[] #[]]++lb,(w.alloc (.deferred (some []))).alloc (.loop r),?_,?_,?_,?_,?_,?_⟩
 ·rw[b]; exact run_enterLoop_outer _ _ _ _ _
 ·simp only[resolve,f];simp[go_sem]
 ·intro f' ab; trivial
 ·simp[invoke,go_sem,i]
 ·intro h; simp[Fence.wide] at h
 ·refine(CP.2 (h r (by rw[b]) (by rw[b]) (by rw[b]) (by rw[b]) (by rw[b]) (by rw[b]))).mono ?_;rintro e W ⟨⟨v,rfl⟩,hc⟩;rcases hc with ⟨c,hq⟩|⟨c,hq⟩
  ·have d:=run_endLoop (P:=P) c (by rw[b]; simp);have j:r.pending=none:=(by rw[b]);exact⟨none,_,d.trans (by rw[j]),hq⟩
  ·have d:=run_endLoop (P:=P) c (by simp);exact⟨some .ret,_,d,wpIn_ret hq⟩
theorem Y4 {g:Operand} {ps:Array Tmp} {assign body:Code} {Q:Exit->Act->World->Prop} {a:Act} {l₀:Nat} {r₀:Loop} (aa:w.heap[l₀]? = some (.loop r₀)) (f:a.eval g=.func (.func gf) #[] lb) (i:∀args w,(callFunc gf args).run P w=.ok (.enter gf args) w)
  (h:∀(r:Loop),r.state=.ready->r.pending=none->r.tmps=a.tmps->r.params=ps->r.assign=assign->r.body=body -> 
   Calls P gf (#[.func (.yield w.heap.size) #[] #[]]++lb) (w.alloc (.loop r)) λe W=>(∃v,e=.returned v)/\((W.heap[w.heap.size]? = some (.loop r)/\Q .normal a (W.putObj w.heap.size (.loop { r with state:=.exhausted})))∨
    (W.heap[w.heap.size]? = some (.loop { r with state:=.done,pending:=some .ret})/\Q .ret a (W.putObj w.heap.size (.loop { r with state:=.exhausted,pending:=some .ret}))))):
  (Code.rangeFunc g ps assign body).wpIn (Fence.wide.inRound l₀) n P Q a w:=by
 refine wpIn_rangeFunc ?_;intro fn ab;obtain⟨r,b⟩:∃r:Loop,r={ state:=.ready,pending:=none,fn,tmps:=a.tmps,params:=ps,assign,body,defers:=r₀.defers}:=⟨_,rfl⟩;refine⟨w.heap.size,[],w.alloc (.loop r),{ target:=.fn (.func gf) lb,args:=#[.func (.yield w.heap.size) #[] #[]]},w.alloc (.loop r),gf,#[.func (.yield w.heap.size) #[] #[]]++lb,w.alloc (.loop r),?_,?_,?_,?_,?_,?_⟩
 ·rw[b]; exact run_enterLoop_inner aa _ _ _ _ _
 ·simp only[resolve,f];simp[go_sem]
 ·intro f' ad; trivial
 ·simp[invoke,go_sem,i]
 ·intro h; simp[Fence.wide] at h
 ·refine(CallsIn.inRound l₀ (CP.2 (h r (by rw[b]) (by rw[b]) (by rw[b]) (by rw[b]) (by rw[b]) (by rw[b])))).mono ?_;rintro e W ⟨⟨v,rfl⟩,hc⟩;rcases hc with ⟨c,hq⟩|⟨c,hq⟩
  ·have d:=run_endLoop (P:=P) c (by rw[b]; simp);have j:r.pending=none:=(by rw[b]);exact⟨none,_,d.trans (by rw[j]),hq⟩
  ·have d:=run_endLoop (P:=P) c (by simp);exact⟨some .ret,_,d,wpIn_ret hq⟩
abbrev Tk (α:Type):=List α->Bool->(Nat->Prop)->World->Prop
structure EQ {α:Type} (J:Tk α) (K:Nat->Prop):Prop where
 inside:∀ {pre s f W},J pre s f W->∀b,f b∨K b->b<W.heap.size
 apart:∀ {pre s f W},J pre s f W->∀b,K b->¬f b
 abide:∀ {pre s f W W'},J pre s f W->W.heap.size<=W'.heap.size->(∀b,f b∨K b->W'.heap[b]? = W.heap[b]?)->J pre s f W'
theorem EQ.exq {J:Tk α} {K:Nat->Prop} (h:EQ J K) {pre:List α} (hj:J pre s f W) (he:Ak g W W') (a:∀b,f b∨K b->¬g b):J pre s f W':=
 h.abide hj he.size λb hb=>he.block b (h.inside hj b hb) (a b hb)
def Lb {α:Type} (lp:Nat) (L:α->Array Value->World->(Nat->Prop)->Prop) (J:Tk α) (all:List α):Prop:=
 ∀(n:Nat) (pre:List α) (x:α) (args:Array Value) (Z f:Nat->Prop) (W:World),(pre++[x]) <+: all->J pre true f W->L x args W Z->(∀b,Z b->b<W.heap.size/\¬f b)->
  YieldAt Fence.wide n prog lp args W λe W'=>∃s,e=.returned (.bool s)/\∃f',J (pre++[x]) s f' W'/\Ak f W W'/\∀b,f' b->f b∨W.heap.size<=b
def JV (s:Bool) (P:Prop):Prop:=s=false->P
def Hu {α:Type} (lp:Nat) (L:α->Array Value->World->(Nat->Prop)->Prop) (J:Tk α) (all:List α) (S:World->Prop):Prop:=
 ∀(n:Nat) (pre:List α) (x:α) (args:Array Value) (Z f:Nat->Prop) (W:World),(pre++[x]) <+: all->J pre true f W->L x args W Z->(∀b,Z b->b<W.heap.size/\¬f b)->
  YieldAt Fence.wide n prog lp args W λe W'=>∃s,e=.returned (.bool s)/\∃f',J (pre++[x]) s f' W'/\Ak f W W'/\(∀b,f' b->f b∨W.heap.size<=b)/\JV s (S W')
def Hv (S:World->Prop):Prop:=∀(W W':World),S W->W.heap.size<=W'.heap.size->(∀b,b<W.heap.size->W'.heap[b]? = W.heap[b]? ∨ (∃r,W.heap[b]? = some (.loop r))∨∃d,W.heap[b]? = some (.deferred d))->S W'
theorem Hv.put (h:Hv S) (hs:S W) {r:Loop} (a:W.heap[l]? = some (.loop r)) (o:Obj):S (W.putObj l o):=
 h _ _ hs (by simp) λb hb=>by
  by_cases e:b=l
  ·subst e; exact Ad (Ae ⟨r,a⟩)
  ·exact Ae (World.putObj_heap_other e)
theorem Hv.putD (h:Hv S) (hs:S W) {d:Option (List Deferred)} (a:W.heap[l]? = some (.deferred d)) (o:Obj):S (W.putObj l o):=
 h _ _ hs (by simp) λb hb=>by
  by_cases e:b=l
  ·subst e; exact Ad (Ad ⟨d,a⟩)
  ·exact Ae (World.putObj_heap_other e)
theorem Hv.triv:Hv λ_=>True:=λ_ _ _ _ _=>trivial
theorem Lb.toS {lp:Nat} {L:α->Array Value->World->(Nat->Prop)->Prop} {J:Tk α} {all:List α} (h:Lb lp L J all):Hu lp L J all (λ_=>True):=by
 intro n pre x args Z f W h1 h2 h3 d;obtain⟨g,aa,i,ab,hy,j⟩:=h n pre x args Z f W h1 h2 h3 d;refine⟨g,aa,i,ab,hy,RoundIn.mono j ?_⟩;rintro e W' ⟨s,he,k,a,b,c⟩;exact⟨s,he,k,a,b,c,λ_=>trivial⟩
def B9 {α:Type} (J:Tk α) (all pre:List α) (f g:Nat->Prop) (W:World) (s:Bool) (W':World):Prop:=
 ∃(m:Nat) (f':Nat->Prop),m<=all.length/\(s=true->m=all.length)/\J (pre++all.take m) s f' W'/\Ak (λb=>f b∨g b) W W'/\∀b,f' b->f b∨W.heap.size<=b
theorem B9.nil {J:Tk α} {pre:List α} (h:J pre true f W):B9 J [] pre f g W true W:=
 ⟨0,f,Al _,λ_=>rfl,by simpa using h,Ak.refl _ _,λb hb=>Ae hb⟩
theorem B9.one {J:Tk α} {pre:List α} {x:α} {a:Nat->Prop} (h:J (pre++[x]) s a W') (he:Ak f W W') (c:∀b,a b->f b∨W.heap.size<=b):B9 J [x] pre f g W s W':=
 ⟨1,a,by simp,λ_=>rfl,by simpa using h,he.mono λb hb _=>Ae hb,c⟩
theorem B9.end_true {J:Tk α} {all pre:List α} (h:B9 J all pre f g W true W'):∃a,J (pre++all) true a W'/\Ak (λb=>f b∨g b) W W'/\∀b,a b->f b∨W.heap.size<=b:=by
 obtain⟨m,a,hm,hs,hj,he,c⟩:=h;obtain rfl:=hs rfl;exact⟨a,by simpa using hj,he,c⟩
theorem B9.trans {J:Tk α} {a1 a2 pre:List α} {f1 g2:Nat->Prop} {a:World} (hj:J (pre++a1) true f1 a) (he:Ak (λb=>f b∨g b) W a) (d:∀b,f1 b->f b∨W.heap.size<=b) (h:B9 J a2 (pre++a1) f1 g2 a s c) (e:∀b,g2 b->g b∨W.heap.size<=b):B9 J (a1++a2) pre f g W s c:=by
 obtain⟨m,j,hm,hs,aa,ab,k⟩:=h;refine⟨a1.length+m,j,by simp; omega,λh=>by simp[hs h],?_,he.transN ab ?_,?_⟩
 ·rw[List.take_append,BH (by omega)];simpa [DN] using aa
 ·rintro i hi hl;rcases hi with hi|hi
  ·rcases d i hi with h|h
   ·exact Ae h
   ·omega
  ·rcases e i hi with h|h
   ·exact Ad h
   ·omega
 ·intro b hb;have:=he.size;rcases k b hb with h|h
  ·exact d b h
  ·right; omega
theorem B9.stop {J:Tk α} {a1 a2 pre:List α} (h:B9 J a1 pre f g W false W'):B9 J (a1++a2) pre f g W false W':=by
 obtain⟨m,a,hm,hs,hj,he,b⟩:=h;exact⟨m,a,by simp; omega,by simp,by rw[Hl hm]; exact hj,he,b⟩
theorem B9.mono {J:Tk α} {a pre:List α} (h:B9 J a pre f g W s W') (c:∀b,g b->b<W.heap.size->g' b):B9 J a pre f g' W s W':=by
 obtain⟨m,d,hm,hs,hj,he,e⟩:=h;exact⟨m,d,hm,hs,hj,he.mono λb hb i=>hb.imp id (λh=>c b h i),e⟩
theorem B9.exq {J:Tk α} {a pre:List α} (h:B9 J a pre f g W s W'):Ak (λb=>f b∨g b) W W':=by
 obtain⟨_,_,_,_,_,he,_⟩:=h;exact he
theorem B9.from {J:Tk α} {a pre:List α} {W0:World} (h:B9 J a pre f g W s W') (he:Ak g' W0 W) (c:∀b,g b->g' b∨W0.heap.size<=b):B9 J a pre f g' W0 s W':=by
 obtain⟨m,d,hm,hs,hj,aa,e⟩:=h;refine⟨m,d,hm,hs,hj,(he.mono (R:=λb=>f b∨g' b) λb hb _=>Ad hb).transN aa ?_,λb hb=>?_⟩
 ·rintro i hi hl;rcases hi with hi|hi
  ·exact Ae hi
  ·rcases c i hi with h|h
   ·exact Ad h
   ·omega
 ·have:=he.size;rcases e b hb with h|h
  ·exact Ae h
  ·right; omega
def OT {α:Type} (J:Tk α) (all pre:List α) (f:Nat->Prop) (S:World->Prop) (w:World) (e:Ending) (w':World):Prop:=
 (∃v,e=.returned v)/\∃b,B9 J all pre f (λ_=>False) w b w'/\JV b (S w')
attribute [local go_sem] Ho
theorem Y5 {ops:Array Oper} {o:Oper} {a:Act} {K:Act->World->Prop} {Q:Exit->Act->World->Prop} (aa:o.guard=none) (s x:Operand)
  (ho:o.op=.call { callee:=.builtin .append,args:=#[s,x],argTypes:=#[22,22]}) (ab:o.type=22) (c:a.eval s=u) (i:Int) (F:Nat) (hx:a.eval x=.slice (some (zD F 0)) 1 1)
  (h:W.ownsRow N 3 1 u hs.length (hs.map λz=>zA z)) (d:N<=W.heap.size) (hF:W.heap[F]? = some (.cells #[zA i] 3 (0,0))) (e:hs.length<=1000000)
  (hk:∀b W',W'.ownsRow N 3 1 b (hs++[i]).length ((hs++[i]).map λz=>zA z)->W.grownBy W' u.ownBlock->Iy W W' u b hs.length->K (a.put o.dst b) W'):if Region.wanted o (yielded ops a.tmps)=true then Oper.wp prog o a W K Q else E:=by
 obtain⟨b,W',f,h1,h2,h3⟩:=YV h d i F hF e;exact OS aa s x _ _ ho c hx (by rw[ab]; exact f) (hk b W' h1 h2 h3)
theorem Dd.from {o:Obj} {a:Value} {ps:List (List Int)} (h:Dd A (w.alloc o) N a u hs Y ps q xs wr):Dd A w N a u hs Y ps q xs wr:=by
 refine⟨h.1,h.2.1,h.2.2.1,(CT.of_below ((Ag _ _).alloc (Al _) o) a u).trans h.2.2.2.1 (λk h=>Ae h) (λk h=>Ae h),λk hk=>?_⟩;rcases h.2.2.2.2 k hk with e|e
 ·exact Ae e
 ·right; simp at e; omega
theorem Sd (l:List Tm) (k:Nat) (h:k<l.length):1+Ab [l[k]]<=1+Ab l:=by
 have:=DP l k h;have:=Eu l (k+1);omega
