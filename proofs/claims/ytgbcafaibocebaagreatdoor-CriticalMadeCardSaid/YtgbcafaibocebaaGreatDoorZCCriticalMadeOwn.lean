/- Several texts in one. -/
import Derived.Test.YtgbcafaibocebaaGreatDoorZBCriticalMadeOwn
import Derived.Deep.RegionHeld3
import Derived.Deep.AppendSrc
import Derived.Deep.RegionHeld
import Derived.Deep.DeepCutAuto
import Derived.Sort.Grow
import Derived.Maps.RangeRun
namespace Go.Proofs.YtgbcafaibocebaaGreatDoor
set_option linter.all false
set_option maxRecDepth 20000
set_option maxHeartbeats 8000000
open Go.RowKit Go.Proofs.Tryz
def JP (l:List UInt8):Nat:=l.foldl (λa b=>10*a+(b.toNat-48)) 0
theorem Pf (l:List UInt8) (b:UInt8):JP (l++[b])=10*JP l+(b.toNat-48):=by simp[JP]
theorem Pg {n:Nat} (h:n<10):(UInt8.ofNat (48+n)).toNat-48=n:=by
 rw[UInt8.toNat_ofNat'];omega
theorem KO (n:Nat):JP (Lib.decDigits n)=n:=by
 induction n using Nat.strongRecOn with
 |ind n a=>
  by_cases h:n<10
  ·rw[Lib.decDigits,D7 h];have:=Pf [] (UInt8.ofNat (48+n));simp only[D9] at this;rw[this,Pg h];simp[JP]
  ·have e:Lib.decDigits n=Lib.decDigits (n / 10)++[UInt8.ofNat (48+n % 10)]:=(by conv=>lhs; rw[Lib.decDigits,dif_neg h]);rw[e,Pf,a (n / 10) (by omega),Pg (by omega)];omega
theorem V8 {j k:Nat} (h:Cc j=Cc k):j=k:=by
 unfold Cc at h;simp only[ByteArray.mk.injEq] at h;have h1:=Bx Array.toList h;simp only[List.toList_toArray,GC,true_and] at h1;rw[<-KO j,h1,KO]
def He (w:World) (Y:Nat->Prop) (r:Nat) (ls:List Bd):Prop:=∃Z:List Bc,Bm w r (Z.map GI)/\Z.map (·.1)=ls/\∀x∈Z,Sl w Y x.2.1 x.1.t.args
theorem He.kept {w w':World} {Y:Nat->Prop} {r:Nat} {ls:List Bd} (h:He w Y r ls) (b:w'.heap[r]? = w.heap[r]?) (hs:∀a l,Sl w Y a l->Sl w' Y a l):He w' Y r ls:=by
 obtain⟨Z,h1,h2,h3⟩:=h;exact⟨Z,h1.kept b,h2,λx hx=>hs _ _ (h3 x hx)⟩
theorem He.lt {w:World} {Y:Nat->Prop} {r:Nat} {ls:List Bd} (h:He w Y r ls):r<w.heap.size:=by obtain⟨Z,h1,_⟩:=h; exact h1.lt
theorem He.later {w w':World} {Y:Nat->Prop} {r:Nat} {ls:List Bd} (h:He w Y r ls) (hb:Below w.heap.size w w'):He w' Y r ls:=h.kept (hb.block r h.lt) (λa l hs=>hs.later hb)
theorem KQ {w w1:World} {n:Nat} {a b c d e f:Addr} {v1 v2 v3 v4 v5 v6:Value} (hb:Below (w.drewN n).heap.size (w.drewN n) w1)
  (h:w.cell? a=some v1/\w.cell? b=some v2/\w.cell? c=some v3/\w.cell? d=some v4/\w.cell? e=some v5/\w.cell? f=some v6):
  w1.cell? a=some v1/\w1.cell? b=some v2/\w1.cell? c=some v3/\w1.cell? d=some v4/\w1.cell? e=some v5/\w1.cell? f=some v6:=by
 have aa:Below w.heap.size w w1:=(below_drewN (Af _ _) n).trans (hb.mono (by simp));exact⟨cell_later aa h.1,cell_later aa h.2.1,cell_later aa h.2.2.1,cell_later aa h.2.2.2.1,cell_later aa h.2.2.2.2.1,cell_later aa h.2.2.2.2.2⟩
def Dz:List Tm->List Tm->Bool
 | [],[]=>true
 | ⟨s,a⟩::r,t::ts=>((s.toList==t.name.toList)&&((a.length==t.args.length)&&Dz a t.args))&&Dz r ts
 |_,_=>false
def BK (a b:Tm):Bool:=(a.name.toList==b.name.toList)&&((a.args.length==b.args.length)&&Dz a.args b.args)
theorem JQ (x t:Tm) (r b:List Tm):Dz (x::r) (t::b)=(BK x t&&Dz r b):=by obtain⟨s,a⟩:=x; simp only[Dz,BK]
theorem MB:∀(a b c d:List Tm),a.length=b.length->Dz (a++c) (b++d)=(Dz a b&&Dz c d)
 | [],[],c,d,_=>by simp[Dz]
 | [],_::_,_,_,h=>by simp at h
 |_::_,[],_,_,h=>by simp at h
 |x::r,t::e,c,d,h=>by rw[Cj,Cj,JQ,JQ,MB r e c d (by simpa using h),Bool.and_assoc]
theorem MC {l m:List Tm} {k:Nat} (h:k<l.length) (h2:k<m.length):Dz (l.take (k+1)) (m.take (k+1))=(Dz (l.take k) (m.take k)&&BK l[k] m[k]):=by
 rw[Bo h,Bo h2,MB _ _ _ _ (by simp; omega),JQ];simp[Dz]
theorem Ph {l m:List Tm} {k:Nat} (h:k<l.length) (aa:l.length=m.length) (h0:BK l[k] (m[k]'(by omega))=false):Dz l m=false:=by
 have a:l=l.take (k+1)++l.drop (k+1):=(EJ _ _).symm;have b:m=m.take (k+1)++m.drop (k+1):=(EJ _ _).symm;rw[a,b,MB _ _ _ _ (by simp; omega),MC h (by omega),h0];simp
def Pi (w:World) (l m:List Tm) (a a2:Option Addr) (c c2:Nat) (i:Value) (wr:World):Prop:=
 ∃(k:Nat),k<=l.length/\i=zA k/\Dz (l.take k) (m.take k)=true/\Below w.heap.size w wr/\wr.cell? (zD w.heap.size 1)=some (.slice a l.length c)/\wr.cell? (zD (w.heap.size+1) 1)=some (.slice a2 l.length c2)/\w.heap.size+2<=wr.heap.size
theorem KT (t:Tm):∀(x:Tm) (v u:Value) (w:World) (X Y:Nat->Prop),TV w X v t->TV w Y u x->
  Calls prog 29 #[v,u] w λe w'=>e=.returned (.bool (BK t x))/\Below w.heap.size w w':=by
 induction t using Tm.ind with
 |h s l G=>
  intro x v u w X Y hv hu;obtain⟨s2,m⟩:=x;have P:=Aa G;clear G;obtain⟨a,c,rfl,hs⟩:=hv;obtain⟨a2,c2,rfl,H⟩:=hu;have hl:=hs.1;have ar:=H.1;(try dsimp only[zF]);(try dsimp only[zG]);(try dsimp only[zE]);(try dsimp only);cases hn:(s.toList==s2.toList) with
  |false=>have d:Hid (false=BK ⟨s,l⟩ ⟨s2,m⟩):=Aa (by unfold BK;rw[hn];rfl);go_enter func29,ntmps29;go_wp2_with fail;go_ret;exact⟨BJ d.o,CX _ _⟩
  |true=>
   by_cases hm:l.length=m.length
   ·have d:Hid (Dz l m=BK ⟨s,l⟩ ⟨s2,m⟩):=Aa (by unfold BK;simp[hn,hm]);have j:=Aa hm;rw[<-hm];clear hm;go_enter func29,ntmps29;go_wp2_with fail;go_loopw [5] (λi wr=>Pi w l m a a2 c c2 i wr) (λi wr=>l.length-(intOf i).toNat);case atStart=>exact⟨0,AG _,rfl,by simp[Dz],CX _ _,by simp,by simp,by simp⟩
    case round=>
     obtain⟨k,hk,rfl,hq,hb,R,T,au⟩:=hrel;have I:=Aa hq;clear hq;by_cases q:k<l.length
     ·obtain⟨b,o,B,c',rfl,d0,d1,hx⟩:=hs.get hb (λ_ _ h=>h) k q;obtain⟨f,g,C,D,rfl,U,V,J⟩:=H.get hb (λ_ _ h=>h) k (by have:=j.o; omega);have W:k<m.length:=by have:=j.o; omega
      have L:=Aa hx;have M:=Aa J;have N:=Aa hb;have r:=Aa (And.intro R (And.intro T (And.intro d0 (And.intro d1 (And.intro U V)))));have A:=Aa (λ(w':World)=>P.o l[k] (AN q) m[k] (.agg (zF l[k] B c')) (.agg (zF m[k] C D)) w' X Y);have O:=Aa (MC q W);have Z:=Aa (Ph q j.o);clear hx J hb;generalize l[k]=y at *;generalize m[k]=z at *;go_wp2_with fail;cases E:BK y z with
      |true=>
       rw[E]at A O;go_region_held3 (λw'=>w'.cell? (zD w.heap.size 1)=some (.slice (some (zD b o)) l.length c)/\w'.cell? (zD (w.heap.size+1) 1)=some (.slice (some (zD f g)) l.length c2)/\w'.cell? ⟨b,o+k*2,none⟩=some (.string y.name)/\w'.cell? ⟨b,o+k*2+1,none⟩=some (.slice B y.args.length c')/\w'.cell? ⟨f,g+k*2,none⟩=some (.string z.name)/\w'.cell? ⟨f,g+k*2+1,none⟩=some (.slice C z.args.length D)) (first|exact r.o|exact ab|go_keep)
        ((go_at_call 29; refine(A.o _ (by exact L.o.later (below_drewN (Af _ _) 1)) (by exact M.o.later (below_drewN (Af _ _) 1))).mono ?_; rintro e w1 ⟨rfl,aa⟩; have ab:=KQ (n:=1) aa r.o))
       go_wp2_with fail;go_roundw
       case rel=>exact⟨k+1,by omega,by go_num,by rw[O.o,I.o]; rfl,(N.o.trans (below_drewN (Af _ _) 1)).trans (aa.mono (by simp; omega)),ab.1,ab.2.1,by have:=aa.size; simp at this; omega⟩
       case measure=>simp[intOf]; omega
      |false=>
       have F:Hid (false=BK ⟨s,l⟩ ⟨s2,m⟩):=Aa (by rw[<-d.o,Z.o E]);rw[E]at A;go_region_held3 (λw'=>w'.cell? (zD w.heap.size 1)=some (.slice (some (zD b o)) l.length c)/\w'.cell? (zD (w.heap.size+1) 1)=some (.slice (some (zD f g)) l.length c2)/\w'.cell? ⟨b,o+k*2,none⟩=some (.string y.name)/\w'.cell? ⟨b,o+k*2+1,none⟩=some (.slice B y.args.length c')/\w'.cell? ⟨f,g+k*2,none⟩=some (.string z.name)/\w'.cell? ⟨f,g+k*2+1,none⟩=some (.slice C z.args.length D)) (first|exact r.o|exact ab|go_keep)
        ((go_at_call 29; refine(A.o _ (by exact L.o.later (below_drewN (Af _ _) 1)) (by exact M.o.later (below_drewN (Af _ _) 1))).mono ?_; rintro e w1 ⟨rfl,aa⟩; have ab:=KQ (n:=1) aa r.o))
       go_wp2_with fail;go_ret;exact⟨BJ F.o,(N.o.trans (below_drewN (Af _ _) 1)).trans (aa.mono (by simp; omega))⟩
     ·have F:Hid (true=BK ⟨s,l⟩ ⟨s2,m⟩):=Aa (by rw[<-d.o,<-I.o,AX (by omega),AX (by have:=j.o; omega)]);go_wp2_with fail;go_ret;exact⟨BJ F.o,hb⟩
   ·have d:Hid (false=BK ⟨s,l⟩ ⟨s2,m⟩):=Aa (by unfold BK;simp[hn,hm]);have av:((l.length:Int)==(m.length:Int))=false:=DU.2 (by omega);clear hm;go_enter func29,ntmps29;go_wp2_with fail;go_ret;exact⟨BJ d.o,CX _ _⟩
theorem Pj:∀(a b:List Tm),Ao (a++b)=Ao a++Ao b
 | [],b=>by simp[Ao]
 | ⟨s,l⟩::r,b=>by
  have:=Pj r b;simp[Ao,this]
theorem V9:∀l k:List Tm,l.length=k.length->Dz l k=true->l=k:=by
 intro l;induction l using Tm.indL with
 |h0=>intro k h _; cases k with
  |nil=>rfl
  |cons _ _=>simp at h
 |h s a r aa ab=>
  intro k h he;cases k with
  |nil=>simp at h
  |cons u q=>obtain⟨s',b⟩:=u;rw[JQ]at he;simp only[G5] at he;obtain⟨h1,h2⟩:=he;unfold BK at h1;simp only[G5,beq_iff_eq] at h1;obtain⟨h3,c,d⟩:=h1;rw[ab q (by simpa using h) h2,aa b c d,Eu h3]
theorem Wa:∀l:List Tm,Dz l l=true:=by
 intro l;induction l using Tm.indL with
 |h0=>simp[Dz]
 |h s a r aa ab=>rw[JQ,ab];simp[BK,aa]
theorem Wb {a b:Tm}:BK a b=true↔a=b:=by
 constructor
 ·intro h;obtain⟨s,l⟩:=a;obtain⟨s',k⟩:=b;unfold BK at h;simp only[G5,beq_iff_eq] at h;rw[Eu h.1,V9 l k h.2.1 h.2.2]
 ·rintro rfl;unfold BK;simp[Wa]
def BM:List Tm->List Tm->List Bd->Option (List Bd)
 | [],_,h=>some h
 | ⟨s,a⟩::r,ts,h=>match ts with
  | []=>none
  |t::ts'=>
   match (if Al s=true then (match As h s with
     |some x=>if BK x t=true then some h else none
     |none=>some (h++[⟨s,t⟩]))
    else if ((s.toList==t.name.toList)&&(a.length==t.args.length))=true then BM a t.args h else none) with
   |some h'=>BM r ts' h'
   |none=>none
def A7 (p t:Tm) (h:List Bd):Option (List Bd):=
 if Al p.name=true then (match As h p.name with
   |some x=>if BK x t=true then some h else none
   |none=>some (h++[⟨p.name,t⟩]))
  else if ((p.name.toList==t.name.toList)&&(p.args.length==t.args.length))=true then BM p.args t.args h else none
theorem Hf (p t:Tm) (r b:List Tm) (h:List Bd):BM (p::r) (t::b) h=(match A7 p t h with
   |some h'=>BM r b h'
   |none=>none):=by obtain⟨s,a⟩:=p; simp only[BM,A7]
theorem MD:∀(a b c d:List Tm) (h:List Bd),a.length=b.length->BM (a++c) (b++d) h=(match BM a b h with
   |some h'=>BM c d h'
   |none=>none)
 | [],[],c,d,h,_=>by simp[BM]
 | [],_::_,_,_,_,e=>by simp at e
 |_::_,[],_,_,_,e=>by simp at e
 |x::r,t::f,c,d,h,e=>by
  rw[Cj,Cj,Hf,Hf];cases A7 x t h with
  |none=>rfl
  |some h'=>exact MD r f c d h' (by simpa using e)
theorem Pk {l m:List Tm} {k:Nat} (h:k<l.length) (h2:k<m.length) (hv:List Bd):BM (l.take (k+1)) (m.take (k+1)) hv=(match BM (l.take k) (m.take k) hv with
   |some h'=>A7 l[k] m[k] h'
   |none=>none):=by
 rw[Bo h,Bo h2,MD _ _ _ _ _ (by simp; omega)];cases BM (l.take k) (m.take k) hv with
 |none=>rfl
 |some h'=>
  show BM [l[k]] [m[k]] h'=A7 l[k] m[k] h';rw[Hf];cases A7 l[k] m[k] h' with
  |none=>rfl
  |some aa=>simp[BM]
theorem Pl {l m:List Tm} {k:Nat} {hv h':List Bd} (h:k<l.length) (aa:l.length=m.length) (h1:BM (l.take k) (m.take k) hv=some h') (h0:A7 l[k] (m[k]'(by omega)) h'=none):BM l m hv=none:=by
 have a:l=l.take (k+1)++l.drop (k+1):=(EJ _ _).symm;have b:m=m.take (k+1)++m.drop (k+1):=(EJ _ _).symm;rw[a,b,MD _ _ _ _ _ (by simp; omega),Pk h (by omega),h1];simp only[h0]
theorem Pm {l m:List Tm} {k:Nat} {hv h' aa:List Bd} (h:k<l.length) (h2:k<m.length) (h1:BM (l.take k) (m.take k) hv=some h') (h0:A7 l[k] m[k] h'=some aa):BM (l.take (k+1)) (m.take (k+1)) hv=some aa:=by
 rw[Pk h h2,h1];exact h0
theorem ME {s s2:ByteArray} {l m:List Tm} {h:List Bd} (hv:Al s=false) (hn:(s.toList==s2.toList)=true) (a:l.length=m.length):A7 ⟨s,l⟩ ⟨s2,m⟩ h=BM l m h:=by
 simp[A7,hv,hn,a]
theorem MF {s s2:ByteArray} {l m:List Tm} {h:List Bd} (hv:Al s=false) (hn:((s.toList==s2.toList)&&(l.length==m.length))=false):A7 ⟨s,l⟩ ⟨s2,m⟩ h=none:=by
 unfold A7;rw[Aj (by rw[hv]; simp),Aj (by simp only[hn]; simp)]
theorem Pn {s:ByteArray} {l:List Tm} {t:Tm} {h:List Bd} (hv:Al s=true) (a:As h s=none):A7 ⟨s,l⟩ t h=some (h++[⟨s,t⟩]):=by simp[A7,hv,a]
theorem Po {s:ByteArray} {l:List Tm} {t x:Tm} {h:List Bd} (hv:Al s=true) (a:As h s=some x):A7 ⟨s,l⟩ t h=if BK x t=true then some h else none:=by simp[A7,hv,a]
theorem Wc {h:List Bd} {s:ByteArray} (b:As h s=none):∀d∈h,d.nm≠s:=by
 induction h with
 |nil=>intro d hd; cases hd
 |cons a r c=>
  intro d hd;rw[As]at b;split at b
  ·cases b
  ·rename_i e;rcases Bq.1 hd with rfl|hd
   ·exact e
   ·exact c b d hd
theorem Pp {p t:Tm} {h h':List Bd} (d:∀f g g',BM p.args f g=some g'->Cx g->Cx g'/\g'.length<=g.length+Ab p.args) (he:A7 p t h=some h') (c:Cx h):Cx h'/\h'.length<=h.length+(1+Ab p.args):=by
 unfold A7 at he;split at he
 ·split at he
  ·split at he
   ·cases he; exact⟨c,by omega⟩
   ·cases he
  ·rename_i i;cases he;refine⟨Km.2 ⟨c,by simp,λa h1 b h2=>?_⟩,by simp⟩;have e:b=⟨p.name,t⟩:=(by simpa using h2);rw[e];exact Wc i a h1
 ·split at he
  ·obtain⟨h1,h2⟩:=d _ _ _ he c;exact⟨h1,by omega⟩
  ·cases he
theorem Pq:∀(l a:List Tm) (h h':List Bd),BM l a h=some h'->Cx h->Cx h'/\h'.length<=h.length+Ab l:=by
 intro l;induction l using Tm.indL with
 |h0=>intro a h h' he b; simp[BM] at he; subst he; exact⟨b,by simp⟩
 |h s l r aa ab=>
  intro a h h' he b;cases a with
  |nil=>simp[BM] at he
  |cons t a=>
   rw[Hf]at he;cases hm:A7 ⟨s,l⟩ t h with
   |none=>rw[hm] at he; cases he
   |some g=>rw[hm]at he;obtain⟨h1,h2⟩:=Pp (p:=⟨s,l⟩) (λa g g' h3 c=>aa a g g' h3 c) hm b;obtain⟨h3,c⟩:=ab a g h' he h1;refine⟨h3,?_⟩;simp only[Ab];simp only at h2;omega
theorem Ps {p t:Tm} {h h':List Bd} (he:A7 p t h=some h') (b:Cx h):Cx h'/\h'.length<=h.length+Ab [p]:=by
 obtain⟨h1,h2⟩:=Pp (λc g g' h3 d=>Pq p.args c g g' h3 d) he b;refine⟨h1,?_⟩;obtain⟨s,a⟩:=p;simp[Ab]at h2 ⊢;omega
def Cd:Nat->List Tm->List (List Int)
 |_,[]=>[]
 |j,⟨_,l⟩::r=>((([]:List Int)::Cd 0 l).map λp=>(j:Int)::p)++Cd (j+1) r
def Bs (t:Tm):List (List Int):=[]::Cd 0 t.args
theorem IW (j:Nat) (t:Tm) (r:List Tm):Cd j (t::r)=((Bs t).map λp=>(j:Int)::p)++Cd (j+1) r:=by
 obtain⟨s,l⟩:=t;simp only[Cd,Bs]
theorem Wd (a b:List Tm):∀j,Cd j (a++b)=Cd j a++Cd (j+a.length) b:=by
 induction a with
 |nil=>intro j; simp[Cd]
 |cons t r c=>intro j; rw[Cj,IW,IW,c]; simp[Jy,Nat.add_comm 1]
theorem We (l:List Tm) (k:Nat) (h:k<l.length):Cd 0 (l.take (k+1))=Cd 0 (l.take k)++(Bs l[k]).map λp=>(k:Int)::p:=by
 rw[Bo h,Wd,IW];have:(l.take k).length=k:=by rw[H9]; omega
 simp[this,Cd]
theorem Pt (l:List Tm):∀j,(Cd j l).length=Ab l:=by
 induction l using Tm.indL with
 |h0=>intro j; simp[Cd,Ab]
 |h s l r aa ab=>intro j; simp[Cd,Ab,aa,ab]; omega
theorem MG (t:Tm):(Bs t).length=Ab [t]:=by
 obtain⟨s,l⟩:=t;simp[Bs,Pt,Ab]; omega
theorem Wi (l:List Tm):∀j,∀p∈Cd j l,p.length<=Ab l:=by
 induction l using Tm.indL with
 |h0=>intro j p hp; simp[Cd] at hp
 |h s l r aa ab=>
  intro j p hp;simp only[Cd,Bg,Ce,Bq] at hp;simp only[Ab];rcases hp with ⟨a,h1,rfl⟩|hp
  ·rcases h1 with rfl|h1
   ·simp; omega
   ·have:=aa 0 a h1; simp; omega
  ·have:=ab _ p hp; omega
def Dl (w:World) (Z:Nat->Prop):List (List Int)->List Value->Prop
 | [],xs=>xs=[]
 |z::r,xs=>∃u xs',xs=u::xs'/\PV w Z u z/\Dl w Z r xs'
theorem Dl.len {w:World} {Z:Nat->Prop}:∀ {l:List (List Int)} {xs:List Value},Dl w Z l xs->xs.length=l.length
 | [],xs,h=>by simp[Dl] at h; simp[h]
 |z::l,xs,h=>by obtain⟨u,aa,rfl,_,h⟩:=h; simp[Dl.len h]
theorem Dl.append {w:World} {Z:Nat->Prop}:∀ {l k:List (List Int)} {xs a:List Value},Dl w Z l xs->Dl w Z k a->Dl w Z (l++k) (xs++a)
 | [],k,xs,a,h,h'=>by simp[Dl] at h; subst h; simpa using h'
 |z::l,k,xs,a,h,h'=>by obtain⟨u,aa,rfl,hp,h⟩:=h; exact⟨u,aa++a,rfl,hp,Dl.append h h'⟩
theorem Dl.imp {w w':World} {Z a:Nat->Prop} (hs:∀u z,PV w Z u z->PV w' a u z):∀ {l:List (List Int)} {xs:List Value},Dl w Z l xs->Dl w' a l xs
 | [],xs,h=>h
 |z::l,xs,h=>by obtain⟨u,aa,e,hp,h⟩:=h; exact⟨u,aa,e,hs _ _ hp,Dl.imp hs h⟩
theorem Dl.get {w:World} {Z:Nat->Prop}:∀ {l:List (List Int)} {xs:List Value},Dl w Z l xs->∀i (h:i<l.length),∃u,xs[i]? = some u/\PV w Z u l[i]
 | [],xs,h,i,hi=>by simp at hi
 |z::l,xs,h,i,hi=>by
  obtain⟨u,aa,rfl,hp,h⟩:=h;cases i with
  |zero=>exact⟨u,rfl,hp⟩
  |succ i=>obtain⟨a,h1,h2⟩:=Dl.get h i (by simpa using hi); exact⟨a,by simpa using h1,h2⟩
theorem PV.one {w:World} {Z:Nat->Prop} {u:Value} {z:List Int} (h:PV w Z u z):u.oneCell'=true:=by obtain⟨a,c,rfl,_⟩:=h; rfl
theorem Tryz.infoInt:(prog.info? 3).map (λi=>(i.zero,i.size,i.bytes))=some (some (zA 0),1,8):=by kernel_rfl
theorem Tryz.infoInts:(prog.info? 22).map (λi=>(i.zero,i.size,i.bytes))=some (some zB,1,24):=by kernel_rfl
theorem Wj {w:World} {N T:Nat} {v:Value} {l:List Int} (h:w.ownsRow N T 1 v l.length (l.map λz=>zA z)):PV w (λb=>N<=b/\v.ownBlock=some b) v l:=by
 have h':=h;obtain⟨_,h1⟩:=h;rcases h1 with ⟨rfl,h0⟩|⟨g,cap,cur,hv,a,hh,ab,c,_⟩
 ·have e:l=[]:=EK.1 h0;subst e;exact⟨none,0,rfl,by simp,Ad rfl⟩
 ·unfold maxLen at c;refine⟨some (zD g 0),cap,hv,⟨by omega,ab⟩,?_⟩;by_cases h0:l=[]
  ·exact Ad h0
  ·have hp:0<l.length:=Fp.2 h0;obtain⟨g2,ae,aa,_,_,hc⟩:=EN h' hp;rw[hv]at aa;simp at aa;obtain⟨rfl,rfl⟩:=aa;exact Ae ⟨g,0,rfl,⟨a,by rw[hv]; rfl⟩,λi hi=>by rw[EL]; exact hc i _ (by simp[hi])⟩
theorem Wk {w:World} {Z:Nat->Prop} {u:Value} {z:List Int} (h:PV w Z u z):Src prog 1 22 u z.length (z.map λx=>zA x) w:=by
 obtain⟨a,c,rfl,_,h⟩:=h;have one:∀v∈(z.map λx=>Value.int .i64 x),v.oneCell'=true:=λv hv=>by obtain⟨x,_,rfl⟩:=Ce.1 hv; rfl
 rcases h with rfl|⟨b,o,rfl,_,hc⟩
 ·cases a with
  |none=>simpa using Src.ofNil w underlying22 c
  |some a=>exact Src.ofSlice w underlying22 a _ c _ (by simp) (by simp) one
 ·refine Src.ofSlice w underlying22 ⟨b,o,none⟩ _ c _ (by simp) (λj v hj=>?_) one;rw[List.getElem?_map]at hj;cases hz:z[j]? with
  |none=>rw[hz] at hj; cases hj
  |some x=>
   rw[hz]at hj;simp at hj;subst hj;obtain⟨d,rfl⟩:=List.getElem?_eq_some_iff.1 hz;have:=hc j d;by_cases h0:j=0
   ·subst h0; first|(simp[Addr.add]; done)|simpa [Addr.add] using this
   ·first|(simp[Addr.add,h0]; done)|simpa [Addr.add,h0] using this
def BR (f:Tm->Tm) (i:Int):Nat->List Tm->List Tm
 |_,[]=>[]
 |j,a::r=>(if (j:Int)=i then f a else a)::BR f i (j+1) r
def AP (x:Tm):List Int->Tm->Tm
 | [],_=>x
 |i::r,t=>⟨t.name,BR (AP x r) i 0 t.args⟩
theorem Hg (f:Tm->Tm) (i:Int):∀(l:List Tm) (j:Nat),(BR f i j l).length=l.length
 | [],_=>rfl
 |a::r,j=>by simp[BR,Hg f i r]
theorem MH (f:Tm->Tm) (i:Int):∀(l:List Tm) (j k:Nat) (h:k<l.length),(BR f i j l)[k]'(by rw[Hg]; exact h)=if ((j+k:Nat):Int)=i then f l[k] else l[k]
 | [],j,k,h=>by simp at h
 |a::r,j,0,h=>by simp[BR]
 |a::r,j,k+1,h=>by
  have:=MH f i r (j+1) k (by simpa using h);simp only[BR,Gw,this];rw[show j+1+k=j+(k+1) by omega]
theorem Wl (f:Tm->Tm) (i:Int) (l:List Tm) (k:Nat) (h:k<l.length):(BR f i 0 l).take (k+1)=(BR f i 0 l).take k++[if (k:Int)=i then f l[k] else l[k]]:=by
 rw[Bo (by rw[Hg]; exact h),MH f i l 0 k h,EL]
theorem Pu:∀(l:List Tm) (j:Nat) (p:List Int),p∈Cd j l->∃(k:Nat) (h:k<l.length) (a:List Int),p=((j+k:Nat):Int)::a/\a∈Bs l[k]
 | [],j,p,h=>by simp[Cd] at h
 |t::r,j,p,h=>by
  rw[IW,Bg,Ce]at h;rcases h with ⟨a,hp',rfl⟩|h
  ·exact⟨0,by simp,a,by simp,hp'⟩
  ·obtain⟨k,hk,a,e,hp'⟩:=Pu r (j+1) p h;exact⟨k+1,by simpa using hk,a,by rw[e]; congr 1; omega,by simpa using hp'⟩
theorem Pv:∀(p:List Int) (t:Tm),p∈Bs t->∃y,AV t p=some y
 | [],t,_=>⟨t,rfl⟩
 |i::r,t,h=>by
  unfold Bs at h;rcases Bq.1 h with h|h
  ·cases h
  ·obtain⟨k,hk,p',e,hp'⟩:=Pu t.args 0 _ h;simp at e;obtain⟨rfl,rfl⟩:=e;obtain⟨y,hy⟩:=Pv r t.args[k] hp';refine⟨y,?_⟩;rw[AV,D7 ⟨by omega,by simpa using hk⟩];simpa using hy
theorem Pw:∀(l:List Tm),Ah l=0↔∀t∈l,Ah [t]=0
 | []=>by simp[Ah]
 |t::r=>by
  rw[GG];by_cases h:Ah [t]=0
  ·rw[Ar h,Pw r];simp[h]
  ·rw[Aj h];simp[h]
theorem Wm (t:Tm) (h:Ah [t]=0):AW t.name=true/\Ah t.args=0/\(0<t.args.length->Al t.name=false):=by
 obtain⟨s,l⟩:=t;have hn:AW s=true:=by
  cases hn:AW s with
  |true=>rfl
  |false=>simp[Ah,hn] at h
 have a:Ah l=0/\(0<l.length->Al s=false):=by
  by_cases a:0<l.length
  ·have hv:Al s=false:=by
    cases hv:Al s with
    |false=>rfl
    |true=>simp[Ah,hn,hv,a] at h
   refine⟨?_,λ_=>hv⟩;simp only[Ah,hn,hv] at h;by_cases h0:Ah l=0
   ·exact h0
   ·simp[h0]at h
  ·have e:l=[]:=EK.1 (by omega);subst e;exact⟨by simp[Ah],λh=>absurd h (by simp)⟩
 exact⟨hn,a⟩
theorem MI {t y:Tm} {i:Int} {r:List Int} (h:AV t (i::r)=some y):∃(k:Nat) (hk:k<t.args.length),i=(k:Int)/\AV t.args[k] r=some y:=by
 rw[AV]at h;split at h
 ·rename_i hc;exact⟨i.toNat,hc.2,by omega,h⟩
 ·cases h
theorem Px:∀(p:List Int) (t y:Tm),Ah [t]=0->AV t p=some y->Ah [y]=0
 | [],t,y,he,h=>by cases h; exact he
 |i::r,t,y,he,h=>by
  obtain⟨k,hk,rfl,h2⟩:=MI h;exact Px r _ y ((Pw t.args).1 (Wm t he).2.1 _ (AN hk)) h2
theorem MJ (f:Tm->Tm) (i:Int):∀(l:List Tm) (j:Nat),i<(j:Int)->BR f i j l=l
 | [],j,h=>rfl
 |a::r,j,h=>by
  rw[BR,Aj (by omega),MJ f i r (j+1) (by omega)]
theorem Py (f:Tm->Tm) (i:Int) (M:Nat):∀(l:List Tm) (j:Nat),(∀a∈l,Ab [f a]<=Ab [a]+M)->Ab (BR f i j l)<=Ab l+M
 | [],j,h=>by simp[BR,Ab]
 |a::r,j,h=>by
  have c:∀b (q:List Tm),Ab (b::q)=Ab [b]+Ab q:=λb q=>Eb [b] q;rw[BR,c,c a r];by_cases hj:(j:Int)=i
  ·rw[Ar hj,MJ f i r (j+1) (by omega)];have:=h a (by simp);omega
  ·rw[Aj hj];have:=Py f i M r (j+1) (λb hb=>h b (by simp[hb]));omega
theorem KV (x:Tm):∀(p:List Int) (t:Tm),Ab [AP x p t]<=Ab [t]+Ab [x]
 | [],t=>by simp[AP]
 |i::r,t=>by
  obtain⟨s,l⟩:=t;have h:=Py (AP x r) i (Ab [x]) l 0 (λa _=>KV x r a);have e:∀q:List Tm,Ab [(⟨s,q⟩:Tm)]=1+Ab q:=λq=>by simp[Ab]
  rw[AP,e,e];show 1+Ab (BR (AP x r) i 0 l)<=_;omega
theorem Wn {x:ByteArray} {l:List ByteArray} (h:AJ x l=true):x∈l:=by
 unfold AJ at h;rw[Ei]at h;obtain⟨y,hy,e⟩:=h;have a:y=x:=Eu (by simpa using e);rw[<-a]; exact hy
def Bv (p:Pr):Int:=if CH p.l p.r=0 then (if Al p.l.name=true then 2 else if (At [] (Ao [p.r])).all (λn=>AJ n (At [] (Ao [p.l])))=true then 0 else 15) else CH p.l p.r
def EC (ls:List Pr):Nat->Int
 |0=>0
 |k+1=>if EC ls k=0 then (match ls[k]? with|some p=>Bv p|none=>0) else EC ls k
def Ck (ls:List Pr):Int:=if 40<ls.length then 3 else EC ls ls.length
theorem MK {ls:List Pr} {k:Nat} (h:EC ls k≠0):∀n,k<=n->EC ls n=EC ls k
 |0,hn=>by
  have:k=0:=by omega
  subst this; rfl
 |n+1,hn=>by
  by_cases e:k=n+1
  ·subst e; rfl
  ·have a:=MK h n (by omega);rw[EC,Aj (by rw[a]; exact h)];exact a
theorem KW {ls:List Pr} {k:Nat} (hk:k<ls.length) (h0:EC ls k=0):EC ls (k+1)=Bv ls[k]:=by rw[EC,Ar h0,G4 hk]
theorem Pz {ls:List Pr} {k:Nat} (hk:k<ls.length) (aa:¬40<ls.length) (h0:EC ls k=0) (a:Bv ls[k]≠0):Ck ls=Bv ls[k]:=by
 unfold Ck;rw[Aj aa];have h1:=KW hk h0;rw[<-h1];exact MK (by rw[h1]; exact a) _ (by omega)
theorem Wo {ls:List Pr} (h:Ck ls=0):ls.length<=40:=by
 unfold Ck at h;split at h
 ·cases h
 ·omega
theorem Hh {ls:List Pr} (h:Ck ls=0):∀p∈ls,Bv p=0:=by
 intro p hp;obtain⟨k,hk,rfl⟩:=Hz hp;have hl:=Wo h;unfold Ck at h;rw[Aj (by omega)]at h;have h0:∀n,n<=ls.length->EC ls n=0:=λn hn=>by
  by_cases e:EC ls n=0
  ·exact e
  ·have:=MK e _ hn;rw[this]at h;exact absurd h e
 have h1:=KW hk (h0 k (by omega));rw[h0 (k+1) (by omega)]at h1;exact h1.symm
theorem ED {p:Pr} (h:Bv p=0):AA p.l=0/\AA p.r=0/\Al p.l.name=false/\∀n∈At [] (Ao [p.r]),n∈At [] (Ao [p.l]):=by
 unfold Bv at h;split at h
 ·rename_i h1;split at h
  ·cases h
  ·rename_i h2;split at h
   ·rename_i h3;unfold CH at h1;split at h1
    ·rename_i a;refine⟨a,h1,by simpa using h2,λn hn=>?_⟩;exact Wn (Hx.1 h3 n hn)
    ·rename_i a; exact absurd h1 a
   ·cases h
 ·rename_i h1; exact absurd h h1
theorem Wp {l:List Bd} (b:Cx l) {d:Bd} (hd:d∈l):As l d.nm=some d.t:=by
 induction l with
 |nil=>cases hd
 |cons a r c=>
  obtain⟨h1,h2⟩:=JB.1 b;rcases Bq.1 hd with rfl|hd
  ·simp[As]
  ·rw[As,Aj (h1 d hd)];exact c h2 hd
theorem Wq {a b:List Bd} (h:∀n,As a n=As b n):∀l:List Tm,Ap a l=Ap b l:=by
 intro l;induction l using Tm.indL with
 |h0=>simp[Ap]
 |h s l r aa ab=>
  rw[Ap,Ap,aa,ab];congr 1
  unfold E7;rw[h s]
theorem Wr {a b:List Bd} (h:∀n,As a n=As b n) (t:Tm):Ag a t=Ag b t:=by
 unfold Ag E7;rw[h,Wq h]
theorem Ws {a b:List Bd} (hp:a.Perm b) (hb:Cx b) (n:ByteArray):As a n=As b n:=by
 have key:∀ {a b:List Bd} {x:Tm},a.Perm b->Cx b->As a n=some x->As b n=some x:=fun {a b x} hp hb h=>by
  have hm:∀ {l:List Bd},As l n=some x->∃d∈l,d.nm=n/\d.t=x:=fun {l}=>by
   induction l with
   |nil=>intro h; simp[As] at h
   |cons d r c=>
    intro h;rw[As]at h;split at h
    ·rename_i e; exact⟨d,by simp,e,by simpa using h⟩
    ·obtain⟨d',h1,h2⟩:=c h;exact⟨d',by simp[h1],h2⟩
  obtain⟨d,hd,rfl,rfl⟩:=hm h;exact Wp hb (hp.mem_iff.1 hd)
 cases h1:As a n with
 |some x=>exact(key hp hb h1).symm
 |none=>
  cases h2:As b n with
  |none=>rfl
  |some x=>have f:Cx a:=Cx.perm hb hp;rw[key hp.symm f h2]at h1;cases h1
def Dh (p:Pr) (x:Tm):Option Tm:=(A7 p.l x []).map λh=>Ag h p.r
def Ba:List ByteArray->List Tm->List Tm×List ByteArray
 |ns,[]=>([],ns)
 |ns,⟨s,l⟩::r=>
  if Al s=true then (⟨Cc (AB s ns+1),[]⟩::(Ba (Cf ns s) r).1,(Ba (Cf ns s) r).2)
  else (⟨s,(Ba ns l).1⟩::(Ba (Ba ns l).2 r).1,(Ba (Ba ns l).2 r).2)
def C3 (ns:List ByteArray) (t:Tm):Tm×List ByteArray:=
 if Al t.name=true then (⟨Cc (AB t.name ns+1),[]⟩,Cf ns t.name) else (⟨t.name,(Ba ns t.args).1⟩,(Ba ns t.args).2)
theorem GN (ns:List ByteArray):Ba ns []=([],ns):=by rw[Ba]
theorem Hi (ns:List ByteArray) (t:Tm) (r:List Tm):Ba ns (t::r)=((C3 ns t).1::(Ba (C3 ns t).2 r).1,(Ba (C3 ns t).2 r).2):=by
 obtain⟨s,l⟩:=t;rw[Ba];unfold C3;by_cases h:Al s=true
 ·simp[h]
 ·simp[h]
theorem PC (b:List Tm):∀(a:List Tm) (ns:List ByteArray),Ba ns (a++b)=((Ba ns a).1++(Ba (Ba ns a).2 b).1,(Ba (Ba ns a).2 b).2)
 | [],ns=>by simp[GN]
 |t::r,ns=>by
  rw[Cj,Hi,PC b r,Hi];simp
theorem Wt (ns:List ByteArray) (l:List Tm) (k:Nat) (h:k<l.length):Ba ns (l.take (k+1))=((Ba ns (l.take k)).1++[(C3 (Ba ns (l.take k)).2 l[k]).1],(C3 (Ba ns (l.take k)).2 l[k]).2):=by
 rw[Bo h,PC,Hi,GN]
theorem ML:∀(l:List Tm) (ns:List ByteArray),(Ba ns l).1.length=l.length
 | [],ns=>by simp[GN]
 |t::r,ns=>by rw[Hi]; simp[ML r]
theorem Wu (l:List Tm):∀(ns:List ByteArray),(Ba ns l).2.length<=ns.length+Ab l:=by
 induction l using Tm.indL with
 |h0=>intro ns; simp[GN]
 |h s l r aa ab=>
  intro ns;have e:Ab ((⟨s,l⟩:Tm)::r)=1+Ab l+Ab r:=by simp[Ab]
  rw[e,Hi];have h2:=ab (C3 ns ⟨s,l⟩).2;have h3:(C3 ns ⟨s,l⟩).2.length<=ns.length+(1+Ab l):=by
   unfold C3;split
   ·have:=MA ns s; simp only; omega
   ·have:=aa ns; simp only; omega
  simp only;omega
theorem PD (w:World) (a b:Value) (T:Nat):∀j u,([a,b]:List Value)[j]? = some u->(w.alloc (.cells #[a,b] T)).cell? (((zD w.heap.size 0):Addr).add j)=some u:=λj u h=>by
 have hb:=Ac.new w #[a,b] T;have h1:((zD w.heap.size 0):Addr).add j=(zD w.heap.size j):=by
  by_cases h0:j=0
  ·subst h0; simp[Addr.add]
  ·simp[Addr.add,h0]
 rw[h1,hb.cell j];simpa using h
def El (Q:Nat) (s1:ByteArray) (v1:Value) (w':World):Prop:=w'.cell? (zD Q 0)=some (.string s1)/\w'.cell? (zD Q 1)=some v1
theorem El.kept {Q:Nat} {s1:ByteArray} {v1:Value} {w w':World} (h:El Q s1 v1 w) (hk:w'.heap[Q]? = w.heap[Q]?):El Q s1 v1 w':=⟨by simpa [World.cell?,hk] using h.1,by simpa [World.cell?,hk] using h.2⟩
structure IX (w:World) (B r:Nat) (s:ByteArray) (T:Array Value) (u:Value) (L:List Tm) (xs:List Value) (ns:List ByteArray) (wr:World):Prop where
 row:AK wr (w.heap.size+3) 33 (λ_=>False) u L xs
 ex:Am (λb=>b=r) w wr
 res:Ac wr (w.heap.size+1) #[.string ⟨#[]⟩,zB] 33
 o:Ac wr (w.heap.size+2) #[.string s,u] 33
 sz:w.heap.size+3<=wr.heap.size
 nm:C2 wr B r ns
theorem KZ {w d a:World} {B r:Nat} {s:ByteArray} {T:Array Value} {u:Value} {L:List Tm} {xs:List Value} {ns m:List ByteArray} {t:Tm} {a5:Option Addr} {c5 Q:Nat} {s1:ByteArray} {v1:Value} (hr:r<w.heap.size) (hB:B<w.heap.size) (h:IX w B r s T u L xs ns d) (F:w.heap.size+3<=Q/\some Q≠u.ownBlock) (x:El Q s1 v1 d) (hl:L.length<=1000000)
  (f:Am (λb=>b=r) d a) (G:Sl a (λb=>d.heap.size<=b) a5 t.args) (ab:C2 a B r m):
  ∃g cap w3,(Builtin.append_ #[31,31] 31 #[u,.slice (some (zD a.heap.size 0)) 1 1]).run prog (a.alloc (.cells (zF t a5 c5) 33))=.ok (.slice (some (zD g 0)) (L.length+1) cap) w3/\
   El Q s1 v1 a/\El Q s1 v1 (a.alloc (.cells (zF t a5 c5) 33))/\El Q s1 v1 w3/\a.cell? (zD (w.heap.size+2) 1)=some u/\(a.alloc (.cells (zF t a5 c5) 33)).cell? (zD (w.heap.size+2) 1)=some u/\w3.cell? (zD (w.heap.size+2) 1)=some u/\w3.frozen? (zD (w.heap.size+2) 1)=false/\w.heap.size+2<w3.heap.size/\
   El Q s1 v1 (w3.setCell (zD (w.heap.size+2) 1) (.slice (some (zD g 0)) (L.length+1) cap))/\IX w B r s T (.slice (some (zD g 0)) (L.length+1) cap) (L++[t]) (xs++[.string t.name,.slice a5 t.args.length c5]) m (w3.setCell (zD (w.heap.size+2) 1) (.slice (some (zD g 0)) (L.length+1) cap)):=by
 obtain⟨aa,hex,H,I,a1,a6⟩:=h;obtain⟨i0,hi,J,M,N⟩:=CE Tryz.infoTerm;obtain⟨wm,n,a7,O⟩:=f.mid;have z:=aa.own.lt;have A:=aa.exq O (λb hb=>by omega) (λb _ h=>h);have a8:=n.size;have R:Q<d.heap.size:=by
  apply Hw;intro hn;have e:d.heap[Q]? = none:=Jv (by omega);have:=x.1;simp[World.cell?,e]at this
 obtain⟨g,cap,w3,U,ho,c,V,aA⟩:=run_append_lies (P:=prog) (w:=a.alloc (.cells (zF t a5 c5) 33)) 31 31 (w.heap.size+3) 33 i0 _ 2 40 underlying31 hi J M N rfl (by decide) u L.length xs ((A.below n).own.alloc _)
  (zD a.heap.size 0) 1 1 [.string t.name,.slice a5 t.args.length c5] rfl (PD _ _ _ _) (λy hy=>by simp at hy; rcases hy with rfl|rfl<;>rfl) (by decide) (by unfold maxLen; omega) (by omega) (by simp; omega) _ rfl
 have hp:=A.push (w1:=a) (w3:=w3) (t:=t) (by omega) (λb h=>h.elim) n ⟨a5,c5,rfl,G.mono λb h _=>Ae (by omega)⟩ _ rfl ho c V;have l:∀j,j<w.heap.size+3->some j≠u.ownBlock:=λj hj e=>by have:=(z j e.symm).1; omega
 have W:=c.size;simp at W;have Y:Am (λb=>b=r) w a:=hex.transN f (λi h _=>h);have Z:Am (λb=>b=r) w w3:=(Y.alloc _).grown c (λk hk=>Ad (by have:=(z k hk).1; omega));have o:=I.exq f (by omega);have q:=(o.alloc (.cells (zF t a5 c5) 33)).grown c (l _ (by omega));have az:=((H.exq f (by omega)).alloc (.cells (zF t a5 c5) 33)).grown c (l _ (by omega));have C:El Q s1 v1 a:=x.kept (f.block Q R (by omega));have D:El Q s1 v1 (a.alloc (.cells (zF t a5 c5) 33)):=C.kept (AL _ _ _ (by omega));have E:El Q s1 v1 w3:=D.kept (c.block Q (by simp; omega) F.2);have v:C2 w3 B r m:=⟨((ab.alloc _).box).grown c (l _ (by omega)),(ab.alloc (.cells (zF t a5 c5) 33)).map.kept (c.block r (by have:=ab.map.lt; simp; omega) (l _ (by omega))),ab.ne⟩;refine⟨g,cap,w3,U,C,D,E,o.cell 1,(o.alloc _).cell 1,q.cell 1,q.frozen 1,by omega,E.kept (Aq _ _ _ _ (by simp; omega)),?_⟩;refine⟨hp.setCell (by omega) (λh=>h) _,Z.setNew (by omega) _ _,az.setOther _ _ (by omega),q.set 1 _,by simp[World.setCell]; omega,⟨v.box.setOther _ _ (by omega),v.map.kept (Aq _ _ _ _ (by simp; omega)),v.ne⟩⟩
def MM (B r:Nat) (y:Tm×List ByteArray) (w:World) (e:Ending) (w':World):Prop:=
 ∃a c,e=.returned (.agg (zF y.1 a c))/\Sl w' (λb=>w.heap.size<=b) a y.1.args/\C2 w' B r y.2/\Am (λb=>b=r) w w'
theorem Wv (n B r:Nat) (aH:n<=r) (t:Tm):∀(v:Value) (ns:List ByteArray) (w:World) (X:Nat->Prop),TV w X v t->(∀b,X b->b≠r)->C2 w B r ns->Tb n w->ns.length+Ab [t]<=100000->
  Calls prog 91 #[v,.func (.func 89) #[] #[zC B]] w λe w'=>MM B r (C3 ns t) w e w':=by
 induction t using Tm.ind with
 |h s l ih=>
  intro v ns w X hv hX O hT aI;obtain⟨a,c,rfl,hs⟩:=hv;have IH:=Aa ih;have HS:=Aa hs;have HX:=Aa hX;have HN:=Aa O;have HT:=Aa hT;have hl:=hs.1;have hz:Ab [(⟨s,l⟩:Tm)]=1+Ab l:=by simp[Ab]
  rw[hz]at aI;have hlen:=EM l;have aJ:r<w.heap.size:=O.map.lt;have aK:B<w.heap.size:=O.box.lt;have C:Hid (r<w.heap.size/\B<w.heap.size):=⟨aJ,aK⟩;have aw:n<=w.heap.size:=by omega
  clear ih hs hz hX O hT;have T2:Hid (Ac ((w.alloc (.cells #[.string s,.slice a l.length c] 33)).alloc (.cells #[.string ⟨#[]⟩,zB] 33)) w.heap.size #[.string s,.slice a l.length c] 33):=(Ac.new w _ _).alloc _;have R2:Hid (Ac ((w.alloc (.cells #[.string s,.slice a l.length c] 33)).alloc (.cells #[.string ⟨#[]⟩,zB] 33)) (w.heap.size+1) #[.string ⟨#[]⟩,zB] 33):=by
   have h:=Ac.new (w.alloc (.cells #[.string s,.slice a l.length c] 33)) #[.string ⟨#[]⟩,zB] 33;rw[CW]at h;exact h
  have m:Hid (Below w.heap.size w ((w.alloc (.cells #[.string s,.slice a l.length c] 33)).alloc (.cells #[.string ⟨#[]⟩,zB] 33))):=((Af _ _).alloc (Ai _) _).alloc (by simp) _;have c0:=T2.o.cell 0;have c1:=T2.o.cell 1;cases q:Al s with
  |true=>have HR:Hid (C3 ns ⟨s,l⟩=(⟨Cc (AB s ns+1),[]⟩,Cf ns s)):=Aa (by unfold C3;simp[q]);have NM:=Aa (Pe n s ns B r _ (HN.o.later m.o) (HT.o.on (m.o.mono aw)) aH (AY aw m.o.size) (by omega));have HV:=Aa q;clear q;go_enter func91,ntmps91;go_wp2_with fail;refine(CG s _).mono ?_;rintro e w2 ⟨rfl,rfl⟩;rw[HV.o];go_wp2_with fail;refine NM.o.mono ?_;rintro e w3 ⟨rfl,a8,ax⟩;have x:=Aa (R2.o.exq ax (by omega));have ay:=Aa a8;have aL:=Aa ((Am.ofBelow (Q:=λb=>b=r) m.o).transN ax (λi h _=>h));clear a8 ax c0 c1 NM;have r0:=x.o.c0;have r1:=x.o.c1;have rf:=x.o.frozen;have az:w.heap.size+1<w3.heap.size:=x.o.lt;generalize Cc (AB s ns+1)=nm at *;go_wp2_with fail;refine An (v:=.agg #[.string nm,zB]) (by simp[results,results91,go_sem,Ay,Aw,r0,r1,az]) rfl ?_;rw[HR.o];refine⟨none,0,rfl,⟨by simp,Ad rfl⟩,⟨(ay.o.box.setOther _ _ (by omega)).setOther _ _ (by omega),?_,ay.o.ne⟩,(aL.o.setNew (by omega) _ _).setNew (by omega) _ _⟩;refine ay.o.map.kept ?_;rw[Aq _ _ _ _ (by simp; omega),Aq _ _ _ _ (by simp; omega)]
  |false=>
   have HR:Hid (C3 ns ⟨s,l⟩=(⟨s,(Ba ns l).1⟩,(Ba ns l).2)):=Aa (by unfold C3;simp[q]);have HV:=Aa q;clear q;go_enter func91,ntmps91;go_wp2_with fail;refine(CG s _).mono ?_;rintro e w2 ⟨rfl,rfl⟩;rw[HV.o];go_wp2_with fail;have O3:Hid (Ac (((w.alloc (.cells #[.string s,.slice a l.length c] 33)).alloc (.cells #[.string ⟨#[]⟩,zB] 33)).alloc (.cells #[.string s,zB] 33)) (w.heap.size+2) #[.string s,zB] 33):=(by have h:=Ac.new ((w.alloc (.cells #[.string s,.slice a l.length c] 33)).alloc (.cells #[.string ⟨#[]⟩,zB] 33)) #[.string s,zB] 33;have e:((w.alloc (.cells #[.string s,.slice a l.length c] 33)).alloc (.cells #[.string ⟨#[]⟩,zB] 33)).heap.size=w.heap.size+2:=(by simp);rw[e]at h;exact h);have x:=Aa (R2.o.alloc (.cells #[.string s,zB] 33));have B3:=Aa (m.o.alloc m.o.size (.cells #[.string s,zB] 33));have aM:Hid (w.heap.size+3<=(((w.alloc (.cells #[.string s,.slice a l.length c] 33)).alloc (.cells #[.string ⟨#[]⟩,zB] 33)).alloc (.cells #[.string s,zB] 33)).heap.size):=Aa (by simp);clear c0 c1 m T2 R2;generalize (((w.alloc (.cells #[.string s,.slice a l.length c] 33)).alloc (.cells #[.string ⟨#[]⟩,zB] 33)).alloc (.cells #[.string s,zB] 33))=w3 at *;go_loopw [22] (λi wr=>∃(k:Nat) (u:Value) (xs:List Value),k<=l.length/\i=zA k/\IX w B r s #[] u (Ba ns (l.take k)).1 xs (Ba ns (l.take k)).2 wr) (λi wr=>l.length-(intOf i).toNat);case atStart=>exact⟨0,zB,[],AG _,rfl,⟨by have h:=AK.start w3 (w.heap.size+3) 33 (λ_=>False); simpa [GN] using h,Am.ofBelow B3.o,x.o,O3.o,aM.o,by simpa [GN] using HN.o.later B3.o⟩⟩
   case round=>
    obtain⟨k,u9,xs,hk,rfl,aA⟩:=hrel;have aa:=Aa aA;clear aA;have o0:=aa.o.o.c0;have o1:wr.cell? (zD (w.heap.size+2) 1)=some u9:=aa.o.o.cell 1;by_cases P:k<l.length
    ·obtain⟨b,o,j,c',rfl,d0,d1,hx⟩:=(((HS.o.mono (Y:=λb=>X b/\b<w.heap.size) λb h1 h2=>⟨h1,h2⟩).exq aa.o.ex (λb h=>HX.o b h.1)).mono (Y:=λb=>(X b/\b<w.heap.size)/\b<wr.heap.size) λb h1 h2=>⟨h1,h2⟩).get (Af wr.heap.size wr) (λb h _=>h.2) k P;have aN:(k:Int)<(l.length:Int):=(by omega);have aO:Ab [l[k]]<=Ab l-Ab (l.take k):=by
      have h1:=De l k P;have h2:=Df l (k+1);omega
     have aB:Ab (l.take k)<=Ab l:=Df l k;have aC:Hid ((Ba ns (l.take k)).1.length<=1000000):=Aa (by rw[ML];simp;omega);have aT:=Wu (l.take k) ns;have a6:=Aa (Wt ns l k P);have BQ:Below wr.heap.size wr (wr.alloc (.cells (zF l[k] j c') 33)):=(Af _ _).alloc (Ai _) _;have aP:=Aa (hx.later BQ);have R:Hid (w.heap.size+3<=wr.heap.size/\some wr.heap.size≠u9.ownBlock):=⟨aa.o.sz,λe=>by have:=(aa.o.row.own.lt _ e.symm).2; omega⟩;have D:Hid (IX w B r s #[] u9 (Ba ns (l.take k)).1 xs (Ba ns (l.take k)).2 (wr.alloc (.cells (zF l[k] j c') 33))):=⟨aa.o.row.below BQ,aa.o.ex.alloc _,aa.o.res.alloc _,aa.o.o.alloc _,by have:=aa.o.sz; simp; omega,aa.o.nm.alloc _⟩;have a7:Hid (El wr.heap.size l[k].name (.slice j l[k].args.length c') (wr.alloc (.cells (zF l[k] j c') 33))):=⟨(Ac.new wr _ _).cell 0,(Ac.new wr _ _).cell 1⟩;have aQ:Hid (Tb n (wr.alloc (.cells (zF l[k] j c') 33))):=HT.o.on (D.o.ex.below aw (λb hb=>by omega));clear hx BQ o0;go_upto_region 7 with fail;clear d0 d1 aa o1;generalize (wr.alloc (.cells (zF l[k] j c') 33))=f at *;generalize wr.heap.size=Q at *;have aD:Hid (Calls prog 91 #[.agg (zF l[k] j c'),.func (.func 89) #[] #[zC B]] f.drew λe T=>∃a1 c1,e=.returned (.agg #[.string (C3 (Ba ns (l.take k)).2 l[k]).1.name,.slice a1 (C3 (Ba ns (l.take k)).2 l[k]).1.args.length c1])/\Sl T (λb=>f.heap.size<=b) a1 (C3 (Ba ns (l.take k)).2 l[k]).1.args/\C2 T B r (C3 (Ba ns (l.take k)).2 l[k]).2/\Am (λb=>b=r) f T):=(IH.o l[k] (AN P) _ _ f.drew _ (aP.o.later ((Af f.heap.size f).drew)) (λb h=>HX.o b h.1.1) (D.o.nm.later ((Af f.heap.size f).drew)) (aQ.o.on ((Af n f).drew)) (by omega)).mono λe T hp=>by
       obtain⟨a1,c1,h1,h2,h3,h4⟩:=hp;exact⟨a1,c1,h1,h2,h3,((Am.refl _ f).drew).trans h4⟩
     generalize C3 (Ba ns (l.take k)).2 l[k]=y at *;have aE:Hid (El Q l[k].name (.slice j l[k].args.length c') f.drew):=a7.o;refine CR (S:=El Q l[k].name (.slice j l[k].args.length c')) (by kernel_rfl) aE.o λhH=>?_;refine tkz 0 ?_;refine tkz 2 ?_ (hy:=by intro w' aF;have e0:=aF.1;have e1:=aF.2;go_simp<;>with_reducible rfl);refine tkz 3 ?_;have aU:f.drew.cell? (zD (w.heap.size+2) 1)=some u9:=D.o.o.cell 1;refine Db (rs:=[1,4]) (by kernel_rfl) (by simp) ?_;refine Bf rfl (λK d=>?_) (Bf rfl (λK d=>?_) Dc)
     ·go_simp;refine d.o _ _ (by exact aE.o) λhH=>?_;clear d K;(try simp only[Act.put,sq]);refine rdq 4 rfl λK d=>?_;go_simp;go_at_call 91;refine aD.o.mono ?_;rintro e w5 ⟨a5,c5,rfl,E,F,G⟩;obtain⟨g,cap,w3,ab,H,I,J,z,U,A,of,ol,L,M⟩:=KZ (t:=y.1) (c5:=c5) C.o.1 C.o.2 D.o ⟨R.o.1,R.o.2⟩ a7.o aC.o G E F;have V:=Aa ab;have W:=Aa M;have Z:=Aa H;have N:=Aa I;have au:=Aa J;have av:=Aa L;have O5:=Aa (And.intro z (And.intro A (And.intro of ol)));clear ab M H I J L E F G;go_simp;refine d.o _ _ (by exact Z.o) λhH=>?_;clear d K;(try simp only[Act.put,sq]);refine rdq 5 rfl λK d=>?_;go_simp;refine d.o _ _ (by exact N.o) λhH=>?_;clear d K;(try simp only[Act.put,sq]);refine rdq 6 rfl λK d=>?_;refine Gh rfl _ _ _ _ rfl rfl rfl V.o ?_;refine d.o _ _ (by exact au.o) λhH=>?_;clear d K;(try simp only[Act.put,sq]);refine tkz 7 ?_;refine rdq 8 rfl λK d=>?_;go_simp;refine d.o _ _ (by exact av.o) λhH=>?_;clear d K;(try simp only[Act.put,sq]);refine dnq ?_;clear A of ol z U;go_wp2_with fail;go_roundw
      case rel=>exact⟨k+1,_,_,by omega,by go_num,by rw[a6.o]; exact W.o⟩
      case measure=>simp[intOf]; omega
     ·go_simp;go_at_call 91;refine aD.o.mono ?_;rintro e w5 ⟨a5,c5,rfl,E,F,G⟩;obtain⟨g,cap,w3,ab,H,I,J,z,U,A,of,ol,L,M⟩:=KZ (t:=y.1) (c5:=c5) C.o.1 C.o.2 D.o ⟨R.o.1,R.o.2⟩ a7.o aC.o G E F;have V:=Aa ab;have W:=Aa M;have Z:=Aa H;have N:=Aa I;have au:=Aa J;have av:=Aa L;have O5:=Aa (And.intro z (And.intro A (And.intro of ol)));clear ab M H I J L E F G;go_simp;refine d.o _ _ (by exact Z.o) λhH=>?_;clear d K;(try simp only[Act.put,sq]);refine Db (rs:=[1,5]) (by kernel_rfl) (by simp) ?_;refine Bf rfl (λK d=>?_) (Bf rfl (λK d=>?_) Dc)
      ·go_simp;refine d.o _ _ (by exact Z.o) λhH=>?_;clear d K;(try simp only[Act.put,sq]);refine rdq 5 rfl λK d=>?_;go_simp;refine d.o _ _ (by exact N.o) λhH=>?_;clear d K;(try simp only[Act.put,sq]);refine rdq 6 rfl λK d=>?_;refine Gh rfl _ _ _ _ rfl rfl rfl V.o ?_;refine d.o _ _ (by exact au.o) λhH=>?_;clear d K;(try simp only[Act.put,sq]);refine tkz 7 ?_;refine rdq 8 rfl λK d=>?_;go_simp;refine d.o _ _ (by exact av.o) λhH=>?_;clear d K;(try simp only[Act.put,sq]);refine dnq ?_;clear A of ol z U;go_wp2_with fail;go_roundw
       case rel=>exact⟨k+1,_,_,by omega,by go_num,by rw[a6.o]; exact W.o⟩
       case measure=>simp[intOf]; omega
      ·go_simp;refine d.o _ _ (by exact N.o) λhH=>?_;clear d K;(try simp only[Act.put,sq]);refine rdq 1 rfl λK d=>?_;go_simp;refine d.o _ _ (by exact N.o) λhH=>?_;clear d K;(try simp only[Act.put,sq]);refine rdq 6 rfl λK d=>?_;refine Gh rfl _ _ _ _ rfl rfl rfl V.o ?_;refine d.o _ _ (by exact au.o) λhH=>?_;clear d K;(try simp only[Act.put,sq]);refine tkz 7 ?_;refine rdq 8 rfl λK d=>?_;go_simp;refine d.o _ _ (by exact av.o) λhH=>?_;clear d K;(try simp only[Act.put,sq]);refine dnq ?_;clear A of ol z U;go_wp2_with fail;go_roundw
       case rel=>exact⟨k+1,_,_,by omega,by go_num,by rw[a6.o]; exact W.o⟩
       case measure=>simp[intOf]; omega
    ·have aV:¬((k:Int)<(l.length:Int)):=(by omega);have aR:l.take k=l:=AX (by omega);rw[aR]at aa;obtain⟨ae,ce,rfl,hse⟩:=aa.o.row.sl;have aS:=Aa hse;clear hse;have r0:=aa.o.res.c0;have r1:=aa.o.res.c1;have rf:=aa.o.res.frozen;have az:w.heap.size+1<wr.heap.size:=aa.o.res.lt;go_wp2_with fail;refine An (v:=.agg #[.string s,.slice ae (Ba ns l).1.length ce]) (by simp[results,results91,go_sem,Ay,Aw,r0,r1,az]) rfl ?_;rw[HR.o];have aW:=aa.o.sz;have aX:=C.o;refine⟨ae,ce,rfl,(aS.o.kept λb hb=>?_).mono λb hb _=>?_,⟨(aa.o.nm.box.setOther _ _ (by omega)).setOther _ _ (by omega),?_,aa.o.nm.ne⟩,(aa.o.ex.setNew (by omega) _ _).setNew (by omega) _ _⟩
     ·have aG:b≠w.heap.size+1:=by
       rcases hb with h|h
       ·exact h.elim
       ·omega
      rw[Aq _ _ _ _ (by simpa using aG),Aq _ _ _ _ (by simpa using aG)]
     ·rcases hb with h|h
      ·exact h.elim
      ·omega
     ·refine aa.o.nm.map.kept ?_;rw[Aq _ _ _ _ (by simp; omega),Aq _ _ _ _ (by simp; omega)]
def K8 (s:List Bd):Prop:=∀n x,As s n=some x->Al n=true
def La (l:List Tm):Prop:=∀k∈Ao l,Al k.name=true->k.args=[]
theorem La.cons {t:Tm} {r:List Tm} (h:La (t::r)):La [t]/\La r:=by
 have e:Ao (t::r)=Ao [t]++Ao r:=Pj [t] r;exact⟨λk hk=>h k (by rw[e]; simp[hk]),λk hk=>h k (by rw[e]; simp[hk])⟩
def Ww (w:World) (X:Nat->Prop) (l:List Bd) (n:ByteArray) (e:Ending) (w':World):Prop:=
 Below w.heap.size w w'/\((∃t a c,As l n=some t/\e=.returned (.tuple #[.agg (zF t a c),.bool true])/\Sl w' X a t.args)∨(As l n=none/\e=.returned (.tuple #[.agg #[.string ⟨#[]⟩,zB],.bool false])))
def Wx (l:List Bd) (n:ByteArray) (w0:World) (v:Value) (wr:World):Prop:=∃k:Nat,k<=l.length/\v=zA k/\As (l.take k) n=none/\wr=w0
theorem MN (l:List Bd) (n:ByteArray) (v:Value) (w:World) (g:Nat->Prop) (aa:BV w g v l):
  Calls prog 80 #[v,.string n] w λe w'=>Ww w (λb=>g b/\b<w.heap.size) l n e w':=by
 have y:=Aa (aa.mono (Y:=λb=>g b/\b<w.heap.size) λb h1 h2=>⟨h1,h2⟩);obtain⟨a,c,rfl,hl,hv⟩:=aa;clear hv;go_enter func80,ntmps80;go_wp2_with fail;have h:=Aa (Ac.new w #[.string ⟨#[]⟩,zB] 33);have i:=Aa ((Af w.heap.size w).alloc (Ai _) (.cells #[.string ⟨#[]⟩,zB] 33));have z:=Aa (y.o.alloc (.cells #[.string ⟨#[]⟩,zB] 33));generalize w.alloc (.cells #[.string ⟨#[]⟩,zB] 33)=A at *;go_loopw [6] (λv wr=>Wx l n A v wr) (λv wr=>l.length-(intOf v).toNat);case atStart=>exact⟨0,AG _,rfl,rfl,rfl⟩
 case round=>
  obtain⟨k,hk,rfl,ab,rfl⟩:=hrel;have j:=Aa ab;clear ab;have m:=h.o.c0;have q:=h.o.c1;have rf:=h.o.frozen;by_cases r:k<l.length
  ·obtain⟨b,o,s,c',rfl,d0,d1,d2,hs⟩:=z.o.get k r;have af:(k:Int)<(l.length:Int):=(by omega);have u:=Aa (Vb r j.o);have B:=Aa hs;clear hs;generalize l[k]=d at *;by_cases he:d.nm=n
   ·have heq:=Ia he;have f:=Aa (u.o.1 he);clear he;go_wp2_with fail;refine An (v:=.tuple #[.agg (zF d.t s c'),.bool true]) (by simp[results,results80,go_sem,Ay,Aw,m,q]) rfl ?_;refine⟨(i.o.setCell (by simp) _).setCell (by simp) _,Ad ⟨d.t,s,c',f.o,rfl,B.o.kept λb hb=>?_⟩⟩;rw[Aq _ _ _ _ (by simp; omega),Aq _ _ _ _ (by simp; omega)]
   ·have heq:=JG he;have f:=Aa (u.o.2 he);clear he;go_wp2_with fail;go_roundw
    case rel=>exact⟨k+1,by omega,by go_num,f.o,by trivial⟩
    case measure=>simp[intOf]; omega
  ·have x:l.take k=l:=AX (by omega);have f:=Aa j.o;rw[x]at f;clear x;go_wp2_with fail;refine An (v:=.tuple #[.agg #[.string ⟨#[]⟩,zB],.bool false]) (by simp[results,results80,go_sem,Ay,Aw,m,q]) rfl ?_;exact⟨(i.o.setCell (by simp) _).setCell (by simp) _,Ae ⟨f.o,rfl⟩⟩
open Go.ChangeMaps (setBlock)
def DE (w:World) (b r:Nat) (L rem:List (ByteArray×Value)):Prop:=
 ∃es clk since seen c0,w.heap[b]? = some (.map es clk)/\es.toList.map (λe=>(e.key,e.val))=L.map (λp=>(Value.string p.1,p.2))/\GL es clk/\
  w.heap[r]? = some (.mapIter (some b) since seen c0)/\(∀x∈es.toList,x.born<since)/\since<=c0/\since<=clk/\
  (leftOf es seen).toList.map (λe=>(e.key,e.val))=rem.map (λp=>(Value.string p.1,p.2))
def PE (w:World) (b r:Nat):Nat:=
 match w.heap[b]?,w.heap[r]? with
 |some (.map es _),some (.mapIter _ _ seen _)=>(leftOf es seen).size
 |_,_=>0
theorem DE.left {w:World} {b r:Nat} {L rem:List (ByteArray×Value)} (h:DE w b r L rem):PE w b r=rem.length:=by
 obtain⟨es,aa,since,seen,c0,hb,_,_,a,_,_,_,c⟩:=h;have:=Bx List.length c;simp only[Ea,Array.length_toList] at this;simp only[PE,hb,a];exact this
theorem DE.map {w:World} {b r:Nat} {L rem:List (ByteArray×Value)} (h:DE w b r L rem):Bm w b L:=by
 obtain⟨es,aa,since,seen,c0,hb,he,hs,_⟩:=h;exact⟨es,aa,hb,he,hs⟩
theorem DE.ne {w:World} {b r:Nat} {L rem:List (ByteArray×Value)} (h:DE w b r L rem):r≠b:=by
 obtain⟨es,aa,since,seen,c0,hb,he,hs,a,_⟩:=h;intro e;rw[e,hb]at a;cases a
theorem DE.lt {w:World} {b r:Nat} {L rem:List (ByteArray×Value)} (h:DE w b r L rem):r<w.heap.size:=by
 obtain⟨es,aa,since,seen,c0,hb,he,hs,a,_⟩:=h;exact(DV.1 a).1
theorem DE.kept {w w':World} {b r:Nat} {L rem:List (ByteArray×Value)} (h:DE w b r L rem) (aa:w'.heap[b]? = w.heap[b]?) (ab:w'.heap[r]? = w.heap[r]?):DE w' b r L rem:=by
 obtain⟨es,a,since,seen,c0,hb,he,hs,c,rest⟩:=h;exact⟨es,a,since,seen,c0,aa.trans hb,he,hs,ab.trans c,rest⟩
theorem DE.below {w w':World} {b r B:Nat} {L rem:List (ByteArray×Value)} (h:DE w b r L rem) (hb:Below B w w') (h1:b<B) (h2:r<B):DE w' b r L rem:=h.kept (hb.block b h1) (hb.block r h2)
theorem Bm.range {P:Program} {w:World} {T a c:TypeId} {b:Nat} {L:List (ByteArray×Value)} (h:Bm w b L) (hm:P.underlying T=some (.map a c)):
  ∃o,(Instr.range T (.map (some b))).run P w=.ok (zC w.heap.size) (w.alloc o)/\DE (w.alloc o) b w.heap.size L L:=by
 have d:=h.lt;obtain⟨es,aa,hb,he,hs⟩:=h;refine⟨_,run_range_map w T a c b es aa hm hb,es,aa,aa,#[],aa,(AL _ _ _ d).trans hb,he,hs,Et w _,hs.1,Ai _,Ai _,?_⟩;rw[<-he];congr 1
 simp[leftOf]
theorem Wy {l:List MapEntry} {L:List (ByteArray×Value)} (h:l.map (λe=>(e.key,e.val))=L.map (λp=>(Value.string p.1,p.2))) {e:MapEntry} (he:e∈l):∃p∈L,e.key=.string p.1/\e.val=p.2:=by
 have:(e.key,e.val)∈L.map (λp=>(Value.string p.1,p.2)):=by rw[<-h]; exact Ce.2 ⟨e,he,rfl⟩
 obtain⟨p,hp,a⟩:=Ce.1 this;simp only[Prod.mk.injEq] at a;exact⟨p,hp,a.1.symm,a.2.symm⟩
theorem MO (seen:Array Nat) (e:MapEntry):∀(l:List MapEntry) (R:List (ByteArray×Value)),(l.map (·.born)).Nodup->e∈l->seen.contains e.born=false->(l.filter λx=>!seen.contains x.born).map (λe=>(e.key,e.val))=R.map (λp=>(Value.string p.1,p.2))->
  ∃p c,e.key=.string p.1/\e.val=p.2/\R.Perm (p::c)/\(l.filter λx=>!(seen.push e.born).contains x.born).map (λe=>(e.key,e.val))=c.map (λp=>(Value.string p.1,p.2))
 | [],R,_,he,_,_=>by cases he
 |a::l,R,hn,he,hs,b=>by
  simp only[Cb,List.nodup_cons] at hn;obtain⟨g,i⟩:=hn;by_cases d:a.born=e.born
  ·have k:e=a:=by
    rcases Bq.1 he with h|h
    ·exact h
    ·exact absurd (Ce.2 ⟨e,h,d.symm⟩) g
   subst k;have m:(!seen.contains e.born)=true:=by rw[hs]; rfl
   rw[Gb (by simpa using m)]at b;match R,b with
   |p::c,b=>
    simp only[Cb,GC,Prod.mk.injEq] at b;refine⟨p,c,b.1.1,b.1.2,Kj _,?_⟩;rw[GD (by simp),<-b.2];congr 1
    refine List.filter_congr λx hx=>?_;have n:x.born≠e.born:=λh=>g (Ce.2 ⟨x,hx,h⟩);simp[n]
  ·have j:e∈l:=by
    rcases Bq.1 he with h|h
    ·exact absurd (by rw[h]) d
    ·exact h
   by_cases ab:seen.contains a.born=true
   ·rw[GD (by simpa using ab)]at b;obtain⟨p,c,h1,h2,h3,f⟩:=MO seen e l R i j hs b;refine⟨p,c,h1,h2,h3,?_⟩;rw[GD (by simp at ab ⊢; exact λh=>absurd ab h),f]
   ·have aa:seen.contains a.born=false:=(by simpa using ab);rw[Gb (by simpa using aa)]at b;match R,b with
    |q::o,b=>simp only[Cb,GC] at b;obtain⟨p,c,h1,h2,h3,f⟩:=MO seen e l o i j hs b.2;refine⟨p,q::c,h1,h2,(List.Perm.cons q h3).trans (List.Perm.swap p q c),?_⟩;rw[Gb (by simp at aa ⊢; exact⟨aa,d⟩),Cb,Cb,f,b.1]
theorem DE.next {P:Program} {w:World} {b r:Nat} {L rem:List (ByteArray×Value)} (h:DE w b r L rem) (ty:TypeId):
  (rem=[]/\(Instr.next (zC r) false ty).run P w=.ok (.tuple #[.bool false]) w)∨
  ∃p aa w',rem.Perm (p::aa)/\(Instr.next (zC r) false ty).run P w=.ok (.tuple #[.bool true,.string p.1,p.2]) w'/\DE w' b r L aa/\
   w'.heap.size=w.heap.size/\w'.os=w.os/\w'.tape=w.tape/\w'.output=w.output/\(∀j,j≠r->w'.heap[j]? = w.heap[j]?)/\(Instr.entry (zC r)).run P w'=.ok (.tuple #[.string p.1,p.2]) w':=by
 have m:=h.ne;obtain⟨es,a,since,seen,c0,hb,he,hs,f,hold,n,g,i⟩:=h;rcases run_next_at (P:=P) w ty r b since c0 seen es a f hb hold n with ⟨h0,ab⟩|⟨e,o,w1,c,ab⟩
 ·refine Ad ⟨?_,ab⟩;have:=Bx List.length i;simp only[Ea,Array.length_toList,h0] at this;exact EK.1 this.symm
 ·obtain⟨k,q⟩:=mem_left o;have s:(es.toList.filter λx=>!seen.contains x.born).map (λe=>(e.key,e.val))=rem.map (λp=>(Value.string p.1,p.2)):=by
   rw[<-i]; unfold leftOf; rw[Array.toList_filter]
  obtain⟨p,aa,hk,hv,t,u⟩:=MO seen e es.toList rem hs.2 k q s;have v:w1.heap[r]? = some (.mapIter (some b) since seen c0):=by rcases c with rfl|rfl<;>exact f
  have y:w1.heap[b]? = some (.map es a):=by rcases c with rfl|rfl<;>exact hb
  have d:=IB (o':=.mapIter (some b) since (seen.push e.born) a) v;have l:(setBlock w1 r (.mapIter (some b) since (seen.push e.born) a)).heap[b]? = some (.map es a):=(d.2 b (λz=>m z.symm)).trans y;rw[hk,hv]at ab;refine Ae ⟨p,aa,_,t,ab,⟨es,a,since,seen.push e.born,a,l,he,hs,d.1,hold,g,g,?_⟩,?_,?_,?_,?_,?_,?_⟩
  ·rw[<-u]; unfold leftOf; rw[Array.toList_filter]
  ·rcases c with rfl|rfl<;>simp[setBlock]
  ·rcases c with rfl|rfl<;>rfl
  ·rcases c with rfl|rfl<;>rfl
  ·rcases c with rfl|rfl<;>rfl
  ·intro j hj;have:=d.2 j hj;rcases c with rfl|rfl<;>exact this
  ·have:=run_entry_at (P:=P) _ r b since seen es a e d.1 l k hs.2;rw[hk,hv]at this;exact this
def Ik:List (ByteArray×Value)->ByteArray->List (ByteArray×Value)
 | [],_=>[]
 |p::r,n=>if p.1=n then r else p::Ik r n
theorem PF (n:ByteArray) (q:MapEntry->Bool):∀(l:List MapEntry) (L:List (ByteArray×Value)) (i:Nat),l.map (λe=>(e.key,e.val))=L.map (λp=>(Value.string p.1,p.2))->(∀e∈l,e.key=.string n->q e=false)->
  (Be L n=none->Ik L n=L)/\(∀v,Be L n=some v->∃j,Instr.findNow .string (.string n) l i=some (some (i+j,v))/\j<l.length/\(l.eraseIdx j).map (λe=>(e.key,e.val))=(Ik L n).map (λp=>(Value.string p.1,p.2))/\(l.eraseIdx j).filter q=l.filter q)
 | [],[],i,h,_=>⟨λ_=>rfl,λv hv=>by simp[Be] at hv⟩
 | [],p::L,i,h,_=>by simp at h
 |e::l,[],i,h,_=>by simp at h
 |e::l,p::L,i,h,hq=>by
  simp only[Cb,GC,Prod.mk.injEq] at h;obtain⟨⟨hk,he⟩,ht⟩:=h;obtain⟨ab,b⟩:=PF n q l L (i+1) ht λe he=>hq e (by simp[he]);by_cases hn:p.1=n
  ·have hs:Instr.sameNow .string (.string n) e.key=some true:=(by rw[hk,hn];show some (n==n)=some true;rw[show(n==n)=true from (Kk _ _).2 rfl]);refine⟨λh=>by simp[Be,hn] at h,λv hv=>?_⟩;simp only[Be,hn,if_true,H7] at hv;refine⟨0,by simp[Instr.findNow,hs,he,hv],by simp,?_,?_⟩
   ·simp[Ik,hn,ht]
   ·rw[List.eraseIdx_cons_zero,GD (by rw[hq e (by simp) (by rw[hk,hn])]; simp)]
  ·have hs:Instr.sameNow .string (.string n) e.key=some false:=by
    rw[hk];show some (n==p.1)=some false;have hb:(n==p.1)=false:=by
     cases c:(n==p.1) with
     |false=>rfl
     |true=>exact absurd ((Kk _ _).1 c).symm hn
    rw[hb]
   refine⟨λh=>?_,λv hv=>?_⟩
   ·rw[Be,Aj hn]at h;rw[Ik,Aj hn,ab h]
   ·rw[Be,Aj hn]at hv;obtain⟨j,h1,h2,h3,a⟩:=b v hv;refine⟨j+1,by simp[Instr.findNow,hs,h1]; omega,by simpa using h2,?_,?_⟩
    ·rw[Ik,Aj hn]; simp[h3,hk,he]
    ·rw[List.eraseIdx_cons_succ];cases aa:q e with
     |true=>rw[Gb aa,Gb aa,a]
     |false=>rw[GD (by simp[aa]),GD (by simp[aa]),a]
theorem DE.drop {P:Program} {w:World} {T a f ty:TypeId} {b r:Nat} {L rem:List (ByteArray×Value)} (h:DE w b r L rem) (hm:P.underlying T=some (.map a f)) (hk:P.underlying a=some .string) (n:ByteArray) (g:∀p∈rem,p.1≠n) (v:Value) (hv:Be L n=some v):
  ∃w',(Builtin.delete_ #[T,a] ty #[.map (some b),.string n]).run P w=.ok (.tuple #[]) w'/\DE w' b r (Ik L n) rem/\w'.heap.size=w.heap.size/\w'.os=w.os/\w'.tape=w.tape/\w'.output=w.output/\(∀j,j≠b->w'.heap[j]? = w.heap[j]?):=by
 have l:=h.ne;obtain⟨es,c,since,seen,c0,hb,he,hs,m,hold,o,q,s⟩:=h;have d:(es.toList.filter λx=>!seen.contains x.born).map (λe=>(e.key,e.val))=rem.map (λp=>(Value.string p.1,p.2)):=(by rw[<-s]; unfold leftOf; rw[Array.toList_filter]);have hq:∀e∈es.toList,e.key=.string n->(!seen.contains e.born)=false:=λe t u=>by
  cases hc:seen.contains e.born with
  |true=>rfl
  |false=>obtain⟨p,hp,h1,_⟩:=Wy d (List.mem_filter.2 ⟨t,by rw[hc]; rfl⟩);rw[u]at h1;exact absurd (Value.string.inj h1).symm (g p hp)
 obtain⟨j,h1,h2,h3,y⟩:=(PF n (λx=>!seen.contains x.born) es.toList L 0 he hq).2 v hv;rw[EL]at h1;have hc:∀b,(Instr.checkKey b 10000 a (.string n)).run P w=.ok () w:=λb=>Kl (k:=.string n) hk (by simp[MapKept.IsKey]) b 9999;have aa:(es.eraseIdxIfInBounds j).toList=es.toList.eraseIdx j:=by
  unfold Array.eraseIdxIfInBounds;rw[D7 (by simpa using h2)];simp
 have ab:∀x∈(es.eraseIdxIfInBounds j).toList,x∈es.toList:=λx hx=>by rw[aa] at hx; exact(List.eraseIdx_sublist _ _).subset hx
 refine⟨setBlock w b (.map (es.eraseIdxIfInBounds j) c),?_,⟨es.eraseIdxIfInBounds j,c,since,seen,c0,(IB hb).1,by rw[aa]; exact h3,⟨λx hx=>hs.1 x (ab x hx),?_⟩,((IB hb).2 r l).trans m,λx hx=>hold x (ab x hx),o,q,?_⟩,by simp[setBlock],rfl,rfl,rfl,λi hi=>(IB hb).2 i hi⟩
 ·simp[Builtin.delete_,Ga hm,H8 hb,hc,IA hk h1,MapKept.run_setObj_map _ hb,Result.andThen,setBlock]
 ·rw[aa];exact hs.2.sublist ((List.eraseIdx_sublist _ _).map _)
 ·unfold leftOf;rw[Array.toList_filter,aa,y];exact d
theorem Tryz.infoBind:(prog.info? 90).map (λi=>(i.zero,i.size,i.bytes))=some (some (.agg #[.string ByteArray.empty,.string ByteArray.empty,zB]),3,56):=by kernel_rfl
theorem IY (w:World) (c0 c1 c2:Value) (T:Nat):∀j u,[c0,c1,c2][j]? = some u->(w.alloc (.cells #[c0,c1,c2] T)).cell? (((zD w.heap.size 0):Addr).add j)=some u:=
 World.news_of_block (cs:=#[c0,c1,c2]) (Et w _)
theorem MP {w w1:World} {N:Nat} {Y:Nat->Prop} {v:Value} {cs:List Bc} (h:Bj w N Y v cs) (c:N<=w.heap.size) (d:∀b,Y b->b<N) (hb:Below w.heap.size w w1) (x:Bc) (ht:Sl w1 (λb=>Y b∨w.heap.size<=b) x.2.1 x.1.t.args) (hn:cs.length<=1000000) (A:Nat) (e:w1.heap.size=A):
  ∃v2 w3,(Builtin.append_ #[71,71] 71 #[v,.slice (some (zD A 0)) 1 1]).run prog (w1.alloc (.cells #[.string x.1.nm,.string x.1.t.name,.slice x.2.1 x.1.t.args.length x.2.2] 90))=.ok v2 w3/\Bj w3 N Y v2 (cs++[x])/\
   (w1.alloc (.cells #[.string x.1.nm,.string x.1.t.name,.slice x.2.1 x.1.t.args.length x.2.2] 90)).grownBy w3 v.ownBlock:=by
 subst e;obtain⟨i0,hi,aa,ab,f⟩:=CE Tryz.infoBind;have hs:=hb.size;obtain⟨g,cap,w3,i,ho,a,j,hlt⟩:=run_append_lies (P:=prog) (w:=w1.alloc (.cells #[.string x.1.nm,.string x.1.t.name,.slice x.2.1 x.1.t.args.length x.2.2] 90)) 71 71 N 90 i0 _ 3 56 underlying71 hi aa ab f rfl (by decide) v cs.length (Dg cs) ((h.below hb).own.alloc _)
  (zD w1.heap.size 0) 1 1 (Dt x) rfl (IY _ _ _ _ _) (λy hy=>by simp[Dt] at hy; rcases hy with rfl|rfl|rfl<;>rfl) (by decide) (by unfold maxLen; omega) (by omega) (by simp; omega) _ rfl
 exact⟨_,w3,i,h.push c d hb ht _ rfl ho a j,a⟩
