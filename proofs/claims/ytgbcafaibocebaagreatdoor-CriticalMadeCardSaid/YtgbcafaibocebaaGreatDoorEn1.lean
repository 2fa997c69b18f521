import Derived.Test.YtgbcafaibocebaaGreatDoorW165a
namespace Go.Proofs.YtgbcafaibocebaaGreatDoor
set_option linter.all false
set_option maxRecDepth 20000
set_option maxHeartbeats 8000000
open Go.RowKit
def Dq (rs:List Pr) (x:Tm):Option Tm:=rs.findSome? λr=>Dh r x
theorem Lf {rs:List Pr} {x:Tm}:Dq rs x=none↔DF rs x=false:=by
 unfold Dq DF;rw[List.findSome?_eq_none_iff,List.any_eq_false];constructor
 ·intro h r a;have:=h r a;unfold Dh at this;unfold FQ;cases hm:A7 r.l x [] with
  |none=>simp
  |some g=>rw[hm] at this; cases this
 ·intro h r a;have:=h r a;unfold FQ at this;unfold Dh;cases hm:A7 r.l x [] with
  |none=>rfl
  |some g=>rw[hm] at this; simp at this
def Dr (rs:List Pr) (inner:Bool) (t:Tm):Option Tm:=(DY rs inner t).bind λp=>(AV t p).bind λx=>(Dq rs x).map λy=>AP y p t
def BN (rs:List Pr) (inner:Bool):Nat->Tm->Int×Tm×Nat
 |0,t=>match Dr rs inner t with
  |none=>(0,t,0)
  |some _=>(9,⟨⟨#[]⟩,[]⟩,0)
 |m+1,t=>match Dr rs inner t with
  |none=>(0,t,0)
  |some t'=>if 2000<Ab [t'] then (8,⟨⟨#[]⟩,[]⟩,0) else
   match BN rs inner m t' with
   | (e,x,n)=>if e=0 then (0,x,n+1) else (e,⟨⟨#[]⟩,[]⟩,0)
theorem M5 {rs:List Pr} {inner:Bool} {m:Nat} {t:Tm} (h:Dr rs inner t=none):BN rs inner m t=(0,t,0):=by
 cases m<;>simp[BN,h]
theorem M6 {rs:List Pr} {inner:Bool} {t a:Tm} (h:Dr rs inner t=some a):BN rs inner 0 t=(9,⟨⟨#[]⟩,[]⟩,0):=by simp[BN,h]
theorem Lg {rs:List Pr} {inner:Bool} {m:Nat} {t a:Tm} (h:Dr rs inner t=some a) (hz:2000<Ab [a]):BN rs inner (m+1) t=(8,⟨⟨#[]⟩,[]⟩,0):=by
 rw[BN,h];simp only;rw[Ar hz]
def Ee (k:Nat) (r:Int×Tm×Nat):Int×Tm×Nat:=if r.1=0 then (0,r.2.1,r.2.2+k) else (r.1,⟨⟨#[]⟩,[]⟩,0)
theorem M7 {rs:List Pr} {inner:Bool} {m:Nat} {t a:Tm} (h:Dr rs inner t=some a) (hz:Ab [a]<=2000):BN rs inner (m+1) t=Ee 1 (BN rs inner m a):=by
 rw[BN,h];simp only;rw[Aj (by omega)];rfl
theorem Lh (rs:List Pr) (inner:Bool):∀(m:Nat) (t:Tm),(BN rs inner m t).1=0∨BN rs inner m t=(9,⟨⟨#[]⟩,[]⟩,0)∨BN rs inner m t=(8,⟨⟨#[]⟩,[]⟩,0)
 |m,t=>by
  cases h:Dr rs inner t with
  |none=>rw[M5 h]; exact Ad rfl
  |some a=>
   cases m with
   |zero=>rw[M6 h]; exact Ae (Ad rfl)
   |succ m=>
    by_cases hz:2000<Ab [a]
    ·rw[Lg h hz]; exact Ae (Ae rfl)
    ·rw[M7 h (by omega)];rcases Lh rs inner m a with h1|h1|h1
     ·unfold Ee; rw[Ar h1]; exact Ad rfl
     ·rw[h1]; exact Ae (Ad rfl)
     ·rw[h1]; exact Ae (Ae rfl)
theorem M8 {r:Int×Tm×Nat} (h:r.1=0∨r=(9,⟨⟨#[]⟩,[]⟩,0)∨r=(8,⟨⟨#[]⟩,[]⟩,0)):Ee 0 r=r:=by
 unfold Ee;rcases h with h|h|h
 ·rw[Ar h]; obtain⟨e,x,n⟩:=r; simp at h; subst h; rfl
 ·subst h; rfl
 ·subst h; rfl
theorem M9 (a b:Nat) (r:Int×Tm×Nat):Ee a (Ee b r)=Ee (b+a) r:=by
 unfold Ee;by_cases h:r.1=0
 ·simp[h,Jy]
 ·simp[h]
theorem I4 (k:Nat) (e:Int) (h:e≠0):Ee k (e,⟨⟨#[]⟩,[]⟩,0)=(e,⟨⟨#[]⟩,[]⟩,0):=by
 unfold Ee;rw[Aj h]
def Fx (rs:List Pr) (inner:Bool):Nat->List Tm->Option (List Int)
 |_,[]=>none
 |j,t::r=>match DY rs inner t with
  |some p=>some ((j:Int)::p)
  |none=>Fx rs inner (j+1) r
theorem QF {s:ByteArray} {pre l:List Tm} {t:Tm} {p:List Int}:AV ⟨s,pre++t::l⟩ ((pre.length:Int)::p)=AV t p:=by
 rw[AV];have h:0<=(pre.length:Int)/\((pre.length:Int)).toNat<(pre++t::l).length:=by simp
 rw[D7 h];simp
theorem Yh {rs:List Pr} {inner:Bool} {s:ByteArray} {pre l:List Tm} {t:Tm} {p:List Int}:Em rs inner ⟨s,pre++t::l⟩ ((pre.length:Int)::p)=Em rs inner t p:=by
 unfold Em;rw[QF]
theorem QG {f:List Int->Bool} {g:List Int->List Int}:∀(l:List (List Int)),(l.map g).find? f=(l.find? (λp=>f (g p))).map g
 | []=>rfl
 |p::l=>by
  rw[Cb,Ko,Ko];cases f (g p) with
  |true=>rfl
  |false=>exact QG l
theorem QH {rs:List Pr} {inner:Bool} {s:ByteArray}:∀(l pre:List Tm),(Cd pre.length l).find? (Em rs inner ⟨s,pre++l⟩)=Fx rs inner pre.length l
 | [],pre=>by simp[Cd,Fx]
 |t::r,pre=>by
  rw[IW,List.find?_append,QG];have b:(λp=>Em rs inner ⟨s,pre++t::r⟩ ((pre.length:Int)::p))=Em rs inner t:=funext λp=>Yh;rw[b];have a:=QH (rs:=rs) (inner:=inner) (s:=s) r (pre++[t]);rw[Dx]at a;simp only[ID,Gz,List.singleton_append] at a;rw[a];unfold DY at *;rw[Fx];unfold DY;cases (Bs t).find? (Em rs inner t) with
  |none=>rfl
  |some p=>rfl
theorem Na (rs:List Pr) (inner:Bool) (t:Tm):DY rs inner t=if Du rs inner t=true then some [] else Fx rs inner 0 t.args:=by
 obtain⟨s,l⟩:=t;have e:=QH (rs:=rs) (inner:=inner) (s:=s) l [];simp only[E4,D9] at e;unfold DY Bs;rw[Ko];have a:Em rs inner ⟨s,l⟩ []=Du rs inner ⟨s,l⟩:=by simp[Em,AV]
 rw[a,e];cases Du rs inner ⟨s,l⟩<;>rfl
def DG (rs:List Pr) (l:List Tm):Prop:=∀y∈Ao l,DF rs y=false
theorem I5 (t:Tm) (r:List Tm):Ao (t::r)=t::(Ao t.args++Ao r):=by
 obtain⟨s,l⟩:=t;simp[Ao]
theorem QI {rs:List Pr} {t:Tm} {r:List Tm}:DG rs (t::r)↔DF rs t=false/\DG rs t.args/\DG rs r:=by
 unfold DG;rw[I5];constructor
 ·intro h;exact⟨h _ (by simp),λy hy=>h y (by simp[hy]),λy hy=>h y (by simp[hy])⟩
 ·rintro⟨h1,h2,h3⟩ y hy;simp only[Bq,Bg] at hy;rcases hy with rfl|hy|hy
  ·exact h1
  ·exact h2 y hy
  ·exact h3 y hy
theorem I6 {rs:List Pr} {t:Tm}:DG rs [t]↔DF rs t=false/\DG rs t.args:=by
 rw[QI];constructor
 ·rintro⟨h1,h2,_⟩; exact⟨h1,h2⟩
 ·rintro⟨h1,h2⟩; exact⟨h1,h2,λy hy=>by simp[Ao] at hy⟩
theorem Im {rs:List Pr} {l:List Tm}:DG rs l↔∀t∈l,DG rs [t]:=by
 induction l with
 |nil=>simp[DG,Ao]
 |cons t r a=>
  rw[QI,a];constructor
  ·rintro⟨h1,h2,h3⟩ x hx;rcases Bq.1 hx with rfl|hx
   ·exact I6.2 ⟨h1,h2⟩
   ·exact h3 x hx
  ·intro h;have h0:=I6.1 (h t (by simp));exact⟨h0.1,h0.2,λx hx=>h x (by simp[hx])⟩
theorem QJ {rs:List Pr} {inner:Bool}:∀(l:List Tm) (j:Nat),Fx rs inner j l=none↔∀t∈l,DY rs inner t=none
 | [],j=>by simp[Fx]
 |t::r,j=>by
  rw[Fx];cases h:DY rs inner t with
  |some p=>simp[h]
  |none=>simp[h,QJ r (j+1)]
theorem Li (rs:List Pr) (inner:Bool) (t:Tm):DY rs inner t=none↔DG rs [t]:=by
 refine Tm.ind (P:=λt=>DY rs inner t=none↔DG rs [t]) (λs l a=>?_) t;have b:Fx rs inner 0 l=none↔DG rs l:=by
  rw[QJ,Im];exact⟨λh t ht=>(a t ht).1 (h t ht),λh t ht=>(a t ht).2 (h t ht)⟩
 rw[Na,I6];simp only;have aa:DG rs l->Du rs inner ⟨s,l⟩=DF rs ⟨s,l⟩:=λhn=>by
  unfold Du;have e:(((Ao [(⟨s,l⟩:Tm)]).drop 1).all λy=>!DF rs y)=true:=by
   rw[I5];simp only[L8,JD,Hx,Bg];rintro y (hy|hy)
   ·rw[hn y hy]; rfl
   ·simp[Ao]at hy
  rw[e];simp
 constructor
 ·intro h;by_cases h1:Du rs inner ⟨s,l⟩=true
  ·rw[Ar h1]at h; cases h
  ·rw[Aj h1]at h;have h2:=b.1 h;rw[aa h2]at h1;exact⟨by simpa using h1,h2⟩
 ·rintro⟨h1,h2⟩;rw[Aj (by rw[aa h2,h1]; simp)];exact b.2 h2
theorem Yi {rs:List Pr} {inner:Bool} {t:Tm} {p:List Int} (h:DY rs inner t=some p):∃x,AV t p=some x/\Du rs inner x=true:=by
 have h1:=List.find?_some h;unfold Em at h1;cases hx:AV t p with
 |none=>rw[hx] at h1; cases h1
 |some x=>rw[hx] at h1; exact⟨x,rfl,h1⟩
theorem Yj {rs:List Pr} {inner:Bool} {x:Tm} (h:Du rs inner x=true):DF rs x=true:=by
 unfold Du at h;rw[G5]at h;exact h.1
theorem Nb {rs:List Pr} {inner:Bool} {t:Tm} {p:List Int} (h:DY rs inner t=some p):∃x y,AV t p=some x/\Dq rs x=some y/\Dr rs inner t=some (AP y p t):=by
 obtain⟨x,hx,aa⟩:=Yi h;cases a:Dq rs x with
 |none=>rw[Lf,Yj aa] at a; cases a
 |some y=>exact⟨x,y,hx,a,by unfold Dr; rw[h]; simp[hx,a]⟩
theorem Nc (rs:List Pr) (inner:Bool) (t:Tm):Dr rs inner t=none↔DG rs [t]:=by
 rw[<-Li rs inner];constructor
 ·intro h;cases hp:DY rs inner t with
  |none=>rfl
  |some p=>obtain⟨x,y,_,_,h2⟩:=Nb hp; rw[h2] at h; cases h
 ·intro h; unfold Dr; rw[h]; rfl
theorem QK {rs:List Pr} {inner:Bool} {a:Tm} {post:List Tm} {p:List Int} (b:DY rs inner a=some p):∀(pre:List Tm) (j:Nat),DG rs pre->Fx rs inner j (pre++a::post)=some (((j+pre.length:Nat):Int)::p)
 | [],j,_=>by simp[Fx,b]
 |t::r,j,h=>by
  have h1:=Im.1 h;rw[Cj,Fx,(Li rs inner t).2 (h1 t (by simp))];simp only;rw[QK b r (j+1) (Im.2 λx hx=>h1 x (by simp[hx]))];simp[Jy,Nat.add_comm 1]
theorem Yk {s:ByteArray} {pre post:List Tm} {a y:Tm} {p:List Int}:AP y ((pre.length:Int)::p) ⟨s,pre++a::post⟩=⟨s,pre++AP y p a::post⟩:=by
 rw[AP];congr 1
 have key:∀(pre:List Tm) (j:Nat),BR (AP y p) ((j+pre.length:Nat):Int) j (pre++a::post)=pre++AP y p a::post:=by
  intro pre;induction pre with
  |nil=>intro j;simp only[D9,E4,F9];rw[BR];rw[Ar rfl,MJ _ _ _ _ (by omega)]
  |cons t r b=>
   intro j;rw[Cj,BR,Aj (by simp; omega),Cj];congr 1
   have:=b (j+1);rw[show j+1+r.length=j+(t::r).length by simp; omega]at this;exact this
 have:=key pre 0;rw[EL]at this;exact this
theorem Yl {rs:List Pr} {s:ByteArray} {pre post:List Tm} {a b:Tm} (ab:DG rs pre) (h:Dr rs true a=some b):Dr rs true ⟨s,pre++a::post⟩=some ⟨s,pre++b::post⟩:=by
 cases hp:DY rs true a with
 |none=>unfold Dr at h; rw[hp] at h; cases h
 |some p=>
  obtain⟨x,y,hx,c,h2⟩:=Nb hp;rw[h2]at h;cases h;have d:Du rs true ⟨s,pre++a::post⟩=false:=by
   unfold Du;rw[Bool.and_eq_false_iff];right;simp only[Bool.not_true,Bool.false_or];rw[Jw];intro aa;rw[Hx]at aa;have h3:DG rs [a]:=λz hz=>by
    have:=aa z (by
     rw[I5];simp only[L8,JD,Bg];left;rw[IL];rw[I5];rw[I5]at hz;simp only[Bg,Bq] at hz ⊢;rcases hz with rfl|hz|hz
     ·exact Ae (Ad rfl)
     ·exact Ae (Ae (Ad hz))
     ·simp[Ao]at hz)
    simpa using this
   rw[(Li rs true a).2 h3]at hp;cases hp
  have hn:DY rs true ⟨s,pre++a::post⟩=some ((pre.length:Int)::p):=(by rw[Na,Aj (by rw[d]; simp)];simp only;rw[QK hp pre 0 ab,EL]);unfold Dr;rw[hn];simp only[Option.bind_some];rw[QF,hx];simp only[Option.bind_some];rw[c];simp only[Option.map_some];rw[Yk]
theorem Ym {rs:List Pr} {s:ByteArray} {l:List Tm} (b:DG rs l):Dr rs true ⟨s,l⟩=Dq rs ⟨s,l⟩:=by
 cases a:Dq rs ⟨s,l⟩ with
 |none=>rw[Nc,I6];exact⟨Lf.1 a,b⟩
 |some y=>
  have aa:DF rs ⟨s,l⟩=true:=by
   cases h:DF rs ⟨s,l⟩ with
   |true=>rfl
   |false=>rw[Lf.2 h] at a; cases a
  have ab:Du rs true ⟨s,l⟩=true:=by
   unfold Du;rw[aa];simp only[Bool.not_true,Bool.false_or,Bool.true_and];rw[Hx,I5];simp only[L8,JD,Bg];rintro z (hz|hz)
   ·rw[b z hz]; rfl
   ·simp[Ao]at hz
  unfold Dr;rw[Na,Ar ab];simp[AV,a,AP]
def Fy (rs:List Pr) (C:Tm->Tm) (k:Nat):Prop:=(∀a a',Dr rs true a=some a'->Dr rs true (C a)=some (C a'))/\∀a,Ab [C a]=Ab [a]+k
theorem Fy.id (rs:List Pr):Fy rs (λa=>a) 0:=⟨λ_ _ h=>h,λ_=>rfl⟩
theorem Fy.kid {rs:List Pr} {C:Tm->Tm} {k:Nat} (h:Fy rs C k) {s:ByteArray} {pre post:List Tm} (aa:DG rs pre):Fy rs (λa=>C ⟨s,pre++a::post⟩) (1+Ab pre+Ab post+k):=by
 refine⟨λa a' b=>h.1 _ _ (Yl aa b),λa=>?_⟩;show Ab [C ⟨s,pre++a::post⟩]=_;rw[h.2];have e:Ab (pre++a::post)=Ab pre+(Ab [a]+Ab post):=by
  rw[Eb];have:=Eb [a] post;rw[<-this]; rfl
 have:Ab [(⟨s,pre++a::post⟩:Tm)]=1+Ab (pre++a::post):=by simp[Ab]
 omega
