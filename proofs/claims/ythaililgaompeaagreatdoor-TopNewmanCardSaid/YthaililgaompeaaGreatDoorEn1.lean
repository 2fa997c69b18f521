import Derived.Test.YthaililgaompeaaGreatDoorW165a
namespace Go.Proofs.YthaililgaompeaaGreatDoor
set_option linter.all false
set_option maxRecDepth 20000
set_option maxHeartbeats 8000000
open Go.RowKit
variable {rs:List Pr} {a t t' x:Tm} {inner:Bool} {m:Nat} {s:ByteArray} {l post pre:List Tm} {p:List Int}
def Fc (rs:List Pr) (x:Tm):Option Tm:=rs.findSome? λr=>FG r x
theorem MN:Fc rs x=none↔DE rs x=false:=by
 unfold Fc DE;rw[List.findSome?_eq_none_iff,List.any_eq_false];constructor
 ·intro h r a;have:=h r a;unfold FG at this;unfold I4;cases hm:AX r.l x [] with
  |none=>simp
  |some g=>rw[hm] at this; cases this
 ·intro h r a;have:=h r a;unfold I4 at this;unfold FG;cases hm:AX r.l x [] with
  |none=>rfl
  |some g=>rw[hm] at this; simp at this
def Cu (rs:List Pr) (inner:Bool) (t:Tm):Option Tm:=(De rs inner t).bind λp=>(AA t p).bind λx=>(Fc rs x).map λy=>AJ y p t
def AL (rs:List Pr) (inner:Bool):Nat->Tm->Int×Tm×Nat
 |0,t=>match Cu rs inner t with
  |none=>(0,t,0)
  |some _=>(9,⟨⟨#[]⟩,[]⟩,0)
 |m+1,t=>match Cu rs inner t with
  |none=>(0,t,0)
  |some t'=>if 2000<Ab [t'] then (8,⟨⟨#[]⟩,[]⟩,0) else
   match AL rs inner m t' with
   | (e,x,n)=>if e=0 then (0,x,n+1) else (e,⟨⟨#[]⟩,[]⟩,0)
theorem I5 (h:Cu rs inner t=none):AL rs inner m t=(0,t,0):=by
 cases m<;>simp[AL,h]
theorem Lk (h:Cu rs inner t=some t'):AL rs inner 0 t=(9,⟨⟨#[]⟩,[]⟩,0):=by simp[AL,h]
theorem Ll (h:Cu rs inner t=some t') (hz:2000<Ab [t']):AL rs inner (m+1) t=(8,⟨⟨#[]⟩,[]⟩,0):=by
 rw[AL,h];simp only;rw[Ao hz]
def DW (k:Nat) (r:Int×Tm×Nat):Int×Tm×Nat:=if r.1=0 then (0,r.2.1,r.2.2+k) else (r.1,⟨⟨#[]⟩,[]⟩,0)
theorem Ln (h:Cu rs inner t=some t') (hz:Ab [t']<=2000):AL rs inner (m+1) t=DW 1 (AL rs inner m t'):=by
 rw[AL,h];simp only;rw[Ah (by omega)];rfl
theorem JW (rs:List Pr) (inner:Bool):∀(m:Nat) (t:Tm),(AL rs inner m t).1=0∨AL rs inner m t=(9,⟨⟨#[]⟩,[]⟩,0)∨AL rs inner m t=(8,⟨⟨#[]⟩,[]⟩,0)
 |m,t=>by
  cases h:Cu rs inner t with
  |none=>rw[I5 h]; exact Ae rfl
  |some t'=>
   cases m with
   |zero=>rw[Lk h]; exact Ad (Ae rfl)
   |succ m=>
    by_cases hz:2000<Ab [t']
    ·rw[Ll h hz]; exact Ad (Ad rfl)
    ·rw[Ln h (by omega)];rcases JW rs inner m t' with h1|h1|h1
     ·unfold DW; rw[Ao h1]; exact Ae rfl
     ·rw[h1]; exact Ad (Ae rfl)
     ·rw[h1]; exact Ad (Ad rfl)
theorem OZ {r:Int×Tm×Nat} (h:r.1=0∨r=(9,⟨⟨#[]⟩,[]⟩,0)∨r=(8,⟨⟨#[]⟩,[]⟩,0)):DW 0 r=r:=by
 unfold DW;rcases h with h|h|h
 ·rw[Ao h]; obtain⟨e,x,n⟩:=r; simp at h; subst h; rfl
 ·subst h; rfl
 ·subst h; rfl
theorem O0 (a b:Nat) (r:Int×Tm×Nat):DW a (DW b r)=DW (b+a) r:=by
 unfold DW;by_cases h:r.1=0
 ·simp[h,Nat.add_assoc]
 ·simp[h]
theorem Lo (k:Nat) (e:Int) (h:e≠0):DW k (e,⟨⟨#[]⟩,[]⟩,0)=(e,⟨⟨#[]⟩,[]⟩,0):=by
 unfold DW;rw[Ah h]
def Fd (rs:List Pr) (inner:Bool):Nat->List Tm->Option (List Int)
 |_,[]=>none
 |j,t::r=>match De rs inner t with
  |some p=>some ((j:Int)::p)
  |none=>Fd rs inner (j+1) r
theorem Su:AA ⟨s,pre++t::l⟩ ((pre.length:Int)::p)=AA t p:=by
 rw[AA];have h:0<=(pre.length:Int)/\((pre.length:Int)).toNat<(pre++t::l).length:=by simp
 rw[EY h];simp
theorem ZI:Eo rs inner ⟨s,pre++t::l⟩ ((pre.length:Int)::p)=Eo rs inner t p:=by
 unfold Eo;rw[Su]
theorem Sv {f:List Int->Bool} {g:List Int->List Int}:∀(l:List (List Int)),(l.map g).find? f=(l.find? (λp=>f (g p))).map g
 | []=>rfl
 |p::l=>by
  rw[Bo,List.find?_cons,List.find?_cons];cases f (g p) with
  |true=>rfl
  |false=>exact Sv l
theorem Sw {rs:List Pr} {inner:Bool} {s:ByteArray}:∀(l pre:List Tm),(Fp pre.length l).find? (Eo rs inner ⟨s,pre++l⟩)=Fd rs inner pre.length l
 | [],pre=>by simp[Fp,Fd]
 |t::r,pre=>by
  rw[KZ,List.find?_append,Sv];have b:(λp=>Eo rs inner ⟨s,pre++t::r⟩ ((pre.length:Int)::p))=Eo rs inner t:=funext λp=>ZI;rw[b];have a:=Sw (rs:=rs) (inner:=inner) (s:=s) r (pre++[t]);rw[Cv]at a;simp only[IL,DN,List.singleton_append] at a;rw[a];unfold De at *;rw[Fd];unfold De;cases (Ez t).find? (Eo rs inner t) with
  |none=>rfl
  |some p=>rfl
theorem MO (rs:List Pr) (inner:Bool) (t:Tm):De rs inner t=if Fb rs inner t=true then some [] else Fd rs inner 0 t.args:=by
 obtain⟨s,l⟩:=t;have e:=Sw (rs:=rs) (inner:=inner) (s:=s) l [];simp only[DB,CE] at e;unfold De Ez;rw[List.find?_cons];have a:Eo rs inner ⟨s,l⟩ []=Fb rs inner ⟨s,l⟩:=by simp[Eo,AA]
 rw[a,e];cases Fb rs inner ⟨s,l⟩<;>rfl
def Cx (rs:List Pr) (l:List Tm):Prop:=∀y∈Ap l,DE rs y=false
theorem G4 (t:Tm) (r:List Tm):Ap (t::r)=t::(Ap t.args++Ap r):=by
 obtain⟨s,l⟩:=t;simp[Ap]
theorem Sx {r:List Tm}:Cx rs (t::r)↔DE rs t=false/\Cx rs t.args/\Cx rs r:=by
 unfold Cx;rw[G4];constructor
 ·intro h;exact⟨h _ (by simp),λy hy=>h y (by simp[hy]),λy hy=>h y (by simp[hy])⟩
 ·rintro⟨h1,h2,h3⟩ y hy;simp only[Bh,Ba] at hy;rcases hy with rfl|hy|hy
  ·exact h1
  ·exact h2 y hy
  ·exact h3 y hy
theorem JX:Cx rs [t]↔DE rs t=false/\Cx rs t.args:=by
 rw[Sx];constructor
 ·rintro⟨h1,h2,_⟩; exact⟨h1,h2⟩
 ·rintro⟨h1,h2⟩; exact⟨h1,h2,λy hy=>by simp[Ap] at hy⟩
theorem Gy:Cx rs l↔∀t∈l,Cx rs [t]:=by
 induction l with
 |nil=>simp[Cx,Ap]
 |cons t r a=>
  rw[Sx,a];constructor
  ·rintro⟨h1,h2,h3⟩ x hx;rcases Bh.1 hx with rfl|hx
   ·exact JX.2 ⟨h1,h2⟩
   ·exact h3 x hx
  ·intro h;have h0:=JX.1 (h t (by simp));exact⟨h0.1,h0.2,λx hx=>h x (by simp[hx])⟩
theorem Sy {rs:List Pr} {inner:Bool}:∀(l:List Tm) (j:Nat),Fd rs inner j l=none↔∀t∈l,De rs inner t=none
 | [],j=>by simp[Fd]
 |t::r,j=>by
  rw[Fd];cases h:De rs inner t with
  |some p=>simp[h]
  |none=>simp[h,Sy r (j+1)]
theorem Lq (rs:List Pr) (inner:Bool) (t:Tm):De rs inner t=none↔Cx rs [t]:=by
 refine Tm.ind (P:=λt=>De rs inner t=none↔Cx rs [t]) (λs l a=>?_) t;have b:Fd rs inner 0 l=none↔Cx rs l:=by
  rw[Sy,Gy];exact⟨λh t ht=>(a t ht).1 (h t ht),λh t ht=>(a t ht).2 (h t ht)⟩
 rw[MO,JX];simp only;have aa:Cx rs l->Fb rs inner ⟨s,l⟩=DE rs ⟨s,l⟩:=λc=>by
  unfold Fb;have e:(((Ap [(⟨s,l⟩:Tm)]).drop 1).all λy=>!DE rs y)=true:=by
   rw[G4];simp only[Ma,Jy,GR,Ba];rintro y (hy|hy)
   ·rw[c y hy]; rfl
   ·simp[Ap]at hy
  rw[e];simp
 constructor
 ·intro h;by_cases h1:Fb rs inner ⟨s,l⟩=true
  ·rw[Ao h1]at h; cases h
  ·rw[Ah h1]at h;have h2:=b.1 h;rw[aa h2]at h1;exact⟨by simpa using h1,h2⟩
 ·rintro⟨h1,h2⟩;rw[Ah (by rw[aa h2,h1]; simp)];exact b.2 h2
theorem ZJ (h:De rs inner t=some p):∃x,AA t p=some x/\Fb rs inner x=true:=by
 have h1:=List.find?_some h;unfold Eo at h1;cases hx:AA t p with
 |none=>rw[hx] at h1; cases h1
 |some x=>rw[hx] at h1; exact⟨x,rfl,h1⟩
theorem ZK (h:Fb rs inner x=true):DE rs x=true:=by
 unfold Fb at h;rw[FZ]at h;exact h.1
theorem O2 (h:De rs inner t=some p):∃x y,AA t p=some x/\Fc rs x=some y/\Cu rs inner t=some (AJ y p t):=by
 obtain⟨x,hx,aa⟩:=ZJ h;cases a:Fc rs x with
 |none=>rw[MN,ZK aa] at a; cases a
 |some y=>exact⟨x,y,hx,a,by unfold Cu; rw[h]; simp[hx,a]⟩
theorem JY (rs:List Pr) (inner:Bool) (t:Tm):Cu rs inner t=none↔Cx rs [t]:=by
 rw[<-Lq rs inner];constructor
 ·intro h;cases hp:De rs inner t with
  |none=>rfl
  |some p=>obtain⟨x,y,_,_,h2⟩:=O2 hp; rw[h2] at h; cases h
 ·intro h; unfold Cu; rw[h]; rfl
theorem Sz {rs:List Pr} {inner:Bool} {a:Tm} {post:List Tm} {p:List Int} (ha:De rs inner a=some p):∀(pre:List Tm) (j:Nat),Cx rs pre->Fd rs inner j (pre++a::post)=some (((j+pre.length:Nat):Int)::p)
 | [],j,_=>by simp[Fd,ha]
 |t::r,j,h=>by
  have h1:=Gy.1 h;rw[Bj,Fd,(Lq rs inner t).2 (h1 t (by simp))];simp only;rw[Sz ha r (j+1) (Gy.2 λx hx=>h1 x (by simp[hx]))];simp[Nat.add_assoc,Nat.add_comm 1]
theorem SA {y:Tm}:AJ y ((pre.length:Int)::p) ⟨s,pre++a::post⟩=⟨s,pre++AJ y p a::post⟩:=by
 rw[AJ];congr 1
 have key:∀(pre:List Tm) (j:Nat),Dp (AJ y p) ((j+pre.length:Nat):Int) j (pre++a::post)=pre++AJ y p a::post:=by
  intro pre;induction pre with
  |nil=>intro j;simp only[CE,DB,Hp];rw[Dp];rw[Ao rfl,Rj _ _ _ _ (by omega)]
  |cons t r b=>
   intro j;rw[Bj,Dp,Ah (by simp; omega),Bj];congr 1
   have:=b (j+1);rw[show j+1+r.length=j+(t::r).length by simp; omega]at this;exact this
 have:=key pre 0;rw[DA]at this;exact this
theorem ZL {a':Tm} (ab:Cx rs pre) (h:Cu rs true a=some a'):Cu rs true ⟨s,pre++a::post⟩=some ⟨s,pre++a'::post⟩:=by
 cases hp:De rs true a with
 |none=>unfold Cu at h; rw[hp] at h; cases h
 |some p=>
  obtain⟨x,y,hx,b,h2⟩:=O2 hp;rw[h2]at h;cases h;have c:Fb rs true ⟨s,pre++a::post⟩=false:=by
   unfold Fb;rw[Bool.and_eq_false_iff];right;simp only[Bool.not_true,Bool.false_or];rw[Bool.eq_false_iff];intro aa;rw[GR]at aa;have h3:Cx rs [a]:=λz hz=>by
    have:=aa z (by
     rw[G4];simp only[Ma,Jy,Ba];left;rw[Mh];rw[G4];rw[G4]at hz;simp only[Ba,Bh] at hz ⊢;rcases hz with rfl|hz|hz
     ·exact Ad (Ae rfl)
     ·exact Ad (Ad (Ae hz))
     ·simp[Ap]at hz)
    simpa using this
   rw[(Lq rs true a).2 h3]at hp;cases hp
  have d:De rs true ⟨s,pre++a::post⟩=some ((pre.length:Int)::p):=(by rw[MO,Ah (by rw[c]; simp)];simp only;rw[Sz hp pre 0 ab,DA]);unfold Cu;rw[d];simp only[Mb];rw[Su,hx];simp only[Mb];rw[b];simp only[Option.map_some];rw[SA]
theorem ZM (b:Cx rs l):Cu rs true ⟨s,l⟩=Fc rs ⟨s,l⟩:=by
 cases a:Fc rs ⟨s,l⟩ with
 |none=>rw[JY,JX];exact⟨MN.1 a,b⟩
 |some y=>
  have aa:DE rs ⟨s,l⟩=true:=by
   cases h:DE rs ⟨s,l⟩ with
   |true=>rfl
   |false=>rw[MN.2 h] at a; cases a
  have ab:Fb rs true ⟨s,l⟩=true:=by
   unfold Fb;rw[aa];simp only[Bool.not_true,Bool.false_or,Bool.true_and];rw[GR,G4];simp only[Ma,Jy,Ba];rintro z (hz|hz)
   ·rw[b z hz]; rfl
   ·simp[Ap]at hz
  unfold Cu;rw[MO,Ao ab];simp[AA,a,AJ]
def Gc (rs:List Pr) (C:Tm->Tm) (k:Nat):Prop:=(∀a a',Cu rs true a=some a'->Cu rs true (C a)=some (C a'))/\∀a,Ab [C a]=Ab [a]+k
theorem Gc.id (rs:List Pr):Gc rs (λa=>a) 0:=⟨λ_ _ h=>h,λ_=>rfl⟩
theorem Gc.kid {C:Tm->Tm} {k:Nat} (h:Gc rs C k) (aa:Cx rs pre):Gc rs (λa=>C ⟨s,pre++a::post⟩) (1+Ab pre+Ab post+k):=by
 refine⟨λa a' ha=>h.1 _ _ (ZL aa ha),λa=>?_⟩;show Ab [C ⟨s,pre++a::post⟩]=_;rw[h.2];have e:Ab (pre++a::post)=Ab pre+(Ab [a]+Ab post):=by
  rw[Ej];have:=Ej [a] post;rw[<-this]; rfl
 have:Ab [(⟨s,pre++a::post⟩:Tm)]=1+Ab (pre++a::post):=by simp[Ab]
 omega
