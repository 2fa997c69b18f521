import Derived.Test.YtlkeafenklamjaaGreatDoorW165a
namespace Go.Proofs.YtlkeafenklamjaaGreatDoor
set_option linter.unusedSimpArgs false
set_option linter.unusedVariables false
set_option maxRecDepth 20000
set_option maxHeartbeats 8000000
open Go.RowKit
def Dh (rs:List Pr) (x:Tm):Option Tm:=rs.findSome? λr=>Da r x
theorem Km {rs:List Pr} {x:Tm}:Dh rs x=none↔EU rs x=false:=by
 unfold Dh EU
 rw[List.findSome?_eq_none_iff,List.any_eq_false]
 constructor
 ·intro h r hr
  have:=h r hr
  unfold Da at this
  unfold Fx
  cases hm:A7 r.l x [] with
  |none=>simp
  |some g=>rw[hm] at this; cases this
 ·intro h r hr
  have:=h r hr
  unfold Fx at this
  unfold Da
  cases hm:A7 r.l x [] with
  |none=>rfl
  |some g=>rw[hm] at this; simp at this
def Di (rs:List Pr) (inner:Bool) (t:Tm):Option Tm:=(DO rs inner t).bind λp=>(AU t p).bind λx=>(Dh rs x).map λy=>AM y p t
def BL (rs:List Pr) (inner:Bool):Nat->Tm->Int×Tm×Nat
 |0,t=>match Di rs inner t with
  |none=>(0,t,0)
  |some _=>(9,⟨⟨#[]⟩,[]⟩,0)
 |m+1,t=>match Di rs inner t with
  |none=>(0,t,0)
  |some t'=>if 2000<Ab [t'] then (8,⟨⟨#[]⟩,[]⟩,0) else
   match BL rs inner m t' with
   | (e,x,n)=>if e=0 then (0,x,n+1) else (e,⟨⟨#[]⟩,[]⟩,0)
theorem Mv {rs:List Pr} {inner:Bool} {m:Nat} {t:Tm} (h:Di rs inner t=none):BL rs inner m t=(0,t,0):=by
 cases m<;>simp[BL,h]
theorem Mw {rs:List Pr} {inner:Bool} {t t':Tm} (h:Di rs inner t=some t'):BL rs inner 0 t=(9,⟨⟨#[]⟩,[]⟩,0):=by simp[BL,h]
theorem Kn {rs:List Pr} {inner:Bool} {m:Nat} {t t':Tm} (h:Di rs inner t=some t') (hz:2000<Ab [t']):BL rs inner (m+1) t=(8,⟨⟨#[]⟩,[]⟩,0):=by
 rw[BL,h]
 simp only
 rw[As hz]
def D3 (k:Nat) (r:Int×Tm×Nat):Int×Tm×Nat:=if r.1=0 then (0,r.2.1,r.2.2+k) else (r.1,⟨⟨#[]⟩,[]⟩,0)
theorem Mx {rs:List Pr} {inner:Bool} {m:Nat} {t t':Tm} (h:Di rs inner t=some t') (hz:Ab [t']<=2000):BL rs inner (m+1) t=D3 1 (BL rs inner m t'):=by
 rw[BL,h]
 simp only
 rw[An (by omega)]
 rfl
theorem Ko (rs:List Pr) (inner:Bool):∀(m:Nat) (t:Tm),(BL rs inner m t).1=0∨BL rs inner m t=(9,⟨⟨#[]⟩,[]⟩,0)∨BL rs inner m t=(8,⟨⟨#[]⟩,[]⟩,0)
 |m,t=>by
  cases h:Di rs inner t with
  |none=>rw[Mv h]; exact Ad rfl
  |some t'=>
   cases m with
   |zero=>rw[Mw h]; exact Ae (Ad rfl)
   |succ m=>
    by_cases hz:2000<Ab [t']
    ·rw[Kn h hz]; exact Ae (Ae rfl)
    ·rw[Mx h (by omega)]
     rcases Ko rs inner m t' with h1|h1|h1
     ·unfold D3; rw[As h1]; exact Ad rfl
     ·rw[h1]; exact Ae (Ad rfl)
     ·rw[h1]; exact Ae (Ae rfl)
theorem My {r:Int×Tm×Nat} (h:r.1=0∨r=(9,⟨⟨#[]⟩,[]⟩,0)∨r=(8,⟨⟨#[]⟩,[]⟩,0)):D3 0 r=r:=by
 unfold D3
 rcases h with h|h|h
 ·rw[As h]; obtain⟨e,x,n⟩:=r; simp at h; subst h; rfl
 ·subst h; rfl
 ·subst h; rfl
theorem Mz (a b:Nat) (r:Int×Tm×Nat):D3 a (D3 b r)=D3 (b+a) r:=by
 unfold D3
 by_cases h:r.1=0
 ·simp[h,I5]
 ·simp[h]
theorem Iy (k:Nat) (e:Int) (h:e≠0):D3 k (e,⟨⟨#[]⟩,[]⟩,0)=(e,⟨⟨#[]⟩,[]⟩,0):=by
 unfold D3
 rw[An h]
def Fj (rs:List Pr) (inner:Bool):Nat->List Tm->Option (List Int)
 |_,[]=>none
 |j,t::r=>match DO rs inner t with
  |some p=>some ((j:Int)::p)
  |none=>Fj rs inner (j+1) r
theorem PN {s:ByteArray} {pre l:List Tm} {t:Tm} {p:List Int}:AU ⟨s,pre++t::l⟩ ((pre.length:Int)::p)=AU t p:=by
 rw[AU]
 have h:0<=(pre.length:Int)/\((pre.length:Int)).toNat<(pre++t::l).length:=by simp
 rw[DX h]
 simp
theorem WW {rs:List Pr} {inner:Bool} {s:ByteArray} {pre l:List Tm} {t:Tm} {p:List Int}:Eb rs inner ⟨s,pre++t::l⟩ ((pre.length:Int)::p)=Eb rs inner t p:=by
 unfold Eb
 rw[PN]
theorem PO {f:List Int->Bool} {g:List Int->List Int}:∀(l:List (List Int)),(l.map g).find? f=(l.find? (λp=>f (g p))).map g
 | []=>rfl
 |p::l=>by
  rw[BP,JT,JT]
  cases f (g p) with
  |true=>rfl
  |false=>exact PO l
theorem PP {rs:List Pr} {inner:Bool} {s:ByteArray}:∀(l pre:List Tm),(Ca pre.length l).find? (Eb rs inner ⟨s,pre++l⟩)=Fj rs inner pre.length l
 | [],pre=>by simp[Ca,Fj]
 |t::r,pre=>by
  rw[Is,List.find?_append,PO]
  have e1:(λp=>Eb rs inner ⟨s,pre++t::r⟩ ((pre.length:Int)::p))=Eb rs inner t:=funext λp=>WW
  rw[e1]
  have e2:=PP (rs:=rs) (inner:=inner) (s:=s) r (pre++[t])
  rw[Dp]at e2
  simp only[Ic,Gc,List.singleton_append] at e2
  rw[e2]
  unfold DO at *
  rw[Fj]
  unfold DO
  cases (Br t).find? (Eb rs inner t) with
  |none=>rfl
  |some p=>rfl
theorem MA (rs:List Pr) (inner:Bool) (t:Tm):DO rs inner t=if Dl rs inner t=true then some [] else Fj rs inner 0 t.args:=by
 obtain⟨s,l⟩:=t
 have e:=PP (rs:=rs) (inner:=inner) (s:=s) l []
 simp only[EM,DY] at e
 unfold DO Br
 rw[JT]
 have e0:Eb rs inner ⟨s,l⟩ []=Dl rs inner ⟨s,l⟩:=by simp[Eb,AU]
 rw[e0,e]
 cases Dl rs inner ⟨s,l⟩<;>rfl
def Dy (rs:List Pr) (l:List Tm):Prop:=∀y∈Ao l,EU rs y=false
theorem Iz (t:Tm) (r:List Tm):Ao (t::r)=t::(Ao t.args++Ao r):=by
 obtain⟨s,l⟩:=t
 simp[Ao]
theorem PQ {rs:List Pr} {t:Tm} {r:List Tm}:Dy rs (t::r)↔EU rs t=false/\Dy rs t.args/\Dy rs r:=by
 unfold Dy
 rw[Iz]
 constructor
 ·intro h
  exact⟨h _ (by simp),λy hy=>h y (by simp[hy]),λy hy=>h y (by simp[hy])⟩
 ·rintro⟨h1,h2,h3⟩ y hy
  simp only[BE,Bh] at hy
  rcases hy with rfl|hy|hy
  ·exact h1
  ·exact h2 y hy
  ·exact h3 y hy
theorem IA {rs:List Pr} {t:Tm}:Dy rs [t]↔EU rs t=false/\Dy rs t.args:=by
 rw[PQ]
 constructor
 ·rintro⟨h1,h2,_⟩; exact⟨h1,h2⟩
 ·rintro⟨h1,h2⟩; exact⟨h1,h2,λy hy=>by simp[Ao] at hy⟩
theorem Hr {rs:List Pr} {l:List Tm}:Dy rs l↔∀t∈l,Dy rs [t]:=by
 induction l with
 |nil=>simp[Dy,Ao]
 |cons t r ih=>
  rw[PQ,ih]
  constructor
  ·rintro⟨h1,h2,h3⟩ x hx
   rcases BE.1 hx with rfl|hx
   ·exact IA.2 ⟨h1,h2⟩
   ·exact h3 x hx
  ·intro h
   have h0:=IA.1 (h t (by simp))
   exact⟨h0.1,h0.2,λx hx=>h x (by simp[hx])⟩
theorem PR {rs:List Pr} {inner:Bool}:∀(l:List Tm) (j:Nat),Fj rs inner j l=none↔∀t∈l,DO rs inner t=none
 | [],j=>by simp[Fj]
 |t::r,j=>by
  rw[Fj]
  cases h:DO rs inner t with
  |some p=>simp[h]
  |none=>simp[h,PR r (j+1)]
theorem Kq (rs:List Pr) (inner:Bool) (t:Tm):DO rs inner t=none↔Dy rs [t]:=by
 refine Tm.ind (P:=λt=>DO rs inner t=none↔Dy rs [t]) (λs l ih=>?_) t
 have hl:Fj rs inner 0 l=none↔Dy rs l:=by
  rw[PR,Hr]
  exact⟨λh t ht=>(ih t ht).1 (h t ht),λh t ht=>(ih t ht).2 (h t ht)⟩
 rw[MA,IA]
 simp only
 have aa:Dy rs l->Dl rs inner ⟨s,l⟩=EU rs ⟨s,l⟩:=λhn=>by
  unfold Dl
  have e:(((Ao [(⟨s,l⟩:Tm)]).drop 1).all λy=>!fitsB rs y)=true:=by
   rw[Iz]
   simp only[Lw,I9,H9,Bh]
   rintro y (hy|hy)
   ·rw[hn y hy]; rfl
   ·simp[Ao]at hy
  rw[e]
  simp
 constructor
 ·intro h
  by_cases h1:Dl rs inner ⟨s,l⟩=true
  ·rw[As h1]at h; cases h
  ·rw[An h1]at h
   have h2:=hl.1 h
   rw[aa h2]at h1
   exact⟨by simpa using h1,h2⟩
 ·rintro⟨h1,h2⟩
  rw[An (by rw[aa h2,h1]; simp)]
  exact hl.2 h2
theorem WX {rs:List Pr} {inner:Bool} {t:Tm} {p:List Int} (h:DO rs inner t=some p):∃x,AU t p=some x/\Dl rs inner x=true:=by
 have h1:=List.find?_some h
 unfold Eb at h1
 cases hx:AU t p with
 |none=>rw[hx] at h1; cases h1
 |some x=>rw[hx] at h1; exact⟨x,rfl,h1⟩
theorem WY {rs:List Pr} {inner:Bool} {x:Tm} (h:Dl rs inner x=true):EU rs x=true:=by
 unfold Dl at h
 rw[Hd]at h
 exact h.1
theorem MB {rs:List Pr} {inner:Bool} {t:Tm} {p:List Int} (h:DO rs inner t=some p):∃x y,AU t p=some x/\Dh rs x=some y/\Di rs inner t=some (AM y p t):=by
 obtain⟨x,hx,aa⟩:=WX h
 cases hf:Dh rs x with
 |none=>rw[Km,WY aa] at hf; cases hf
 |some y=>exact⟨x,y,hx,hf,by unfold Di; rw[h]; simp[hx,hf]⟩
theorem MC (rs:List Pr) (inner:Bool) (t:Tm):Di rs inner t=none↔Dy rs [t]:=by
 rw[<-Kq rs inner]
 constructor
 ·intro h
  cases hp:DO rs inner t with
  |none=>rfl
  |some p=>obtain⟨x,y,_,_,h2⟩:=MB hp; rw[h2] at h; cases h
 ·intro h; unfold Di; rw[h]; rfl
theorem PS {rs:List Pr} {inner:Bool} {a:Tm} {post:List Tm} {p:List Int} (ha:DO rs inner a=some p):∀(pre:List Tm) (j:Nat),Dy rs pre->Fj rs inner j (pre++a::post)=some (((j+pre.length:Nat):Int)::p)
 | [],j,_=>by simp[Fj,ha]
 |t::r,j,h=>by
  have h1:=Hr.1 h
  rw[Cg,Fj,(Kq rs inner t).2 (h1 t (by simp))]
  simp only
  rw[PS ha r (j+1) (Hr.2 λx hx=>h1 x (by simp[hx]))]
  simp[I5,Nat.add_comm 1]
theorem WZ {s:ByteArray} {pre post:List Tm} {a y:Tm} {p:List Int}:AM y ((pre.length:Int)::p) ⟨s,pre++a::post⟩=⟨s,pre++AM y p a::post⟩:=by
 rw[AM]
 CU 1
 have key:∀(pre:List Tm) (j:Nat),BN (AM y p) ((j+pre.length:Nat):Int) j (pre++a::post)=pre++AM y p a::post:=by
  intro pre
  induction pre with
  |nil=>
   intro j
   simp only[DY,EM,FM]
   rw[BN]
   rw[As rfl,L8 _ _ _ _ (by omega)]
  |cons t r ih=>
   intro j
   rw[Cg,BN,An (by simp; omega),Cg]
   CU 1
   have:=ih (j+1)
   rw[show j+1+r.length=j+(t::r).length by simp; omega]at this
   exact this
 have:=key pre 0
 rw[Ey]at this
 exact this
theorem W4 {rs:List Pr} {s:ByteArray} {pre post:List Tm} {a a':Tm} (aa:Dy rs pre) (h:Di rs true a=some a'):Di rs true ⟨s,pre++a::post⟩=some ⟨s,pre++a'::post⟩:=by
 cases hp:DO rs true a with
 |none=>unfold Di at h; rw[hp] at h; cases h
 |some p=>
  obtain⟨x,y,hx,hf,h2⟩:=MB hp
  rw[h2]at h
  cases h
  have hno:Dl rs true ⟨s,pre++a::post⟩=false:=by
   unfold Dl
   rw[Bool.and_eq_false_iff]
   right
   simp only[Bool.not_true,Bool.false_or]
   rw[I4]
   intro hall
   rw[H9]at hall
   have h3:Dy rs [a]:=λz hz=>by
    have:=hall z (by
     rw[Iz]
     simp only[Lw,I9,Bh]
     left
     rw[Ij]
     rw[Iz]
     rw[Iz]at hz
     simp only[Bh,BE] at hz ⊢
     rcases hz with rfl|hz|hz
     ·exact Ae (Ad rfl)
     ·exact Ae (Ae (Ad hz))
     ·simp[Ao]at hz)
    simpa using this
   rw[(Kq rs true a).2 h3]at hp
   cases hp
  have hn:DO rs true ⟨s,pre++a::post⟩=some ((pre.length:Int)::p):=by
   rw[MA,An (by rw[hno]; simp)]
   simp only
   rw[PS hp pre 0 aa,Ey]
  unfold Di
  rw[hn]
  simp only[Option.bind_some]
  rw[PN,hx]
  simp only[Option.bind_some]
  rw[hf]
  simp only[Option.map_some]
  rw[WZ]
theorem W6 {rs:List Pr} {s:ByteArray} {l:List Tm} (hl:Dy rs l):Di rs true ⟨s,l⟩=Dh rs ⟨s,l⟩:=by
 cases hf:Dh rs ⟨s,l⟩ with
 |none=>
  rw[MC,IA]
  exact⟨Km.1 hf,hl⟩
 |some y=>
  have aa:EU rs ⟨s,l⟩=true:=by
   cases h:EU rs ⟨s,l⟩ with
   |true=>rfl
   |false=>rw[Km.2 h] at hf; cases hf
  have ae:Dl rs true ⟨s,l⟩=true:=by
   unfold Dl
   rw[aa]
   simp only[Bool.not_true,Bool.false_or,Bool.true_and]
   rw[H9,Iz]
   simp only[Lw,I9,Bh]
   rintro z (hz|hz)
   ·rw[hl z hz]; rfl
   ·simp[Ao]at hz
  unfold Di
  rw[MA,As ae]
  simp[AU,hf,AM]
def Fk (rs:List Pr) (C:Tm->Tm) (k:Nat):Prop:=(∀a a',Di rs true a=some a'->Di rs true (C a)=some (C a'))/\∀a,Ab [C a]=Ab [a]+k
theorem Fk.id (rs:List Pr):Fk rs (λa=>a) 0:=⟨λ_ _ h=>h,λ_=>rfl⟩
theorem Fk.kid {rs:List Pr} {C:Tm->Tm} {k:Nat} (h:Fk rs C k) {s:ByteArray} {pre post:List Tm} (aa:Dy rs pre):Fk rs (λa=>C ⟨s,pre++a::post⟩) (1+Ab pre+Ab post+k):=by
 refine⟨λa a' ha=>h.1 _ _ (W4 aa ha),λa=>?_⟩
 show Ab [C ⟨s,pre++a::post⟩]=_
 rw[h.2]
 have e:Ab (pre++a::post)=Ab pre+(Ab [a]+Ab post):=by
  rw[D8]
  have:=D8 [a] post
  rw[<-this]; rfl
 have:Ab [(⟨s,pre++a::post⟩:Tm)]=1+Ab (pre++a::post):=by simp[Ab]
 omega
end Go.Proofs.YtlkeafenklamjaaGreatDoor
