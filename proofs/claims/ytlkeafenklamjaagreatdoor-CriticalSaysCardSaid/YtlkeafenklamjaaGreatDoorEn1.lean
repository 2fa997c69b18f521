import Derived.Test.YtlkeafenklamjaaGreatDoorW165a
namespace Go.Proofs.YtlkeafenklamjaaGreatDoor
set_option linter.all false
set_option maxRecDepth 20000
set_option maxHeartbeats 8000000
open Go.RowKit
def Df (rs:List Pr) (x:Tm):Option Tm:=rs.findSome? λr=>C8 r x
theorem Kl {rs:List Pr} {x:Tm}:Df rs x=none↔Dw rs x=false:=by
 unfold Df Dw
 rw[List.findSome?_eq_none_iff,List.any_eq_false]
 constructor
 ·intro h r hr
  have:=h r hr
  unfold C8 at this
  unfold Fw
  cases hm:AY r.l x [] with
  |none=>simp
  |some g=>rw[hm] at this; cases this
 ·intro h r hr
  have:=h r hr
  unfold Fw at this
  unfold C8
  cases hm:AY r.l x [] with
  |none=>rfl
  |some g=>rw[hm] at this; simp at this
def Dg (rs:List Pr) (inner:Bool) (t:Tm):Option Tm:=(DO rs inner t).bind λp=>(AR t p).bind λx=>(Df rs x).map λy=>AL y p t
def BL (rs:List Pr) (inner:Bool):Nat->Tm->Int×Tm×Nat
 |0,t=>match Dg rs inner t with
  |none=>(0,t,0)
  |some _=>(9,⟨⟨#[]⟩,[]⟩,0)
 |m+1,t=>match Dg rs inner t with
  |none=>(0,t,0)
  |some t'=>if 2000<Ab [t'] then (8,⟨⟨#[]⟩,[]⟩,0) else
   match BL rs inner m t' with
   | (e,x,n)=>if e=0 then (0,x,n+1) else (e,⟨⟨#[]⟩,[]⟩,0)
theorem Mu {rs:List Pr} {inner:Bool} {m:Nat} {t:Tm} (h:Dg rs inner t=none):BL rs inner m t=(0,t,0):=by
 cases m<;>simp[BL,h]
theorem Mv {rs:List Pr} {inner:Bool} {t t':Tm} (h:Dg rs inner t=some t'):BL rs inner 0 t=(9,⟨⟨#[]⟩,[]⟩,0):=by simp[BL,h]
theorem Km {rs:List Pr} {inner:Bool} {m:Nat} {t t':Tm} (h:Dg rs inner t=some t') (hz:2000<Ab [t']):BL rs inner (m+1) t=(8,⟨⟨#[]⟩,[]⟩,0):=by
 rw[BL,h]
 simp only
 rw[As hz]
def D3 (k:Nat) (r:Int×Tm×Nat):Int×Tm×Nat:=if r.1=0 then (0,r.2.1,r.2.2+k) else (r.1,⟨⟨#[]⟩,[]⟩,0)
theorem Mw {rs:List Pr} {inner:Bool} {m:Nat} {t t':Tm} (h:Dg rs inner t=some t') (hz:Ab [t']<=2000):BL rs inner (m+1) t=D3 1 (BL rs inner m t'):=by
 rw[BL,h]
 simp only
 rw[An (by omega)]
 rfl
theorem Kn (rs:List Pr) (inner:Bool):∀(m:Nat) (t:Tm),(BL rs inner m t).1=0∨BL rs inner m t=(9,⟨⟨#[]⟩,[]⟩,0)∨BL rs inner m t=(8,⟨⟨#[]⟩,[]⟩,0)
 |m,t=>by
  cases h:Dg rs inner t with
  |none=>rw[Mu h]; exact Ad rfl
  |some t'=>
   cases m with
   |zero=>rw[Mv h]; exact Ae (Ad rfl)
   |succ m=>
    by_cases hz:2000<Ab [t']
    ·rw[Km h hz]; exact Ae (Ae rfl)
    ·rw[Mw h (by omega)]
     rcases Kn rs inner m t' with h1|h1|h1
     ·unfold D3; rw[As h1]; exact Ad rfl
     ·rw[h1]; exact Ae (Ad rfl)
     ·rw[h1]; exact Ae (Ae rfl)
theorem Mx {r:Int×Tm×Nat} (h:r.1=0∨r=(9,⟨⟨#[]⟩,[]⟩,0)∨r=(8,⟨⟨#[]⟩,[]⟩,0)):D3 0 r=r:=by
 unfold D3
 rcases h with h|h|h
 ·rw[As h]; obtain⟨e,x,n⟩:=r; simp at h; subst h; rfl
 ·subst h; rfl
 ·subst h; rfl
theorem My (a b:Nat) (r:Int×Tm×Nat):D3 a (D3 b r)=D3 (b+a) r:=by
 unfold D3
 by_cases h:r.1=0
 ·simp[h,I5]
 ·simp[h]
theorem Iy (k:Nat) (e:Int) (h:e≠0):D3 k (e,⟨⟨#[]⟩,[]⟩,0)=(e,⟨⟨#[]⟩,[]⟩,0):=by
 unfold D3
 rw[An h]
def Fi (rs:List Pr) (inner:Bool):Nat->List Tm->Option (List Int)
 |_,[]=>none
 |j,t::r=>match DO rs inner t with
  |some p=>some ((j:Int)::p)
  |none=>Fi rs inner (j+1) r
theorem PM {s:ByteArray} {pre l:List Tm} {t:Tm} {p:List Int}:AR ⟨s,pre++t::l⟩ ((pre.length:Int)::p)=AR t p:=by
 rw[AR]
 have h:0<=(pre.length:Int)/\((pre.length:Int)).toNat<(pre++t::l).length:=by simp
 rw[DX h]
 simp
theorem WU {rs:List Pr} {inner:Bool} {s:ByteArray} {pre l:List Tm} {t:Tm} {p:List Int}:Eb rs inner ⟨s,pre++t::l⟩ ((pre.length:Int)::p)=Eb rs inner t p:=by
 unfold Eb
 rw[PM]
theorem PN {f:List Int->Bool} {g:List Int->List Int}:∀(l:List (List Int)),(l.map g).find? f=(l.find? (λp=>f (g p))).map g
 | []=>rfl
 |p::l=>by
  rw[BP,JS,JS]
  cases f (g p) with
  |true=>rfl
  |false=>exact PN l
theorem PO {rs:List Pr} {inner:Bool} {s:ByteArray}:∀(l pre:List Tm),(Ca pre.length l).find? (Eb rs inner ⟨s,pre++l⟩)=Fi rs inner pre.length l
 | [],pre=>by simp[Ca,Fi]
 |t::r,pre=>by
  rw[Is,List.find?_append,PN]
  have e1:(λp=>Eb rs inner ⟨s,pre++t::r⟩ ((pre.length:Int)::p))=Eb rs inner t:=funext λp=>WU
  rw[e1]
  have e2:=PO (rs:=rs) (inner:=inner) (s:=s) r (pre++[t])
  rw[Dm]at e2
  simp only[Ic,Gb,List.singleton_append] at e2
  rw[e2]
  unfold DO at *
  rw[Fi]
  unfold DO
  cases (Bq t).find? (Eb rs inner t) with
  |none=>rfl
  |some p=>rfl
theorem Mz (rs:List Pr) (inner:Bool) (t:Tm):DO rs inner t=if Dj rs inner t=true then some [] else Fi rs inner 0 t.args:=by
 obtain⟨s,l⟩:=t
 have e:=PO (rs:=rs) (inner:=inner) (s:=s) l []
 simp only[EN,DY] at e
 unfold DO Bq
 rw[JS]
 have e0:Eb rs inner ⟨s,l⟩ []=Dj rs inner ⟨s,l⟩:=by simp[Eb,AR]
 rw[e0,e]
 cases Dj rs inner ⟨s,l⟩<;>rfl
def Dx (rs:List Pr) (l:List Tm):Prop:=∀y∈Ao l,Dw rs y=false
theorem Iz (t:Tm) (r:List Tm):Ao (t::r)=t::(Ao t.args++Ao r):=by
 obtain⟨s,l⟩:=t
 simp[Ao]
theorem PP {rs:List Pr} {t:Tm} {r:List Tm}:Dx rs (t::r)↔Dw rs t=false/\Dx rs t.args/\Dx rs r:=by
 unfold Dx
 rw[Iz]
 constructor
 ·intro h
  exact⟨h _ (by simp),λy hy=>h y (by simp[hy]),λy hy=>h y (by simp[hy])⟩
 ·rintro⟨h1,h2,h3⟩ y hy
  simp only[BE,Bg] at hy
  rcases hy with rfl|hy|hy
  ·exact h1
  ·exact h2 y hy
  ·exact h3 y hy
theorem IA {rs:List Pr} {t:Tm}:Dx rs [t]↔Dw rs t=false/\Dx rs t.args:=by
 rw[PP]
 constructor
 ·rintro⟨h1,h2,_⟩; exact⟨h1,h2⟩
 ·rintro⟨h1,h2⟩; exact⟨h1,h2,λy hy=>by simp[Ao] at hy⟩
theorem Hs {rs:List Pr} {l:List Tm}:Dx rs l↔∀t∈l,Dx rs [t]:=by
 induction l with
 |nil=>simp[Dx,Ao]
 |cons t r ih=>
  rw[PP,ih]
  constructor
  ·rintro⟨h1,h2,h3⟩ x hx
   rcases BE.1 hx with rfl|hx
   ·exact IA.2 ⟨h1,h2⟩
   ·exact h3 x hx
  ·intro h
   have h0:=IA.1 (h t (by simp))
   exact⟨h0.1,h0.2,λx hx=>h x (by simp[hx])⟩
theorem PQ {rs:List Pr} {inner:Bool}:∀(l:List Tm) (j:Nat),Fi rs inner j l=none↔∀t∈l,DO rs inner t=none
 | [],j=>by simp[Fi]
 |t::r,j=>by
  rw[Fi]
  cases h:DO rs inner t with
  |some p=>simp[h]
  |none=>simp[h,PQ r (j+1)]
theorem Ko (rs:List Pr) (inner:Bool) (t:Tm):DO rs inner t=none↔Dx rs [t]:=by
 refine Tm.ind (P:=λt=>DO rs inner t=none↔Dx rs [t]) (λs l ih=>?_) t
 have hl:Fi rs inner 0 l=none↔Dx rs l:=by
  rw[PQ,Hs]
  exact⟨λh t ht=>(ih t ht).1 (h t ht),λh t ht=>(ih t ht).2 (h t ht)⟩
 rw[Mz,IA]
 simp only
 have aa:Dx rs l->Dj rs inner ⟨s,l⟩=Dw rs ⟨s,l⟩:=λhn=>by
  unfold Dj
  have e:(((Ao [(⟨s,l⟩:Tm)]).drop 1).all λy=>!Dw rs y)=true:=by
   rw[Iz]
   simp only[Lv,I8,G8,Bg]
   rintro y (hy|hy)
   ·rw[hn y hy]; rfl
   ·simp[Ao]at hy
  rw[e]
  simp
 constructor
 ·intro h
  by_cases h1:Dj rs inner ⟨s,l⟩=true
  ·rw[As h1]at h; cases h
  ·rw[An h1]at h
   have h2:=hl.1 h
   rw[aa h2]at h1
   exact⟨by simpa using h1,h2⟩
 ·rintro⟨h1,h2⟩
  rw[An (by rw[aa h2,h1]; simp)]
  exact hl.2 h2
theorem WV {rs:List Pr} {inner:Bool} {t:Tm} {p:List Int} (h:DO rs inner t=some p):∃x,AR t p=some x/\Dj rs inner x=true:=by
 have h1:=List.find?_some h
 unfold Eb at h1
 cases hx:AR t p with
 |none=>rw[hx] at h1; cases h1
 |some x=>rw[hx] at h1; exact⟨x,rfl,h1⟩
theorem WW {rs:List Pr} {inner:Bool} {x:Tm} (h:Dj rs inner x=true):Dw rs x=true:=by
 unfold Dj at h
 rw[Hd]at h
 exact h.1
theorem MA {rs:List Pr} {inner:Bool} {t:Tm} {p:List Int} (h:DO rs inner t=some p):∃x y,AR t p=some x/\Df rs x=some y/\Dg rs inner t=some (AL y p t):=by
 obtain⟨x,hx,aa⟩:=WV h
 cases hf:Df rs x with
 |none=>rw[Kl,WW aa] at hf; cases hf
 |some y=>exact⟨x,y,hx,hf,by unfold Dg; rw[h]; simp[hx,hf]⟩
theorem MB (rs:List Pr) (inner:Bool) (t:Tm):Dg rs inner t=none↔Dx rs [t]:=by
 rw[<-Ko rs inner]
 constructor
 ·intro h
  cases hp:DO rs inner t with
  |none=>rfl
  |some p=>obtain⟨x,y,_,_,h2⟩:=MA hp; rw[h2] at h; cases h
 ·intro h; unfold Dg; rw[h]; rfl
theorem PR {rs:List Pr} {inner:Bool} {a:Tm} {post:List Tm} {p:List Int} (ha:DO rs inner a=some p):∀(pre:List Tm) (j:Nat),Dx rs pre->Fi rs inner j (pre++a::post)=some (((j+pre.length:Nat):Int)::p)
 | [],j,_=>by simp[Fi,ha]
 |t::r,j,h=>by
  have h1:=Hs.1 h
  rw[Cf,Fi,(Ko rs inner t).2 (h1 t (by simp))]
  simp only
  rw[PR ha r (j+1) (Hs.2 λx hx=>h1 x (by simp[hx]))]
  simp[I5,Nat.add_comm 1]
theorem WX {s:ByteArray} {pre post:List Tm} {a y:Tm} {p:List Int}:AL y ((pre.length:Int)::p) ⟨s,pre++a::post⟩=⟨s,pre++AL y p a::post⟩:=by
 rw[AL]
 congr 1
 have key:∀(pre:List Tm) (j:Nat),BN (AL y p) ((j+pre.length:Nat):Int) j (pre++a::post)=pre++AL y p a::post:=by
  intro pre
  induction pre with
  |nil=>
   intro j
   simp only[DY,EN,FL]
   rw[BN]
   rw[As rfl,L7 _ _ _ _ (by omega)]
  |cons t r ih=>
   intro j
   rw[Cf,BN,An (by simp; omega),Cf]
   congr 1
   have:=ih (j+1)
   rw[show j+1+r.length=j+(t::r).length by simp; omega]at this
   exact this
 have:=key pre 0
 rw[Ey]at this
 exact this
theorem WY {rs:List Pr} {s:ByteArray} {pre post:List Tm} {a a':Tm} (aa:Dx rs pre) (h:Dg rs true a=some a'):Dg rs true ⟨s,pre++a::post⟩=some ⟨s,pre++a'::post⟩:=by
 cases hp:DO rs true a with
 |none=>unfold Dg at h; rw[hp] at h; cases h
 |some p=>
  obtain⟨x,y,hx,hf,h2⟩:=MA hp
  rw[h2]at h
  cases h
  have hno:Dj rs true ⟨s,pre++a::post⟩=false:=by
   unfold Dj
   rw[Bool.and_eq_false_iff]
   right
   simp only[Bool.not_true,Bool.false_or]
   rw[I4]
   intro hall
   rw[G8]at hall
   have h3:Dx rs [a]:=λz hz=>by
    have:=hall z (by
     rw[Iz]
     simp only[Lv,I8,Bg]
     left
     rw[Ij]
     rw[Iz]
     rw[Iz]at hz
     simp only[Bg,BE] at hz ⊢
     rcases hz with rfl|hz|hz
     ·exact Ae (Ad rfl)
     ·exact Ae (Ae (Ad hz))
     ·simp[Ao]at hz)
    simpa using this
   rw[(Ko rs true a).2 h3]at hp
   cases hp
  have hn:DO rs true ⟨s,pre++a::post⟩=some ((pre.length:Int)::p):=by
   rw[Mz,An (by rw[hno]; simp)]
   simp only
   rw[PR hp pre 0 aa,Ey]
  unfold Dg
  rw[hn]
  simp only[Option.bind_some]
  rw[PM,hx]
  simp only[Option.bind_some]
  rw[hf]
  simp only[Option.map_some]
  rw[WX]
theorem WZ {rs:List Pr} {s:ByteArray} {l:List Tm} (hl:Dx rs l):Dg rs true ⟨s,l⟩=Df rs ⟨s,l⟩:=by
 cases hf:Df rs ⟨s,l⟩ with
 |none=>
  rw[MB,IA]
  exact⟨Kl.1 hf,hl⟩
 |some y=>
  have aa:Dw rs ⟨s,l⟩=true:=by
   cases h:Dw rs ⟨s,l⟩ with
   |true=>rfl
   |false=>rw[Kl.2 h] at hf; cases hf
  have ae:Dj rs true ⟨s,l⟩=true:=by
   unfold Dj
   rw[aa]
   simp only[Bool.not_true,Bool.false_or,Bool.true_and]
   rw[G8,Iz]
   simp only[Lv,I8,Bg]
   rintro z (hz|hz)
   ·rw[hl z hz]; rfl
   ·simp[Ao]at hz
  unfold Dg
  rw[Mz,As ae]
  simp[AR,hf,AL]
def Fj (rs:List Pr) (C:Tm->Tm) (k:Nat):Prop:=(∀a a',Dg rs true a=some a'->Dg rs true (C a)=some (C a'))/\∀a,Ab [C a]=Ab [a]+k
theorem Fj.id (rs:List Pr):Fj rs (λa=>a) 0:=⟨λ_ _ h=>h,λ_=>rfl⟩
theorem Fj.kid {rs:List Pr} {C:Tm->Tm} {k:Nat} (h:Fj rs C k) {s:ByteArray} {pre post:List Tm} (aa:Dx rs pre):Fj rs (λa=>C ⟨s,pre++a::post⟩) (1+Ab pre+Ab post+k):=by
 refine⟨λa a' ha=>h.1 _ _ (WY aa ha),λa=>?_⟩
 show Ab [C ⟨s,pre++a::post⟩]=_
 rw[h.2]
 have e:Ab (pre++a::post)=Ab pre+(Ab [a]+Ab post):=by
  rw[D8]
  have:=D8 [a] post
  rw[<-this]; rfl
 have:Ab [(⟨s,pre++a::post⟩:Tm)]=1+Ab (pre++a::post):=by simp[Ab]
 omega
end Go.Proofs.YtlkeafenklamjaaGreatDoor
