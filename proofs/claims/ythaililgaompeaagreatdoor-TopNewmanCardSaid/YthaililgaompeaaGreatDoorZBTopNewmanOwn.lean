import Derived.Test.YthaililgaompeaaGreatDoorZTopNewmanOwn
import Derived.Lib.Builder
import Derived.Lib.AppendStr
import Derived.Deep.AppendSrc
import Derived.Lib.ItoaNum
import Derived.Laws.IdiomStrings
import Derived.Deep.RegionHeld
import Derived.Test.YthaililgaompeaaGreatDoorShelf
import Derived.Deep.RegionHeld3
import Derived.Deep.DeepCutAuto
import Derived.Laws.OwnMore
import Derived.Lib.AppendIntMem
import Derived.WideMake
import Derived.Deep.RegionLaw
namespace Go.Proofs.YthaililgaompeaaGreatDoor
set_option linter.all false
set_option maxRecDepth 20000
set_option maxHeartbeats 8000000
open Go.RowKit Go.Proofs.Tryz
variable {B F N O T aa b c1 cap g i n r:Nat} {s s':ByteArray} {l:List Tm} {t:Tm} {u v z:Value} {a c w w' w1 w2 w3 wr:World} {xs:List Value} {Q R X Y:Nat->Prop} {cs:Array Value} {row:Option Nat} {P:Program} {L:List (ByteArray×Value)} {ns:List ByteArray} {a1:Option Addr}
def Iv (s:ByteArray):Nat->Nat->Nat
 |0,i=>i
 |f+1,i=>if i<s.size/\DQ (Cq s i)=true then Iv s f (i+1) else i
def CG (s:ByteArray) (i:Nat):Nat:=Iv s (s.size-i) i
theorem Rm (s:ByteArray):∀f i,i<=Iv s f i
 |0,i=>Al _
 |f+1,i=>by
  unfold Iv; split
  ·have:=Rm s f (i+1); omega
  ·exact Al _
theorem Ro (s:ByteArray):∀f i,i<=s.size->Iv s f i<=s.size
 |0,i,h=>h
 |f+1,i,h=>by
  unfold Iv; split
  ·rename_i hc; exact Ro s f (i+1) hc.1
  ·exact h
theorem Ye (s:ByteArray) (i:Nat):i<=CG s i:=Rm s _ i
theorem Yf (s:ByteArray) (h:i<=s.size):CG s i<=s.size:=Ro s _ i h
theorem Yg (h:i<s.size) (ha:DQ (Cq s i)=true):CG s i=CG s (i+1):=by
 have e:s.size-i=(s.size-(i+1))+1:=by omega
 unfold CG;rw[e,Iv,Ao ⟨h,ha⟩]
theorem Rp (h:¬(i<s.size/\DQ (Cq s i)=true)):CG s i=i:=by
 unfold CG;cases hf:s.size-i with
 |zero=>rfl
 |succ f=>rw[Iv,Ah h]
structure Rd where
 err:Int
 t:Tm
 pos:Nat
 k:Nat
def BO (e:Int):Rd:=⟨e,⟨⟨#[]⟩,[]⟩,0,0⟩
def rd (s:ByteArray):Nat->Option (ByteArray×List Tm)->Nat->Nat->Rd
 |0,_,_,_=>BO 99
 |f+1,none,i,k=>
  if CG s i=i then BO (if i=s.size then 13 else 12)
  else if AF (s.extract i (CG s i))=false then BO 1
  else if 200<k+1 then BO 3
  else if CG s i<s.size/\Cq s (CG s i)=40 then
   if Aj (s.extract i (CG s i))=true then BO 2 else rd s f (some (s.extract i (CG s i),[])) (CG s i) (k+1)
  else ⟨0,⟨s.extract i (CG s i),[]⟩,CG s i,k+1⟩
 |f+1,some (nm,acc),i,k=>
  if (rd s f none (i+1) k).err≠0 then BO (rd s f none (i+1) k).err
  else if (rd s f none (i+1) k).pos=s.size then BO 13
  else if Cq s (rd s f none (i+1) k).pos=41 then ⟨0,⟨nm,acc++[(rd s f none (i+1) k).t]⟩,(rd s f none (i+1) k).pos+1,(rd s f none (i+1) k).k⟩
  else if Cq s (rd s f none (i+1) k).pos=44 then rd s f (some (nm,acc++[(rd s f none (i+1) k).t])) (rd s f none (i+1) k).pos (rd s f none (i+1) k).k
  else BO 12
theorem Rq (s:ByteArray):∀f m i k,(rd s f m i k).err=0->i<=s.size->(m.isSome=true->i<s.size)->i<(rd s f m i k).pos/\(rd s f m i k).pos<=s.size:=by
 intro f;induction f with
 |zero=>intro m i k h; simp[rd,BO] at h
 |succ f c=>
  intro m i k h hi hm;match m with
  |none=>
   have h1:=Ye s i;have h2:=Yf s (i:=i) (by omega);unfold rd at h ⊢;split at h
   ·exfalso; revert h; simp only[BO]; split<;>omega
   ·rename_i d;rw[Ah d];split at h
    ·exfalso; revert h; simp[BO]
    ·rename_i h3;rw[Ah h3];split at h
     ·exfalso; revert h; simp[BO]
     ·rename_i b;rw[Ah b];split at h
      ·rename_i a;rw[Ao a];split at h
       ·exfalso; revert h; simp[BO]
       ·rename_i h6;rw[Ah h6];have:=c _ _ _ h (by omega) (λ_=>a.1);omega
      ·rename_i a;rw[Ah a];exact⟨by show i<CG s i; omega,h2⟩
  |some (nm,acc)=>
   unfold rd at h ⊢;split at h
   ·rename_i h1;exact absurd h h1
   ·rename_i h1;rw[Ah h1];simp only[ne_eq,Decidable.not_not] at h1;split at h
    ·exfalso; revert h; simp[BO]
    ·rename_i h2;rw[Ah h2];have aa:i<s.size:=hm rfl
     ·have h3:=c none (i+1) k h1 (by omega) (λh=>by cases h);split at h
      ·rename_i b;rw[Ao b];exact⟨by show i<(rd s f none (i+1) k).pos+1; omega,by show(rd s f none (i+1) k).pos+1<=s.size; omega⟩
      ·rename_i b;rw[Ah b];split at h
       ·rename_i a;rw[Ao a];have:=c _ _ _ h (by omega) (λ_=>by omega);omega
       ·exfalso; revert h; simp[BO]
def AK:List Tm->List UInt8
 | []=>[]
 | ⟨s,l⟩::r=>s.data.toList++(if l.isEmpty=true then [] else 40::(AK l++[41]))++(if r.isEmpty=true then [] else 44::AK r)
def OA (s:ByteArray) (l:List Tm) (k:Nat):List UInt8:=if k=0 then s.data.toList else s.data.toList++40::AK (l.take k)
theorem IX (s:ByteArray) (l:List Tm):AK [(⟨s,l⟩:Tm)]=s.data.toList++(if l.isEmpty=true then [] else 40::(AK l++[41])):=by simp[AK]
theorem JN (t:Tm) (r:List Tm) (h:r≠[]):AK (t::r)=AK [t]++44::AK r:=by
 obtain⟨s,l⟩:=t;rw[IX];have a:(r.isEmpty=true)=False:=by simpa using h
 simp only[AK,a,if_false]
theorem Rr (a b:List Tm) (ha:a≠[]) (hb:b≠[]):AK (a++b)=AK a++44::AK b:=by
 induction a with
 |nil=>exact absurd rfl ha
 |cons t r d=>
  by_cases c:r=[]
  ·subst c; simpa using JN t b hb
  ·rw[Bj,JN t (r++b) (by simp[c]),d c,JN t r c];simp
theorem Yh (s:ByteArray):AK [(⟨s,[]⟩:Tm)]=s.data.toList:=by simp[AK]
theorem Yi (s:ByteArray) (l:List Tm) (k:Nat) (hk:k<=l.length):(OA s l k).length<=(AK [(⟨s,l⟩:Tm)]).length:=by
 rw[IX];unfold OA;by_cases h0:k=0
 ·rw[Ao h0]; simp
 ·rw[Ah h0];have a:l≠[]:=by intro e; subst e; simp at hk; omega
  rw[Ah (by simpa using a)];by_cases hd:l.drop k=[]
  ·have:l.take k=l:=by have h2:=DM k l; rw[hd] at h2; simpa using h2
   rw[this]; simp
  ·have ht:l.take k≠[]:=(by intro e;have h3:=Cb List.length e;rw[List.length_take]at h3;simp only[DB] at h3;have aa:=Gq.2 a;omega);have h2:=Rr (l.take k) (l.drop k) ht hd;rw[DM]at h2;rw[h2]; simp only[Cv,Bg]; omega
theorem Yj (s:ByteArray) (j:Nat) (c:UInt8) (h:s.data.toList[j]? = some c):Cq s j=(c.toNat:Int):=by
 have hj:j<s.data.toList.length:=by
  rcases Nat.lt_or_ge j s.data.toList.length with h'|h'
  ·exact h'
  ·rw[List.getElem?_eq_none h']at h; cases h
 have hs:j<s.size:=by simpa using hj
 unfold Cq;rw[EY hs];have:s.data.toList[j]? = some s[j]:=by
  rw[F1 hj]; rfl
 rw[this]at h;cases h;rfl
theorem Yk (s:ByteArray):s.size=s.data.toList.length:=by simp
theorem Rs {nm:ByteArray} (h:AF nm=true):∀c∈nm.data.toList,DQ (c.toNat:Int)=true:=by
 intro c hc;obtain⟨j,hj,aa⟩:=Hi hc;have h2:Fz nm nm.size=true:=by
  unfold AF at h;simp only[FZ] at h;exact h.2
 unfold Fz at h2;rw[GR]at h2;have h3:=h2 j (by rw[List.mem_range,Yk]; exact hj);rw[Yj nm j c (by rw[F1 hj,aa])]at h3;exact h3
def tO (post:List UInt8):Prop:=post=[]∨∃c r,post=c::r/\(c=41∨c=44)
def JP (x:List UInt8):Prop:=x=[]∨∃c r,x=c::r/\(c=41∨c=44∨c=61)
def Mz (x:List UInt8):Prop:=x=[]∨∃c r,x=c::r/\DQ (c.toNat:Int)=false
theorem JP.ends {x:List UInt8} (h:JP x):Mz x:=by
 rcases h with h|⟨c,r,e,h⟩
 ·exact Ae h
 ·refine Ad ⟨c,r,e,?_⟩;rcases h with rfl|rfl|rfl<;>decide
theorem Rt:∀(n m:List UInt8) {x y:List UInt8},(∀c∈n,DQ (c.toNat:Int)=true)->(∀c∈m,DQ (c.toNat:Int)=true)->Mz x->Mz y->n++x=m++y->n=m/\x=y
 | [],[],x,y,_,_,_,_,h=>⟨rfl,by simpa using h⟩
 | [],c::m,x,y,_,hm,hx,_,h=>by
  exfalso;have h:x=c::(m++y):=by simpa using h
  have h1:=hm c (by simp);rcases hx with hx|⟨d,r,e,h2⟩
  ·rw[hx]at h; cases h
  ·rw[e]at h;injection h with h3 b
   rw[<-h3,h2]at h1;cases h1
 |c::n,[],x,y,a,_,_,hy,h=>by
  exfalso;have h:c::(n++x)=y:=by simpa using h
  have h1:=a c (by simp);rcases hy with hy|⟨d,r,e,h2⟩
  ·rw[hy]at h; cases h
  ·rw[e]at h;injection h with h3 b
   rw[h3,h2]at h1;cases h1
 |c::n,d::m,x,y,a,hm,hx,hy,h=>by
  have h:c::(n++x)=d::(m++y):=by simpa using h
  injection h with h1 h2
  obtain⟨f,g⟩:=Rt n m (λz hz=>a z (by simp[hz])) (λz hz=>hm z (by simp[hz])) hx hy h2;exact⟨by rw[h1,f],g⟩
theorem MA (h:Af [(⟨s,l⟩:Tm)]=0):Af l=0:=by
 simp only[Af] at h;repeat' split at h
 all_goals first|(cases h; done)|assumption|simp_all
theorem Ru (h:Af [(⟨s,l⟩:Tm)]=0):AF s=true:=by
 simp only[Af] at h;repeat' split at h
 all_goals first|(cases h; done)|assumption|simp_all
def Rv (t:Tm):Prop:=∀(u:Tm) (x y:List UInt8),Af [t]=0->Af [u]=0->JP x->JP y->AK [t]++x=AK [u]++y->t=u/\x=y
theorem Rw:∀(l:List Tm),(∀t∈l,Rv t)->∀(k:List Tm) (x y:List UInt8),l≠[]->k≠[]->Af l=0->Af k=0->AK l++41::x=AK k++41::y->l=k/\x=y
 | [],_,k,x,y,h,_,_,_,_=>absurd rfl h
 |t::r,e,[],x,y,_,h,_,_,_=>absurd rfl h
 |t::r,e,u::q,x,y,_,_,he,d,a=>by
  have b:Af [t]=0/\Af r=0:=by
   rw[FD]at he;split at he
   ·rename_i h; exact⟨h,he⟩
   ·rename_i h; exact absurd he h
  have c:Af [u]=0/\Af q=0:=by
   rw[FD]at d;split at d
   ·rename_i h; exact⟨h,d⟩
   ·rename_i h; exact absurd d h
  have T:=e t (by simp);by_cases f:r=[]
  ·subst f;by_cases hq:q=[]
   ·subst hq;obtain⟨h1,h2⟩:=T u _ _ b.1 c.1 (Ad ⟨41,x,rfl,by simp⟩) (Ad ⟨41,y,rfl,by simp⟩) a;injection h2 with _ h2
    exact⟨by rw[h1],h2⟩
   ·rw[JN u q hq,DN,Bj]at a;obtain⟨_,h2⟩:=T u _ _ b.1 c.1 (Ad ⟨41,x,rfl,by simp⟩) (Ad ⟨44,_,rfl,by simp⟩) a;injection h2 with h2 _
    cases h2
  ·rw[JN t r f,DN,Bj]at a;by_cases hq:q=[]
   ·subst hq;obtain⟨_,h2⟩:=T u _ _ b.1 c.1 (Ad ⟨44,_,rfl,by simp⟩) (Ad ⟨41,y,rfl,by simp⟩) a;injection h2 with h2 _
    cases h2
   ·rw[JN u q hq,DN,Bj]at a;obtain⟨h1,h2⟩:=T u _ _ b.1 c.1 (Ad ⟨44,_,rfl,by simp⟩) (Ad ⟨44,_,rfl,by simp⟩) a;injection h2 with _ h2
    obtain⟨h3,g⟩:=Rw r (λt ht=>e t (by simp[ht])) q x y f hq b.2 c.2 h2;exact⟨by rw[h1,h3],g⟩
theorem Yl (t:Tm):Rv t:=by
 induction t using Tm.ind with
 |h s l i=>
  rintro⟨s',k⟩ x y he d hx hy f;have nm:AF s=true:=Ru he;have ab:AF s'=true:=Ru d;rw[IX,IX,DN,DN]at f;have ends:∀(l:List Tm) (x:List UInt8),JP x->Mz ((if l.isEmpty=true then [] else 40::(AK l++[41]))++x):=λl x hx=>by
   by_cases g:l.isEmpty=true
   ·rw[Ao g]; exact hx.ends
   ·rw[Ah g]; exact Ad ⟨40,_,rfl,by decide⟩
  obtain⟨h1,h2⟩:=Rt _ _ (Rs nm) (Rs ab) (ends l x hx) (ends k y hy) f;have hs:s=s':=by
   obtain⟨⟨a⟩⟩:=s;obtain⟨⟨b⟩⟩:=s';have:a=b:=h1;rw[this]
  have aa:∀ {x z:List UInt8},JP x->x≠40::z:=fun {x z} hx h=>by
   rcases hx with hx|⟨c,r,e,hc⟩
   ·rw[hx]at h; cases h
   ·rw[e]at h;injection h with h _
    rw[h]at hc;revert hc;decide
  have j:Af l=0:=(MA he);have m:Af k=0:=(MA d);cases l with
  |nil=>
   cases k with
   |nil=>exact⟨by rw[hs],by simpa using h2⟩
   |cons u k=>exact absurd (by simpa using h2) (aa (z:=AK (u::k)++41::y) hx)
  |cons t l=>
   cases k with
   |nil=>exact absurd (by simpa using h2.symm) (aa (z:=AK (t::l)++41::x) hy)
   |cons u k=>have h3:AK (t::l)++41::x=AK (u::k)++41::y:=(by simpa using h2);obtain⟨n,o⟩:=Rw (t::l) i (u::k) x y (by simp) (by simp) j m h3;exact⟨by rw[hs,n],o⟩
theorem Ym {u:Tm} (ht:Af [t]=0) (hu:Af [u]=0) (h:AK [t]=AK [u]):t=u:=(Yl t u [] [] ht hu (Ae rfl) (Ae rfl) (by rw[h])).1
theorem Tryz.infoByte:(prog.info? 5).map (λi=>(i.zero,i.size,i.bytes))=some (some (.int .u8 0),1,1):=by kernel_rfl
theorem Tryz.sizeBuilder:(prog.info? 189).map (·.size)=some 2:=by kernel_rfl
theorem Tryz.liesBuilder:liesAt prog prog.depth 189 (2 / prog.cellsOf 189) 0 189 1=true:=by kernel_rfl
def Dk (w:World) (B b:Nat) (bs:List Value) (v:Value):Prop:=
 B<=b/\(∃p,(p=.pointer none∨p=zC b)/\w.heap[b]? = some (.cells #[p,v] 189 (0,0)))/\w.ownsRow B 5 1 v bs.length bs
def Dq (w w':World) (b:Nat) (v v':Value):Prop:=
 w'.os=w.os/\w'.tape=w.tape/\w'.output=w.output/\w.heap.size<=w'.heap.size/\(∀k,k<w.heap.size->k≠b->some k≠v.ownBlock->w'.heap[k]? = w.heap[k]?)/\(∀k,v'.ownBlock=some k->v.ownBlock=some k∨w.heap.size<=k)
theorem Dq.refl (w:World) (b:Nat) (v:Value):Dq w w b v v:=⟨rfl,rfl,rfl,Al _,λ_ _ _ _=>rfl,λ_ h=>Ae h⟩
theorem Dq.trans {v1 v2:Value} (h:Dq w w1 b v v1) (h1:Dq w1 w2 b v1 v2):Dq w w2 b v v2:=by
 obtain⟨a1,a2,a3,a4,a5,a⟩:=h;obtain⟨c1,c2,c3,c,c5,d⟩:=h1;refine⟨c1.trans a1,c2.trans a2,c3.trans a3,Bf a4 c,λk hk hb hv=>?_,λk hk=>?_⟩
 ·refine(c5 k (B7 hk a4) hb (λe=>?_)).trans (a5 k hk hb hv);rcases a k e.symm with h|h
  ·exact hv h.symm
  ·omega
 ·rcases d k hk with h|h
  ·exact a k h
  ·exact Ad (Bf a4 h)
theorem Dq.of_below (hb:Below w.heap.size w w') (b:Nat) (v:Value):Dq w w' b v v:=⟨hb.os,hb.tape,hb.output,hb.size,λk hk _ _=>hb.block k hk,λ_ h=>Ae h⟩
theorem Rx {a:List Value} (h:Dk w B b a v):v.ownBlock≠some b:=by
 obtain⟨_,⟨p,_,hb⟩,aa⟩:=h;exact Lib.ownBlock_ne aa hb (by decide)
theorem Ry (B b:Nat) (a:List Value) (v:Value) (w:World) (h:Dk w B b a v):
  Calls prog 156 #[zC b] w λe w'=>e=.returned (.tuple #[])/\w'.heap[b]? = some (.cells #[zC b,v] 189 (0,0))/\w'.ownsRow B 5 1 v a.length a/\Dq w w' b v v:=by
 obtain⟨j,hj,g⟩:=Option.map_eq_some_iff.1 Tryz.sizeBuilder;have i:=Rx h;obtain⟨hB,⟨p,hp,ab⟩,aa⟩:=h;have h0:w.cell? (zD b 0)=some p:=by rw[Lib.cell_of_heap ab]; rfl
 have d:w.shape? b=some (189,2):=by simp[World.shape?,ab]
 have ah:w.frozen? (zD b 0)=false:=Lib.frozen_of_heap ab 0;rcases hp with rfl|rfl
 ·have l:Hid ((w.setCell (zD b 0) (zC b)).heap[b]? = some (.cells #[zC b,v] 189 (0,0))/\(w.setCell (zD b 0) (zC b)).ownsRow B 5 1 v a.length a/\Dq w (w.setCell (zD b 0) (zC b)) b v v):=(by refine⟨by simp[World.setCell,Jq,ab],?_,rfl,rfl,rfl,by simp[World.setCell],λk hk c _=>An _ _ _ _ (by simpa using c),λ_ h=>Ae h⟩;refine aa.kept (w':=w.setCell (zD b 0) (zC b)) (row:=some b) ⟨rfl,rfl,rfl,by simp[World.setCell],λk hk c=>An _ _ _ _ (by simp at c; simpa using c)⟩ (Ad i));have f:=Aa aa;clear aa;go_enter func156,ntmps156;go_wp2_with fail;rw[Lib.run_to_unsafe w (zD b 0) underlying186 underlying238 hj (by rw[g]; decide) d (Nat.zero_lt_succ 1)];simp only[Result.andThen];rw[Oper.upon_value];go_wp2_with fail;rw[run_callFunc_extern func162 (by kernel_rfl) (by kernel_rfl) (by kernel_rfl) (e:=Extern.AbiNoEscape.same) (by kernel_rfl)];rw[Lib.run_noEscape];simp only[Result.andThen];rw[Oper.upon_value];go_wp2_with fail;rw[Lib.run_from_unsafe w (zD b 0) underlying238 underlying186 hj d Tryz.liesBuilder];simp only[Result.andThen];rw[Oper.upon_value];go_wp2_with fail;go_end0
  exact⟨rfl,l.o⟩
 ·have f:=Aa aa;go_enter func156,ntmps156;go_wp2_with fail;rw[Lib.run_neq_ptr_same w _ underlying186 hj];go_wp2_with fail;go_end0
  exact⟨rfl,ab,f.o,Dq.refl _ _ _⟩
theorem K8 {o:Obj} (h:w.heap[b]? = some o):b<w.heap.size:=by
 apply EX;intro hn;rw[Jo (by omega)]at h; cases h
theorem Rz {f bs':List Value} {a:Value} (g:B<=b) (ah:B<=w.heap.size) (d:w.heap[b]? = some (.cells #[zC b,v] 189 (0,0))) (h:w.ownsRow B 5 1 v f.length f) (aa:w2.ownsRow B 5 1 a bs'.length bs') (c:w.grownBy w2 v.ownBlock)
  (i:∀k,a.ownBlock=some k->v.ownBlock=some k∨w.heap.size<=k):Dk (w2.setCell (zD b 1) a) B b bs' a/\Dq w (w2.setCell (zD b 1) a) b v a:=by
 have j:v.ownBlock≠some b:=Lib.ownBlock_ne h d (by decide);have l:=K8 d;have hb2:w2.heap[b]? = some (.cells #[zC b,v] 189 (0,0)):=by rw[c.block b l (λe=>j e.symm)]; exact d
 have m:a.ownBlock≠some b:=Lib.ownBlock_ne aa hb2 (by decide);refine⟨⟨g,⟨_,Ad rfl,by simp[World.setCell,Jq,hb2]⟩,?_⟩,c.os,c.tape,c.output,by simp[World.setCell]; exact c.size,λk hk ab hv=>?_,i⟩
 ·exact aa.kept (w':=w2.setCell (zD b 1) a) (row:=some b) ⟨rfl,rfl,rfl,by simp[World.setCell],λk hk ab=>An _ _ _ _ (by simp at ab; simpa using ab)⟩ (Ad m)
 ·rw[An _ _ _ _ (by simpa using ab)]; exact c.block k hk hv
theorem Yn {b:Value} {ty:TypeId} (aa:w.ownsRow B 5 1 v n xs) (ak:n+s.size<=2000000000) (c:(Builtin.append_ #[187,9] ty #[v,.string s]).run prog w=.ok b w')
  (i:b=zB↔v=zB/\s.size=0):∀k,b.ownBlock=some k->v.ownBlock=some k∨w.heap.size<=k:=by
 obtain⟨i0,hi,e,d,f⟩:=DO Tryz.infoByte;have ab:Src prog i0.size 9 (.string s) s.size (byteCells s) w:=by rw[d]; exact Src.ofString w underlying9 s
 have l:=aa.1;intro k hk;rcases aa.2 with ⟨rfl,rfl⟩|⟨g,cap,cur,rfl,al,h,an,ao,hcs,aq⟩
 ·by_cases h0:s.size=0
  ·have:=i.2 ⟨rfl,h0⟩;rw[this]at hk; cases hk
  ·have a:=run_append_grow_src (P:=prog) w 187 9 ty 5 i0 (.int .u8 0) underlying187 hi e none 0 0 [] (by simpa using run_firstCells_none w.drew i0.size 0 0 0) (.string s) s.size (byteCells s) ab (by omega) (by omega) (by rw[f]; have:=growslice_fits (need:=0+s.size) (old:=0) (bytes:=1) (by omega) (by omega); omega);rw[c]at a;simp only[Result.ok.injEq] at a;rw[a.1]at hk;simp[Value.ownBlock]at hk;right; omega
 ·by_cases m:n+s.size<=cap
  ·have hc:∀j,j<(byteCells s).length->(w.cell? ⟨g,0+n*i0.size+j,none⟩).isSome=true:=λj hj=>by
    rw[byteCells_length]at hj;rw[Lib.cell_of_heap h,d];simp; omega
   have o:∀j,j<(byteCells s).length->w.frozen? ⟨g,0+n*i0.size+j,none⟩=false:=λj hj=>Lib.frozen_of_heap h _;have a:=run_append_room_src (P:=prog) w 187 9 ty 5 i0 underlying187 hi g 0 n cap (.string s) s.size (byteCells s) ab m hc o;rw[c]at a;simp only[Result.ok.injEq] at a;rw[a.1]at hk;simp[Value.ownBlock]at hk;left; simp[Value.ownBlock,hk]
  ·have q:=run_firstCells_some (P:=prog) w.drew i0.size n (zD g 0) n cap xs (by rw[d]; exact l) (λj u hj=>by have:=aa.cells (g:=g) rfl j u hj; simpa using this);have a:=run_append_grow_src (P:=prog) w 187 9 ty 5 i0 (.int .u8 0) underlying187 hi e (some (zD g 0)) n cap xs q (.string s) s.size (byteCells s) ab (by omega) (by omega) (by rw[f]; have:=growslice_fits (need:=n+s.size) (old:=cap) (bytes:=1) (by omega) (by omega); omega);rw[c]at a;simp only[Result.ok.injEq] at a;rw[a.1]at hk;simp[Value.ownBlock]at hk;right; omega
theorem OC (B b:Nat) (a:List Value) (v:Value) (c:Int) (w:World) (h:Dk w B b a v) (hlen:a.length<=1000000000) (r:B<=w.heap.size):
  Calls prog 143 #[zC b,.int .u8 c] w λe w'=>e=.returned .nilIface/\∃j,Dk w' B b (a++[.int .u8 c]) j/\Dq w w' b v j:=by
 obtain⟨i0,hi,s,t,u⟩:=DO Tryz.infoByte;have y:=h.1;have H:=Aa h;clear h;go_enter func143,ntmps143;go_wp2_with (go_at_call 156; refine(Ry B b a v _ H.o).mono ?_);rintro e w1 ⟨rfl,d,aa,f⟩;have c0:w1.cell? (zD b 0)=some (zC b):=by rw[Lib.cell_of_heap d]; rfl
 have c1:w1.cell? (zD b 1)=some v:=by rw[Lib.cell_of_heap d]; rfl
 have z:=K8 d;have A:v.ownBlock≠some b:=Lib.ownBlock_ne aa d (by decide);have C:B<=w1.heap.size:=Bf r f.2.2.2.1;obtain⟨g,cap,w2,l,ab,m,n,_⟩:=run_append_lies (P:=prog) (w:=w1.alloc (zh #[.int .u8 c] 5)) 187 187 B 5 i0 _ 1 1 underlying187 hi s t u rfl (by decide) v a.length a (aa.alloc _)
  (zD w1.heap.size 0) 1 1 [.int .u8 c] rfl (cell_one_new _ _ _) (λx hx=>by simp at hx; subst hx; rfl) (by decide) (by unfold maxLen; omega) (by omega) (by simp; omega) _ rfl
 have i:w1.grownBy w2 v.ownBlock:=JJ (IW ((Ag _ _).alloc (Al _) _) v.ownBlock) m (λk hk=>Ae hk);have q := Aa (Rz (bs' := a ++ [.int .u8 c]) y C d aa (by simpa using ab) i (λk hk => by
  simp[Value.ownBlock]at hk;subst hk;rcases n with e|e
  ·exact Ae e
  ·right; simp at e; omega))
 have hb2:w2.heap[b]? = some (.cells #[zC b,v] 189 (0,0)):=by rw[i.block b z (λe=>A e.symm)]; exact d
 have d0:w2.cell? (zD b 0)=some (zC b):=by rw[Lib.cell_of_heap hb2]; rfl
 have d1:w2.cell? (zD b 1)=some v:=by rw[Lib.cell_of_heap hb2]; rfl
 have f1:w2.frozen? (zD b 1)=false:=Lib.frozen_of_heap hb2 1;have D:=Aa l;have E:=Aa f;clear l aa ab m i n d f hb2;go_wp2_with (at_builtin; refine Gt rfl _ _ _ _ rfl rfl rfl D.o ?_);go_ret;exact⟨rfl,_,q.o.1,E.o.trans q.o.2⟩
theorem Yo (B b:Nat) (a:List Value) (v:Value) (s:ByteArray) (w:World) (h:Dk w B b a v) (hlen:a.length+s.size<=1000000000) (t:B<=w.heap.size):
  Calls prog 142 #[zC b,.string s] w λe w'=>e=.returned (.tuple #[zA s.size,.nilIface])/\∃j,Dk w' B b (a++Lib.strCells s) j/\Dq w w' b v j:=by
 obtain⟨i0,hi,u,x,y⟩:=DO Tryz.infoByte;have z:=h.1;have H:=Aa h;clear h;go_enter func142,ntmps142;go_wp2_with (go_at_call 156; refine(Ry B b a v _ H.o).mono ?_);rintro e w1 ⟨rfl,c,aa,d⟩;have c0:w1.cell? (zD b 0)=some (zC b):=by rw[Lib.cell_of_heap c]; rfl
 have c1:w1.cell? (zD b 1)=some v:=by rw[Lib.cell_of_heap c]; rfl
 have A:=K8 c;have C:v.ownBlock≠some b:=Lib.ownBlock_ne aa c (by decide);have k:B<=w1.heap.size:=Bf t d.2.2.2.1;obtain⟨v2,w2,f,ab,i,l⟩:=Lib.run_append_own_string (P:=prog) w1 B 187 9 187 5 i0 underlying187 underlying9 hi u x y v a.length a aa s (by unfold maxLen; omega) (by omega) k;have m:=Yn aa (by omega) f l;have n:=Aa (Rz (bs':=a++Lib.strCells s) z k c aa (by simpa [Lib.strCells_length] using ab) i m);have hb2:w2.heap[b]? = some (.cells #[zC b,v] 189 (0,0)):=by rw[i.block b A (λe=>C e.symm)]; exact c
 have d0:w2.cell? (zD b 0)=some (zC b):=by rw[Lib.cell_of_heap hb2]; rfl
 have d1:w2.cell? (zD b 1)=some v:=by rw[Lib.cell_of_heap hb2]; rfl
 have f1:w2.frozen? (zD b 1)=false:=Lib.frozen_of_heap hb2 1;obtain⟨q,r,cap,rfl⟩:∃q r cap,v2=.slice q r cap:=by
  rcases ab.2 with ⟨hv,_⟩|⟨g,cap,cur,hv,_⟩
  ·exact⟨_,_,_,hv⟩
  ·exact⟨_,_,_,hv⟩
 have D:=Aa f;have E:=Aa d;clear f aa ab i m l c d hb2;go_wp2_with (at_builtin; refine Gt rfl _ _ _ _ rfl rfl rfl D.o ?_);go_ret2
 exact⟨rfl,_,n.o.1,E.o.trans n.o.2⟩
structure Lm where
 kind:Int
 idx:Int
 subs:List Lm
abbrev zE (t:Lm) (a:Option Addr) (c:Nat):Array Value:=#[zA t.kind,zA t.idx,.slice a t.subs.length c]
theorem Lm.ind {P:Lm->Prop} (h:∀k x l,(∀y∈l,P y)->P ⟨k,x,l⟩) (t:Lm):P t:=
 Lm.rec (motive_1:=P) (motive_2:=λl=>∀x∈l,P x) (λk x l b=>h k x l b) (λx hx=>by cases hx)
  (λa l ha c x hx=>by
   rcases Bh.1 hx with e|e
   ·subst e; exact ha
   ·exact c x e) t
theorem Lm.indL {P:List Lm->Prop} (h0:P []) (h:∀k x l r,P l->P r->P (⟨k,x,l⟩::r)) (l:List Lm):P l:=
 Lm.rec_1 (motive_1:=λt=>P t.subs) (motive_2:=P) (λ_ _ _ b=>b) h0 (λa l ha c=>by obtain⟨k,x,m⟩:=a; exact h k x m l ha c) l
def EN (w:World) (X:Nat->Prop):Nat->Nat->List Lm->Prop
 |_,_,[]=>True
 |b,o,⟨k,x,l⟩::r=>X b/\w.cell? (zD b o)=some (zA k)/\w.cell? ⟨b,o+1,none⟩=some (zA x)/\
   (∃a c,w.cell? ⟨b,o+2,none⟩=some (.slice a l.length c)/\l.length<=9223372036854775807/\(l=[]∨∃b' o',a=some (zD b' o')/\EN w X b' o' l))/\EN w X b (o+3) r
def CR (w:World) (X:Nat->Prop) (a:Option Addr) (l:List Lm):Prop:=l.length<=9223372036854775807/\(l=[]∨∃b o,a=some (zD b o)/\EN w X b o l)
def MV (w:World) (X:Nat->Prop) (v:Value) (t:Lm):Prop:=∃a c,v=.agg (zE t a c)/\CR w X a t.subs
theorem Yp (h:∀b,X b->w'.heap[b]? = w.heap[b]?) (l:List Lm):∀b o,EN w X b o l->EN w' X b o l:=by
 induction l using Lm.indL with
 |h0=>intro b o _; simp[EN]
 |h k x l r aa ab=>
  intro b o d;simp only[EN] at d ⊢;obtain⟨hx,h1,e,⟨a,c,h2,f,h3⟩,g⟩:=d;refine⟨hx,by rw[Ce (h b hx)]; exact h1,by rw[Ce (h b hx)]; exact e,⟨a,c,by rw[Ce (h b hx)]; exact h2,f,?_⟩,ab _ _ g⟩;rcases h3 with h3|⟨b',o',h3,i⟩
  ·exact Ae h3
  ·exact Ad ⟨b',o',h3,aa _ _ i⟩
theorem Yq (h:∀b,X b->b<w.heap.size->Y b) (l:List Lm):∀b o,EN w X b o l->EN w Y b o l:=by
 induction l using Lm.indL with
 |h0=>intro b o _; simp[EN]
 |h k x l r aa ab=>
  intro b o d;simp only[EN] at d ⊢;obtain⟨hx,h1,f,⟨a,c,h2,g,h3⟩,i⟩:=d;have hb:b<w.heap.size:=by
   apply EX;intro hn;have e:w.heap[b]? = none:=Jo (by omega);simp[World.cell?,e]at h1
  refine⟨h b hx hb,h1,f,⟨a,c,h2,g,?_⟩,ab _ _ i⟩;rcases h3 with h3|⟨b',o',h3,j⟩
  ·exact Ae h3
  ·exact Ad ⟨b',o',h3,aa _ _ j⟩
theorem CR.kept {a:Option Addr} {l:List Lm} (h:CR w X a l) (hk:∀b,X b->w'.heap[b]? = w.heap[b]?):CR w' X a l:=by
 obtain⟨c,h⟩:=h;refine⟨c,?_⟩;rcases h with h|⟨b,o,e,h⟩
 ·exact Ae h
 ·exact Ad ⟨b,o,e,Yp hk _ _ _ h⟩
theorem CR.mono {a:Option Addr} {l:List Lm} (h:CR w X a l) (hk:∀b,X b->b<w.heap.size->Y b):CR w Y a l:=by
 obtain⟨c,h⟩:=h;refine⟨c,?_⟩;rcases h with h|⟨b,o,e,h⟩
 ·exact Ae h
 ·exact Ad ⟨b,o,e,Yq hk _ _ _ h⟩
theorem CR.below {a:Option Addr} {l:List Lm} (h:CR w X a l) (hb:Below B w w') (c:∀b,X b->b<w.heap.size->b<B):CR w' X a l:=by
 have h1:CR w (λb=>X b/\b<B) a l:=h.mono λb hx hs=>⟨hx,c b hx hs⟩;have h2:CR w' (λb=>X b/\b<B) a l:=h1.kept λb hx=>hb.block b hx.2;exact h2.mono λb hx _=>hx.1
theorem MV.kept {t:Lm} (h:MV w X v t) (hk:∀b,X b->w'.heap[b]? = w.heap[b]?):MV w' X v t:=by
 obtain⟨a,c,e,h⟩:=h;exact⟨a,c,e,h.kept hk⟩
theorem MV.mono {t:Lm} (h:MV w X v t) (hk:∀b,X b->b<w.heap.size->Y b):MV w Y v t:=by
 obtain⟨a,c,e,h⟩:=h;exact⟨a,c,e,h.mono hk⟩
theorem MV.below {t:Lm} (h:MV w X v t) (hb:Below B w w') (d:∀b,X b->b<w.heap.size->b<B):MV w' X v t:=by
 obtain⟨a,c,e,h⟩:=h;exact⟨a,c,e,h.below hb d⟩
theorem MV.alloc {t:Lm} (h:MV w X v t) (o:Obj):MV (w.alloc o) X v t:=
 h.below ((Ag _ _).alloc (Al _) o) (λ_ _ h=>h)
theorem MV.later {t:Lm} (h:MV w X v t) (hb:Below w.heap.size w w'):MV w' X v t:=h.below hb (λ_ _ h=>h)
theorem CR.later {a:Option Addr} {l:List Lm} (h:CR w X a l) (hb:Below w.heap.size w w'):CR w' X a l:=h.below hb (λ_ _ h=>h)
theorem Yr:∀(l:List Lm) (b o:Nat),EN w X b o l->∀i (h:i<l.length),
  X b/\w.cell? ⟨b,o+i*3,none⟩=some (zA l[i].kind)/\w.cell? ⟨b,o+i*3+1,none⟩=some (zA l[i].idx)/\∃a c,w.cell? ⟨b,o+i*3+2,none⟩=some (.slice a l[i].subs.length c)/\CR w X a l[i].subs:=by
 intro l;induction l with
 |nil=>intro b o _ i h; simp at h
 |cons t r e=>
  intro b o d i h;obtain⟨s,x,k⟩:=t;simp only[EN] at d;obtain⟨hx,h1,aa,⟨a,c,h2,h3⟩,f⟩:=d;cases i with
  |zero=>exact⟨hx,h1,aa,a,c,h2,h3⟩
  |succ i=>have:=e b (o+3) f i (by simpa using h);simp only[FX];rw[show o+(i+1)*3=o+3+i*3 by omega];exact this
theorem CR.get {a:Option Addr} {l:List Lm} (h:CR w X a l) (hb:Below B w wr) (c:∀b,X b->b<w.heap.size->b<B) (k:Nat) (hk:k<l.length):
  ∃b o a' c',a=some (zD b o)/\wr.cell? ⟨b,o+k*3,none⟩=some (zA l[k].kind)/\wr.cell? ⟨b,o+k*3+1,none⟩=some (zA l[k].idx)/\wr.cell? ⟨b,o+k*3+2,none⟩=some (.slice a' l[k].subs.length c')/\MV wr X (.agg (zE l[k] a' c')) l[k]:=by
 have h':=h.below hb c;obtain⟨_,h1⟩:=h';rcases h1 with h1|⟨b,o,e,h1⟩
 ·subst h1; simp at hk
 ·obtain⟨_,h2,aa,a',c',h3,d⟩:=Yr _ _ _ h1 k hk;exact⟨b,o,a',c',e,h2,aa,h3,a',c',rfl,d⟩
theorem RA (n:Nat):(Lib.decDigits n).length<=n+1:=by
 induction n using Nat.strongRecOn with
 |ind n a=>
  rw[Lib.decDigits];by_cases h:n<10
  ·rw[EY h]; simp
  ·rw[dif_neg h];have:=a (n / 10) (by omega);simp only[Cv,Bg,DB];omega
def Ek (w:World) (X:Nat->Prop):List Lm->List Value->Prop
 | [],xs=>xs=[]
 |t::l,xs=>∃a c r,xs=zA t.kind::zA t.idx::.slice a t.subs.length c::r/\CR w X a t.subs/\Ek w X l r
theorem Ek.len:∀ {l:List Lm} {xs:List Value},Ek w X l xs->xs.length=l.length*3
 | [],xs,h=>by simp[Ek] at h; simp[h]
 |t::l,xs,h=>by
  obtain⟨a,c,r,rfl,_,h⟩:=h;simp only[Bg];rw[Ek.len h]; omega
theorem Ek.append:∀ {l k:List Lm} {xs b:List Value},Ek w X l xs->Ek w X k b->Ek w X (l++k) (xs++b)
 | [],k,xs,b,h,h'=>by simp[Ek] at h; subst h; simpa using h'
 |t::l,k,xs,b,h,h'=>by
  obtain⟨a,c,r,rfl,hs,h⟩:=h;exact⟨a,c,r++b,rfl,hs,Ek.append h h'⟩
theorem Ek.imp (hs:∀a l,CR w X a l->CR w' Y a l):∀ {l:List Lm} {xs:List Value},Ek w X l xs->Ek w' Y l xs
 | [],xs,h=>h
 |t::l,xs,h=>by
  obtain⟨a,c,r,e,h1,h⟩:=h;exact⟨a,c,r,e,hs _ _ h1,Ek.imp hs h⟩
theorem Ys (b:Nat) (hb:Y b):∀(l:List Lm) (xs:List Value) (o:Nat),Ek w X l xs->(∀a k,CR w X a k->CR w' Y a k)->(∀j u,xs[j]? = some u->w'.cell? ⟨b,o+j,none⟩=some u)->EN w' Y b o l:=by
 intro l;induction l with
 |nil=>intro xs o _ _ _; simp[EN]
 |cons t r d=>intro xs o h hs hc;obtain⟨s,x,k⟩:=t;obtain⟨a,c,e,rfl,h1,h2⟩:=h;simp only[EN];obtain⟨h3,f⟩:=hs _ _ h1;refine⟨hb,hc 0 _ rfl,hc 1 _ rfl,⟨a,c,hc 2 _ rfl,h3,f⟩,d e (o+3) h2 hs λj u hj=>?_⟩;have:=hc (j+3) u (by simpa using hj);rwa [show o+(j+3)=o+3+j by omega] at this
structure E5 (w:World) (N:Nat) (T:Nat) (Y:Nat->Prop) (v:Value) (l:List Lm) (xs:List Value):Prop where
 own:w.ownsRow N T 3 v l.length xs
 row:Ek w (λb=>Y b∨(N<=b/\some b≠v.ownBlock)) l xs
theorem E5.start (w:World) (N T:Nat) (Y:Nat->Prop):E5 w N T Y zB [] []:=⟨GT w N T 3,rfl⟩
theorem E5.below {l:List Lm} (h:E5 w N T Y v l xs) (hb:Below w.heap.size w w'):E5 w' N T Y v l xs:=
 ⟨h.own.kept (w' := w') (row := none) ⟨hb.os, hb.tape, hb.output, hb.size, λj hj _ => hb.block j hj⟩ (by rcases Kz (Value.ownBlock v) with h | ⟨x, h⟩; exact Ae h; exact Ad (by rw [h]; simp)),
  h.row.imp λa l h=>h.later hb⟩
theorem E5.ne {l:List Lm} (h:E5 w N T Y v l xs) (hb:b<N):some b≠v.ownBlock:=λe=>by
 have:=(h.own.lt b e.symm).1; omega
theorem E5.push {l:List Lm} (h:E5 w N T Y v l xs) (hN:N<=w.heap.size) (i:∀b,Y b->b<N) (hb:Below w.heap.size w w1) {s s2:Int} {a:Option Addr} {c:Nat} {t:Lm}
  (ht:MV w1 (λb=>Y b∨w.heap.size<=b) (.agg #[zA s,zA s2,.slice a n c]) t) (o:Obj) (k:w2=w1.alloc o) 
  (aa:w3.ownsRow N T 3 (.slice (some (zD g 0)) (l.length+1) cap) (l.length+1) (xs++[zA s,zA s2,.slice a n c])) (j:w2.grownBy w3 v.ownBlock) (ab:v.ownBlock=some g∨g=w2.heap.size):
  E5 w3 N T Y (.slice (some (zD g 0)) (l.length+1) cap) (l++[t]) (xs++[zA s,zA s2,.slice a n c]):=by
 subst k;have d:=h.own.lt;refine⟨by simpa using aa,?_⟩;have ae:w1.heap.size<=(w1.alloc o).heap.size:=by simp
 have af:=hb.size;have ag:N<=g:=by
  rcases ab with e|e
  ·exact(d g e).1
  ·simp at e; omega
 refine Ek.append (h.row.imp λa' k' hs=>?_) ?_
 ·have h1:CR w (λb=>(Y b∨(N<=b/\some b≠v.ownBlock))/\b<w.heap.size) a' k':=hs.mono λb h1 h2=>⟨h1,h2⟩;have h2:CR w3 (λb=>(Y b∨(N<=b/\some b≠v.ownBlock))/\b<w.heap.size) a' k':=h1.kept λb hx=>by
   have f:some b≠v.ownBlock:=by
    rcases hx.1 with hy|hy
    ·exact h.ne (i b hy)
    ·exact hy.2
   rw[j.block b (by simp; omega) f,Ay _ _ _ (by omega),hb.block b hx.2]
  refine h2.mono λb hx _=>?_;rcases hx.1 with hy|hy
  ·exact Ae hy
  ·refine Ad ⟨hy.1,λe=>?_⟩;simp[Value.ownBlock]at e;rcases ab with e'|e'
   ·exact hy.2 (by rw[e',e])
   ·simp at e'; omega
 ·obtain⟨a2,c2,e,hs⟩:=ht;simp at e;obtain⟨rfl,rfl,rfl,rfl,rfl⟩:=e;refine⟨a,c,[],rfl,?_,rfl⟩;have h1:CR w1 (λb=>(Y b∨w.heap.size<=b)/\b<w1.heap.size) a t.subs:=hs.mono λb h1 h2=>⟨h1,h2⟩;have h2:CR w3 (λb=>(Y b∨w.heap.size<=b)/\b<w1.heap.size) a t.subs:=h1.kept λb hx=>by
   have f:some b≠v.ownBlock:=by
    rcases hx.1 with hy|hy
    ·exact h.ne (i b hy)
    ·intro e; have:=(d b e.symm).2; omega
   rw[j.block b (by simp; omega) f,Ay _ _ _ hx.2]
  refine h2.mono λb hx _=>?_;rcases hx.1 with hy|hy
  ·exact Ae hy
  ·refine Ad ⟨by omega,λe=>?_⟩;simp[Value.ownBlock]at e;rcases ab with e'|e'
   ·have:=(d g e').2; omega
   ·simp at e'; omega
theorem E5.setCell {l:List Lm} (h:E5 w N T Y v l xs) (hb:b<N) (d:¬Y b) (u:Value):E5 (w.setCell (zD b i) u) N T Y v l xs:=
 ⟨ownsRow_setCell_below h.own (by simpa using hb) u, h.row.imp λa k hs => hs.kept λc hc => An _ _ _ _ (by
  simp;rcases hc with hc|hc
  ·intro e; subst e; exact d hc
  ·omega)⟩
theorem E5.sl {l:List Lm} (h:E5 w N T Y v l xs):∃a c,v=.slice a l.length c/\CR w (λb=>Y b∨N<=b) a l:=by
 have aa:l.length<=9223372036854775807:=by
  rcases h.own.2 with ⟨_,h0⟩|⟨g,cap,cur,_,_,_,h1,h2,_⟩
  ·omega
  ·unfold maxLen at h2; omega
 by_cases h0:0<l.length
 ·obtain⟨g,cap,rfl,d,hlt,hc⟩:=G0 h.own h0;exact⟨_,_,rfl,aa,Ad ⟨g,0,rfl,Ys g (Ad d) l xs 0 h.row (λa k hs=>hs.mono λb hb _=>hb.imp id (λh=>h.1)) (λj u hj=>by simpa using hc j u hj)⟩⟩
 ·have e:l=[]:=Fj.1 (by omega);subst e;rcases h.own.2 with ⟨hv,_⟩|⟨g,cap,cur,hv,_⟩
  ·exact⟨none,0,hv,aa,Ae rfl⟩
  ·exact⟨_,_,hv,aa,Ae rfl⟩
structure Ex (B:Nat) (w w':World):Prop where
 os:w'.os=w.os
 tape:w'.tape=w.tape
 output:w'.output=w.output
 size:w.heap.size<=w'.heap.size
 block:∀k,k<w.heap.size->k≠B->w'.heap[k]? = w.heap[k]?
theorem Ex.refl (B:Nat) (w:World):Ex B w w:=⟨rfl,rfl,rfl,Al _,λ_ _ _=>rfl⟩
theorem Ex.trans {b:World} (h:Ex B a b) (k:Ex B b c):Ex B a c:=
 ⟨k.os.trans h.os,k.tape.trans h.tape,k.output.trans h.output,Bf h.size k.size,λi hi d=>(k.block i (B7 hi h.size) d).trans (h.block i hi d)⟩
theorem Ex.drewN (h:Ex B a w) (n:Nat):Ex B a (w.drewN n):=⟨h.os,h.tape,h.output,h.size,h.block⟩
theorem Ex.drew (h:Ex B a w):Ex B a w.drew:=⟨h.os,h.tape,h.output,h.size,h.block⟩
theorem Ex.set (h:Ex B a w) (i:Nat) (v:Value):Ex B a (w.setCell (zD B i) v):=
 ⟨h.os,h.tape,h.output,by simpa [World.setCell] using h.size,λk hk b=>(An _ _ _ _ (by simpa using b)).trans (h.block k hk b)⟩
theorem Ex.alloc (h:Ex B a w) (o:Obj):Ex B a (w.alloc o):=
 ⟨h.os,h.tape,h.output,by have:=h.size; simp; omega,λk hk b=>(Ay _ _ _ (B7 hk h.size)).trans (h.block k hk b)⟩
theorem Ac.ex (h:Ac w b cs T) (he:Ex B w w') (a:b≠B):Ac w' b cs T:=by
 unfold Ac at *;rw[he.block b (Ac.lt h) a]; exact h
theorem Ex.mid (h:Ex B w w1):∃a,Below a.heap.size a w1/\a.heap.size=w.heap.size/\Ex B w a:=by
 by_cases b:B<w.heap.size
 ·have aa:B<w1.heap.size:=B7 b h.size;refine⟨{ w with heap:=w.heap.setIfInBounds B w1.heap[B]},⟨h.os,h.tape,h.output,by simpa using h.size,λk hk=>?_⟩,by simp,⟨rfl,rfl,rfl,by simp,λk hk c=>?_⟩⟩
  ·simp at hk;by_cases e:k=B
   ·subst e;simp[Array.getElem?_setIfInBounds,b,aa]
   ·rw[h.block k hk e];simp[Array.getElem?_setIfInBounds,EI e]
  ·simp[Array.getElem?_setIfInBounds,EI c]
 ·exact⟨w,⟨h.os,h.tape,h.output,h.size,λk hk=>h.block k hk (by omega)⟩,rfl,Ex.refl _ _⟩
theorem A1.ex (h:A1 w N T Y v l xs) (he:Ex B w w') (hB:B<N) (c:¬Y B):A1 w' N T Y v l xs:=
 ⟨h.own.kept (w' := w') (row := some B) ⟨he.os, he.tape, he.output, he.size, λj hj d => he.block j hj (λe => d (by rw [e]))⟩ (Ad (λe => by have := (h.own.lt B e).1; omega)),
  h.row.imp λa l hs=>((hs.mono (Y:=λb=>(Y b∨(N<=b/\some b≠v.ownBlock))/\b<w.heap.size) λb h1 h2=>⟨h1,h2⟩).kept λb hb=>he.block b hb.2 (λe=>by
   rcases hb.1 with h1|h1
   ·rw[e]at h1; exact c h1
   ·omega)).mono λb hb _=>hb.1⟩
theorem Ex.grown (h:Ex B a w) (b:w.grownBy w' row) (c:∀k,row=some k->a.heap.size<=k):Ex B a w':=
 ⟨b.os.trans h.os,b.tape.trans h.tape,b.output.trans h.output,Bf h.size b.size,λk hk d=>(b.block k (B7 hk h.size) (λe=>by have:=c k e.symm; omega)).trans (h.block k hk d)⟩
theorem Ex.setNew (h:Ex B a w) (hb:a.heap.size<=b) (i:Nat) (v:Value):Ex B a (w.setCell (zD b i) v):=
 ⟨h.os,h.tape,h.output,by simpa [World.setCell] using h.size,λk hk c=>(An _ _ _ _ (by simp; omega)).trans (h.block k hk c)⟩
def F8:List Lm->Prop
 | []=>True
 | ⟨_,x,l⟩::r=>(0<=x/\x<=100000)/\F8 l/\F8 r
theorem Yt:F8 []:=by simp[F8]
theorem OD (k x:Int) (l r:List Lm):F8 (⟨k,x,l⟩::r)↔(0<=x/\x<=100000)/\F8 l/\F8 r:=by simp[F8]
theorem F8.at:∀ {l:List Lm} (k:Nat) (h:k<l.length),F8 l->F8 [l[k]]
 | [],k,h,_=>by simp at h
 | ⟨s,x,l⟩::r,0,h,hb=>by
  rw[OD]at hb;exact(OD s x l []).2 ⟨hb.1,hb.2.1,Yt⟩
 | ⟨s,x,l⟩::r,k+1,h,hb=>by
  rw[OD]at hb;have:=F8.at (l:=r) k (by simpa using h) hb.2.2;simpa using this
theorem JQ {ops:Array Oper} {o:Oper} {a:Act} {K:Act->World->Prop} {Q:Exit->Act->World->Prop} {E:Prop} {b:Value} (aa:o.guard=none) (s x:Operand) (t t':TypeId)
  (ho:o.op=.call { callee:=.builtin .append,args:=#[s,x],argTypes:=#[t,t']}) (hs:a.eval s=v) (hx:a.eval x=u)
  (c:(Builtin.append_ #[t,t'] o.type #[v,u]).run P w=.ok b w') (h:K (a.put o.dst b) w'):if Region.wanted o (yielded ops a.tmps)=true then Oper.wp P o a w K Q else E:=by
 have hw:Region.wanted o (yielded ops a.tmps)=true:=by simp[Region.wanted,aa]
 rw[Ao hw];unfold Oper.wp execOp;simp only[ho,resolve,invoke,builtin,Sem.run_bind,Sem.run_pure,Result.andThen_ok,List.map_toArray,Bo,Ky,hs,hx,c];exact h
def Tb (B : Nat) (w : World) : Prop := Lib.TabBelow prog B w "internal/strconv.uint64pow10" .u64 Lib.pow10Tab
theorem Tb.on (h:Tb B w) (hb:Below B w w1):Tb B w1:=Lib.TabBelow.on h hb
theorem MV.bfr {t:Lm} (h:MV w X v t) (hb:Below B w w') (a:∀x,X x->x<B):MV w' X v t:=h.below hb (λb hb _=>a b hb)
theorem LV.bfr {l:List ByteArray} (h:LV Value.string w Y v l) (hb:Below B w w') (a:∀x,Y x->x<B):LV Value.string w' Y v l:=h.below hb (λb hb _=>a b hb)
theorem OE (n B:Nat) (hn:n<=1000000) (w:World) (a:Tb B w):Calls prog 72 #[zA n] w λe w'=>e=.returned (.string ⟨(Lib.decDigits n).toArray⟩)/\Below w.heap.size w w':=by
 refine(Tryz.strconv_Itoa n (by omega) (by omega) w a.here).mono ?_;rintro e w' ⟨rfl,k,os,rfl⟩;refine⟨?_,Lib.below_grow _ _ (Al _) _ _⟩;have:Lib.itoa (n:Int)=Lib.decDigits n:=by simp[Lib.itoa]
 rw[this]
def AG:List (ByteArray×Value)->ByteArray->Option Value
 | [],_=>none
 |p::r,n=>if p.1=n then some p.2 else AG r n
def Hs (es:Array MapEntry) (clk:Nat):Prop:=(∀x∈es.toList,x.born<clk)/\(es.toList.map (·.born)).Nodup
def AO (w:World) (r:Nat) (L:List (ByteArray×Value)):Prop:=
 ∃es clk,w.heap[r]? = some (.map es clk)/\es.toList.map (λe=>(e.key,e.val))=L.map (λp=>(Value.string p.1,p.2))/\Hs es clk
theorem Hs.push {es:Array MapEntry} (h:Hs es aa) (k v:Value):Hs (es.push { key:=k,val:=v,born:=aa}) (aa+1):=by
 obtain⟨h1,h2⟩:=h;refine⟨λx hx=>?_,?_⟩
 ·rw[Array.toList_push,Ba]at hx;rcases hx with hx|hx
  ·have:=h1 x hx; omega
  ·have e:x={ key:=k,val:=v,born:=aa}:=(by simpa using hx);subst e; exact F2 _
 ·rw[Array.toList_push,CI,List.nodup_append];refine⟨h2,by simp,λa ha b hb=>?_⟩;obtain⟨x,hx,rfl⟩:=Bk.1 ha;have:=h1 x hx;have e:b=aa:=by simpa using hb
  omega
theorem Yu (j:Nat) (k v:Value):∀l:List MapEntry,(l.modify j λe=>{ e with key:=k,val:=v}).map (·.born)=l.map (·.born):=by
 induction j with
 |zero=>intro l; cases l<;>simp
 |succ j b=>intro l; cases l with
  |nil=>simp
  |cons a r=>simp[List.modify_succ_cons,b r]
theorem Hs.modify {es:Array MapEntry} (h:Hs es aa) (j:Nat) (k v:Value):Hs (es.modify j λe=>{ e with key:=k,val:=v}) aa:=by
 obtain⟨h1,h2⟩:=h;have e:=Yu j k v es.toList;refine⟨λx hx=>?_,by rw[Array.toList_modify,e]; exact h2⟩;rw[Array.toList_modify]at hx;have:x.born∈es.toList.map (·.born):=by rw[<-e]; exact Bk.2 ⟨x,hx,rfl⟩
 obtain⟨y,hy,hb⟩:=Bk.1 this;rw[<-hb]; exact h1 y hy
theorem AO.new (w:World):AO (w.alloc (.map #[] 0)) w.heap.size []:=⟨#[],0,Fk w _,rfl,by simp[Hs]⟩
theorem AO.lt (h:AO w r L):r<w.heap.size:=by
 obtain⟨es,aa,h,_⟩:=h;exact(CO.1 h).1
theorem AO.kept (h:AO w r L) (hk:w'.heap[r]? = w.heap[r]?):AO w' r L:=by
 obtain⟨es,aa,h1,h2⟩:=h;exact⟨es,aa,hk.trans h1,h2⟩
theorem AO.below (h:AO w r L) (hb:Below B w w') (a:r<B):AO w' r L:=h.kept (hb.block r a)
theorem MB (n:ByteArray):∀(l:List MapEntry) (L:List (ByteArray×Value)) (i:Nat),l.map (λe=>(e.key,e.val))=L.map (λp=>(Value.string p.1,p.2))->
  (AG L n=none->Instr.findNow .string (.string n) l i=some none)/\(∀v,AG L n=some v->∃j,Instr.findNow .string (.string n) l i=some (some (j,v)))
 | [],[],i,h=>⟨λ_=>rfl,λv h=>by simp[AG] at h⟩
 | [],p::L,i,h=>by simp at h
 |e::l,[],i,h=>by simp at h
 |e::l,p::L,i,h=>by
  simp only[Bo,Hj,IK] at h;obtain⟨⟨hk,hv⟩,ht⟩:=h;obtain⟨aa,ab⟩:=MB n l L (i+1) ht;by_cases a:p.1=n
  ·have hs:Instr.sameNow .string (.string n) e.key=some true:=(by rw[hk,a];show some (n==n)=some true;rw[show(n==n)=true from (L6 _ _).2 rfl]);refine⟨λh=>by simp[AG,a] at h,λv h=>⟨i,?_⟩⟩;simp only[AG,a,F4,Gr] at h;simp[Instr.findNow,hs,hv,h]
  ·have hs:Instr.sameNow .string (.string n) e.key=some false:=by
    rw[hk];show some (n==p.1)=some false;have hb:(n==p.1)=false:=by
     cases b:(n==p.1) with
     |false=>rfl
     |true=>exact absurd ((L6 _ _).1 b).symm a
    rw[hb]
   refine⟨λh=>?_,λv h=>?_⟩
   ·rw[AG,Ah a]at h;simp[Instr.findNow,hs,aa h]
   ·rw[AG,Ah a]at h;obtain⟨j,hj⟩:=ab v h;exact⟨j,by simp[Instr.findNow,hs,hj]⟩
theorem El {T a c:TypeId} (hm:P.underlying T=some (.map a c)) (hk:P.underlying a=some .string) (hz:(zeroValue c).run P w=.ok z w) (h:AO w r L) (n:ByteArray):
  (Instr.lookup T (.map (some r)) (.string n) true).run P w=.ok (.tuple #[(AG L n).getD z,.bool (AG L n).isSome]) w:=by
 obtain⟨es,aa,hb,he,ab⟩:=h;obtain⟨h1,h2⟩:=MB n es.toList L 0 he;have hc:∀b,(Instr.checkKey b 10000 a (.string n)).run P w=.ok () w:=λb=>L7 (k:=.string n) hk (by simp[MapKept.IsKey]) b 9999;cases d:AG L n with
 |none=>simp[Instr.lookup,Fl hm,F5 hb,hc,Jr hk (h1 d),Result.andThen,hz]
 |some v=>obtain⟨j,hj⟩:=h2 v d;simp[Instr.lookup,Fl hm,F5 hb,hc,Jr hk hj,Result.andThen]
theorem Iw {T a c:TypeId} (hm:P.underlying T=some (.map a c)) (hk:P.underlying a=some .string) (h:AO w r L) (n:ByteArray) (v:Value) (d:AG L n=none):
  ∃w',(Instr.mapUpdate T (.map (some r)) (.string n) v).run P w=.ok () w'/\AO w' r (L++[(n,v)])/\w'.heap.size=w.heap.size/\w'.os=w.os/\w'.tape=w.tape/\w'.output=w.output/\(∀b,b≠r->w'.heap[b]? = w.heap[b]?):=by
 obtain⟨es,aa,hb,he,ab⟩:=h;obtain⟨h1,h2⟩:=MB n es.toList L 0 he;have hc:(Instr.checkKey false 10000 a (.string n)).run P w=.ok () w:=L7 (k:=.string n) hk (by simp[MapKept.IsKey]) false 9999;have hlt:r<w.heap.size:=(CO.1 hb).1;refine⟨{ w with heap:=w.heap.setIfInBounds r (.map (es.push { key:=.string n,val:=v,born:=aa}) (aa+1))},?_,⟨_,_,(GU hb).1,by simp[he],ab.push _ _⟩,by simp,rfl,rfl,rfl,λb e=>(GU hb).2 b e⟩;simp[Instr.mapUpdate,Fl hm,F5 hb,hc,Jr hk (h1 d),NW _ hb,Result.andThen]
def EO:List (ByteArray×Value)->ByteArray->Value->List (ByteArray×Value)
 | [],_,_=>[]
 |p::r,n,v=>if p.1=n then (p.1,v)::r else p::EO r n v
theorem RB (n:ByteArray) (x:Value):∀(l:List MapEntry) (L:List (ByteArray×Value)) (i:Nat) (v:Value),l.map (λe=>(e.key,e.val))=L.map (λp=>(Value.string p.1,p.2))->AG L n=some v->
  ∃j e,Instr.findNow .string (.string n) l i=some (some (i+j,v))/\l[j]? = some e/\e.key=.string n/\(l.modify j λe=>{ e with key:=.string n,val:=x}).map (λe=>(e.key,e.val))=(EO L n x).map (λp=>(Value.string p.1,p.2))
 | [],[],i,v,h,hv=>by simp[AG] at hv
 | [],p::L,i,v,h,hv=>by simp at h
 |e::l,[],i,v,h,hv=>by simp at h
 |e::l,p::L,i,v,h,hv=>by
  simp only[Bo,Hj,IK] at h;obtain⟨⟨hk,he⟩,ht⟩:=h;by_cases a:p.1=n
  ·have hs:Instr.sameNow .string (.string n) e.key=some true:=(by rw[hk,a];show some (n==n)=some true;rw[show(n==n)=true from (L6 _ _).2 rfl]);simp only[AG,a,F4,Gr] at hv;refine⟨0,e,by simp[Instr.findNow,hs,he,hv],rfl,by rw[hk,a],?_⟩;simp[EO,a,ht]
  ·have hs:Instr.sameNow .string (.string n) e.key=some false:=by
    rw[hk];show some (n==p.1)=some false;have hb:(n==p.1)=false:=by
     cases b:(n==p.1) with
     |false=>rfl
     |true=>exact absurd ((L6 _ _).1 b).symm a
    rw[hb]
   rw[AG,Ah a]at hv;obtain⟨j,e',h1,h2,h3,c⟩:=RB n x l L (i+1) v ht hv;refine⟨j+1,e',by simp[Instr.findNow,hs,h1]; omega,by simpa using h2,h3,?_⟩;rw[EO,Ah a];simp[List.modify_succ_cons,c,hk,he]
theorem OG {T a c:TypeId} (hm:P.underlying T=some (.map a c)) (hk:P.underlying a=some .string) (hz:(zeroValue c).run P w=.ok z w) (h:AO w r L) (n:ByteArray):
  (Instr.lookup T (.map (some r)) (.string n) false).run P w=.ok ((AG L n).getD z) w:=by
 obtain⟨es,ab,hb,he,aa⟩:=h;obtain⟨h1,h2⟩:=MB n es.toList L 0 he;have hc:∀b,(Instr.checkKey b 10000 a (.string n)).run P w=.ok () w:=λb=>L7 (k:=.string n) hk (by simp[MapKept.IsKey]) b 9999;cases d:AG L n with
 |none=>simp[Instr.lookup,Fl hm,F5 hb,hc,Jr hk (h1 d),Result.andThen,hz]
 |some v=>obtain⟨j,hj⟩:=h2 v d;simp[Instr.lookup,Fl hm,F5 hb,hc,Jr hk hj,Result.andThen]
theorem RC {T a c:TypeId} (hm:P.underlying T=some (.map a c)) (hk:P.underlying a=some .string) (h:AO w r L) (n:ByteArray) (v old:Value) (f:AG L n=some old):
  ∃w',(Instr.mapUpdate T (.map (some r)) (.string n) v).run P w=.ok () w'/\AO w' r (EO L n v)/\w'.heap.size=w.heap.size/\w'.os=w.os/\w'.tape=w.tape/\w'.output=w.output/\(∀b,b≠r->w'.heap[b]? = w.heap[b]?):=by
 obtain⟨es,ab,hb,he,aa⟩:=h;obtain⟨j,g,h1,h2,h3,i⟩:=RB n v es.toList L 0 old he f;have hc:(Instr.checkKey false 10000 a (.string n)).run P w=.ok () w:=L7 (k:=.string n) hk (by simp[MapKept.IsKey]) false 9999;have hj:es[j]? = some g:=by simpa using h2
 rw[DA]at h1;have l:(Instr.keyThatStays (.string n) (.string n)).run P w=.ok (.string n) w:=MapKept.run_keyThatStays (d:=.string) (by simp[MapKept.IsKey]);refine⟨{ w with heap:=w.heap.setIfInBounds r (.map (es.modify j λe=>{ e with key:=.string n,val:=v}) ab)},?_,⟨_,_,(GU hb).1,by rw[Array.toList_modify]; exact i,aa.modify _ _ _⟩,by simp,rfl,rfl,rfl,λb m=>(GU hb).2 b m⟩;simp[Instr.mapUpdate,Fl hm,F5 hb,hc,Jr hk h1,hj,h3,l,NW _ hb,Result.andThen]
structure Ak (Q:Nat->Prop) (w w':World):Prop where
 os:w'.os=w.os
 tape:w'.tape=w.tape
 output:w'.output=w.output
 size:w.heap.size<=w'.heap.size
 block:∀k,k<w.heap.size->¬Q k->w'.heap[k]? = w.heap[k]?
theorem Ak.refl (Q:Nat->Prop) (w:World):Ak Q w w:=⟨rfl,rfl,rfl,Al _,λ_ _ _=>rfl⟩
theorem Ak.trans {b:World} (h:Ak Q a b) (k:Ak Q b c):Ak Q a c:=
 ⟨k.os.trans h.os,k.tape.trans h.tape,k.output.trans h.output,Bf h.size k.size,λi hi d=>(k.block i (B7 hi h.size) d).trans (h.block i hi d)⟩
theorem Ak.transN {b:World} (h:Ak Q a b) (k:Ak R b c) (e:∀i,R i->i<a.heap.size->Q i):Ak Q a c:=
 ⟨k.os.trans h.os,k.tape.trans h.tape,k.output.trans h.output,Bf h.size k.size,λi hi d=>(k.block i (B7 hi h.size) (λf=>d (e i f hi))).trans (h.block i hi d)⟩
theorem Ak.mono {b:World} (h:Ak Q a b) (c:∀i,Q i->i<a.heap.size->R i):Ak R a b:=⟨h.os,h.tape,h.output,h.size,λi hi d=>h.block i hi (λhq=>d (c i hq hi))⟩
theorem Ak.drewN (h:Ak Q a w) (n:Nat):Ak Q a (w.drewN n):=⟨h.os,h.tape,h.output,h.size,h.block⟩
theorem Ak.drew (h:Ak Q a w):Ak Q a w.drew:=⟨h.os,h.tape,h.output,h.size,h.block⟩
theorem Ak.set (h:Ak Q a w) (c:Q B) (i:Nat) (v:Value):Ak Q a (w.setCell (zD B i) v):=
 ⟨h.os,h.tape,h.output,by simpa [World.setCell] using h.size,λk hk b=>(An _ _ _ _ (by simp; intro e; subst e; exact b c)).trans (h.block k hk b)⟩
theorem Ak.alloc (h:Ak Q a w) (o:Obj):Ak Q a (w.alloc o):=
 ⟨h.os,h.tape,h.output,by have:=h.size; simp; omega,λk hk b=>(Ay _ _ _ (B7 hk h.size)).trans (h.block k hk b)⟩
theorem Ak.grown (h:Ak Q a w) (b:w.grownBy w' row) (d:∀k,row=some k->a.heap.size<=k∨Q k):Ak Q a w':=
 ⟨b.os.trans h.os,b.tape.trans h.tape,b.output.trans h.output,Bf h.size b.size,λk hk c=>(b.block k (B7 hk h.size) (λe=>by rcases d k e.symm with h1|h1; omega; exact c h1)).trans (h.block k hk c)⟩
theorem Ak.setNew (h:Ak Q a w) (hb:a.heap.size<=b) (i:Nat) (v:Value):Ak Q a (w.setCell (zD b i) v):=
 ⟨h.os,h.tape,h.output,by simpa [World.setCell] using h.size,λk hk c=>(An _ _ _ _ (by simp; omega)).trans (h.block k hk c)⟩
theorem Ak.ofBelow (h:Below w.heap.size w w'):Ak Q w w':=⟨h.os,h.tape,h.output,h.size,λk hk _=>h.block k hk⟩
theorem Ak.ofEx (h:Ex B w w') (a:Q B):Ak Q w w':=⟨h.os,h.tape,h.output,h.size,λk hk b=>h.block k hk (λe=>b (by rw[e]; exact a))⟩
theorem Ak.below (h:Ak Q w w') (hB:B<=w.heap.size) (a:∀b,Q b->B<=b):Below B w w':=
 ⟨h.os,h.tape,h.output,h.size,λk hk=>h.block k (by omega) (λhq=>by have:=a k hq; omega)⟩
theorem Ac.exq (h:Ac w b cs T) (he:Ak Q w w') (a:¬Q b):Ac w' b cs T:=by
 unfold Ac at *;rw[he.block b (Ac.lt h) a]; exact h
theorem Sl.exq {a:Option Addr} (h:Sl w X a l) (he:Ak Q w w') (c:∀b,X b->¬Q b):Sl w' X a l:=
 ((h.mono (Y:=λb=>X b/\b<w.heap.size) λb h1 h2=>⟨h1,h2⟩).kept λb hb=>he.block b hb.2 (c b hb.1)).mono λb hb _=>hb.1
theorem Ak.mid (h:Ak Q w w1):∃a,Below a.heap.size a w1/\a.heap.size=w.heap.size/\Ak Q w a:=by
 have hs:=h.size;have hz:(w1.heap.extract 0 w.heap.size).size=w.heap.size:=by simp; omega
 refine⟨{ w1 with heap:=w1.heap.extract 0 w.heap.size},⟨rfl,rfl,rfl,by simp; omega,λk hk=>?_⟩,hz,⟨h.os,h.tape,h.output,by simp[hz],λk hk b=>?_⟩⟩
 ·have aa:k<w.heap.size:=by simp at hk; omega
  simp[Array.getElem?_extract,aa];omega
 ·rw[<-h.block k hk b];simp[Array.getElem?_extract,hk];omega
theorem Dc {base e size:Nat} (h:w.ownsRow base e size v n xs) (hk:∀g,v.ownBlock=some g->w'.heap[g]? = w.heap[g]?):w'.ownsRow base e size v n xs:=by
 obtain⟨a,h1⟩:=h;refine⟨a,?_⟩;rcases h1 with h1|⟨g,cap,cur,hv,b,c,d⟩
 ·exact Ae h1
 ·refine Ad ⟨g,cap,cur,hv,b,?_,d⟩;rw[hk g (by rw[hv]; rfl)];exact c
theorem A1.exq (h:A1 w N T Y v l xs) (he:Ak Q w w') (c:∀b,Q b->b<N) (e:∀b,Q b->¬Y b):A1 w' N T Y v l xs:=
 ⟨Dc h.own λg d => he.block g (h.own.lt g d).2 (λhq => by have := c g hq; have := (h.own.lt g d).1; omega),
  h.row.imp λa l hs=>hs.exq he λb hb hq=>by
   rcases hb with h1|h1
   ·exact e b hq h1
   ·have:=c b hq; omega⟩
theorem CQ.exq {cs:List Bc} (h:CQ w N Y v cs) (he:Ak Q w w') (a:∀b,Q b->b<N) (d:∀b,Q b->¬Y b):CQ w' N Y v cs:=
 ⟨Dc h.own λg c => he.block g (h.own.lt g c).2 (λhq => by have := a g hq; have := (h.own.lt g c).1; omega),
  λx hx=>(h.row x hx).exq he λb hb hq=>by
   rcases hb with h1|h1
   ·exact d b hq h1
   ·have:=a b hq; omega⟩
def Dl (k:Nat):ByteArray:=⟨(90::Lib.decDigits k).toArray⟩
def Fq:Nat->List ByteArray->List (ByteArray×Value)
 |_,[]=>[]
 |k,n::r=>(n,zA ((k+1:Nat):Int))::Fq (k+1) r
def A0 (s:ByteArray):List ByteArray->Nat
 | []=>0
 |n::r=>if n=s then 0 else A0 s r+1
def CY (ns:List ByteArray) (s:ByteArray):List ByteArray:=if A0 s ns<ns.length then ns else ns++[s]
theorem MC (s:ByteArray):∀ns:List ByteArray,A0 s ns<=ns.length
 | []=>by simp[A0]
 |n::r=>by
  have:=MC s r;simp only[A0,Bg];split<;>omega
theorem RD:∀(k:Nat) (ns:List ByteArray),(Fq k ns).length=ns.length
 |_,[]=>rfl
 |k,n::r=>by simp[Fq,RD (k+1) r]
theorem RE (s:ByteArray):∀(k:Nat) (ns:List ByteArray),AG (Fq k ns) s=if A0 s ns<ns.length then some (zA ((k+A0 s ns+1:Nat):Int)) else none
 |_,[]=>by simp[Fq,AG]
 |k,n::r=>by
  have a:=RE s (k+1) r;by_cases h:n=s
  ·have e:A0 s (n::r)=0:=(by simp[A0,h]);rw[Ao (show A0 s (n::r)<(n::r).length by rw[e]; simp),e];simp[Fq,AG,h]
  ·have e:A0 s (n::r)=A0 s r+1:=(by simp[A0,h]);have b:AG (Fq k (n::r)) s=AG (Fq (k+1) r) s:=(by simp[Fq,AG,h]);rw[b,a];by_cases h2:A0 s r<r.length
   ·rw[Ao h2,Ao (show A0 s (n::r)<(n::r).length by rw[e]; simp; omega),e];rw[show k+1+A0 s r+1=k+(A0 s r+1)+1 by omega]
   ·rw[Ah h2,Ah (show ¬A0 s (n::r)<(n::r).length by rw[e]; simp; omega)]
theorem RG (s:ByteArray):∀(k:Nat) (ns:List ByteArray),Fq k (ns++[s])=Fq k ns++[(s,zA ((k+ns.length+1:Nat):Int))]
 |k,[]=>by simp[Fq]
 |k,n::r=>by
  simp only[Bj,Fq,RG s (k+1) r,Bg];rw[show k+1+r.length+1=k+(r.length+1)+1 by omega]
theorem MD (ns:List ByteArray) (s:ByteArray):(CY ns s).length<=ns.length+1:=by
 unfold CY; split<;>simp
theorem Yv (s:ByteArray):∀ns:List ByteArray,A0 s (CY ns s)=A0 s ns:=by
 intro ns;unfold CY;split
 ·rfl
 ·rename_i h;induction ns with
  |nil=>simp[A0]
  |cons n r a=>
   simp only[A0,Bg,Bj] at h ⊢;by_cases h2:n=s
   ·rw[Ao h2,Ao h2]
   ·rw[Ah h2]at h;rw[Ah h2,Ah h2,a (by omega)]
structure CS (w:World) (B r:Nat) (ns:List ByteArray):Prop where
 box:Ac w B #[.map (some r)] 96
 map:AO w r (Fq 0 ns)
 ne:B≠r
theorem CS.later (h:CS w B r ns) (hb:Below w.heap.size w w'):CS w' B r ns:=⟨h.box.below hb h.box.lt,h.map.below hb h.map.lt,h.ne⟩
theorem CS.alloc (h:CS w B r ns) (o:Obj):CS (w.alloc o) B r ns:=h.later ((Ag _ _).alloc (Al _) o)
theorem RI (k:Nat):(⟨#[90]⟩:ByteArray)++⟨(Lib.decDigits k).toArray⟩=Dl k:=by
 apply ByteArray.ext;unfold Dl;apply Array.ext';simp[ByteArray.toList_data_append]
theorem Yw {T a b:TypeId} (hm:P.underlying T=some (.map a b)) (h:AO w r L) (ty:TypeId):(Builtin.len_ #[T] ty #[.map (some r)]).run P w=.ok (zA (L.length:Int)) w:=by
 obtain⟨es,aa,hb,he,_⟩:=h;have c:es.size=L.length:=by have:=Cb List.length he; simpa using this
 simp[Builtin.len_,Fl hm,F5 hb,goInt,Result.andThen,c]
theorem RJ (w:World):
  Calls prog 70 #[] w λe w'=>∃B r,e=.returned (.func (.func 97) #[] #[zC B])/\CS w' B r []/\w.heap.size<=r/\w.heap.size<=B/\Below w.heap.size w w':=by
 have aa:=@hmq prog;have ab:=@run_makeMap prog;go_enter func70,ntmps70;go_wp2_with fail;go_ret;have h:=Ac.new (w.alloc (.map #[] 0)) #[.map (some w.heap.size)] 96;have hz:(w.alloc (.map #[] 0)).heap.size=w.heap.size+1:=by simp
 rw[hz]at h;have hb:Below w.heap.size w ((w.alloc (.map #[] 0)).alloc (zh #[.map (some w.heap.size)] 96)):=((Ag _ _).alloc (Al _) _).alloc (by simp) _;exact⟨w.heap.size+1,w.heap.size,rfl,⟨h,(AO.new w).below (B:=w.heap.size+1) ((Ag _ _).alloc (by simp) _) (by omega),by omega⟩,Al _,by omega,hb⟩
theorem RK (a:Nat) (s:ByteArray) (ns:List ByteArray) (B r:Nat) (w:World) (h:CS w B r ns) (A:Tb a w) (aA:a<=r) (C:a<=w.heap.size) (hl:ns.length<=100000):
  Calls prog 97 #[.string s,zC B] w λe w'=>e=.returned (.string (Dl (A0 s ns+1)))/\CS w' B r (CY ns s)/\Ak (λb=>b=r) w w':=by
 have D:=Aa h;have m:=Aa A;have n:=h.box.c0;have aa:=RE s 0 ns;have hz:=zeroValue3 w;have q:=MC s ns;by_cases c:A0 s ns<ns.length
 ·rw[Ao c]at aa;have ab:(Instr.lookup 96 (.map (some r)) (.string s) true).run prog w=.ok (.tuple #[zA ((A0 s ns+1:Nat):Int),.bool true]) w:=by
   rw[El (P:=prog) underlying96 underlying9 hz h.map _,aa];simp
  have g:Hid (CY ns s=ns):=Aa (by unfold CY;rw[Ao c]);obtain⟨k,hk⟩:∃k,k=A0 s ns+1:=⟨_,rfl⟩;rw[<-hk]at ab;rw[<-hk];have i:k<=1000000:=by omega
  have j:=Aa (RI k);have E:(Lib.decDigits k).length<=1000001:=by have:=RA k; omega
  have F:1+(Lib.decDigits k).length<=9223372036854775807:=by omega
  have G:¬9223372036854775807<1+(Lib.decDigits k).length:=by omega
  clear aa hz c q hk h;go_enter func97,ntmps97;go_wp2_with fail;refine(OE k a i _ m.o).mono ?_;rintro e w1 ⟨rfl,d⟩;have f:=Aa d;clear d n ab;go_wp2_with fail;rw[j.o];go_ret;exact⟨rfl,by rw[g.o]; exact D.o.later f.o,Ak.ofBelow f.o⟩
 ·rw[Ah c]at aa;have ab:(Instr.lookup 96 (.map (some r)) (.string s) true).run prog w=.ok (.tuple #[zA 0,.bool false]) w:=by
   rw[El (P:=prog) underlying96 underlying9 hz h.map _,aa];simp
  have hlen:(Builtin.len_ #[96] 3 #[.map (some r)]).run prog w=.ok (zA (ns.length:Int)) w:=(by rw[Yw underlying96 h.map,RD]);have g:Hid (CY ns s=ns++[s]):=Aa (by unfold CY;rw[Ah c]);have a1:A0 s ns=ns.length:=by omega
  obtain⟨k,hk⟩:∃k,k=ns.length+1:=⟨_,rfl⟩;have t:(ns.length:Int)+1=(k:Int):=by omega
  have i:k<=1000000:=by omega
  have aB:IntKind.i64.wrap ((ns.length:Int)+1)=(k:Int):=by rw[Fm]; omega
  obtain⟨w2,aq,u,H,v,x,y,l⟩:=Iw (P:=prog) underlying96 underlying9 h.map s (zA k) aa;have z:Hid (Ak (λb=>b=r) w w2):=⟨v,x,y,by omega,λb _ I=>l b I⟩;have J:Hid (CS w2 B r (CY ns s)):=⟨(l B h.ne).trans h.box,by rw[g.o,RG]; rw[show 0+ns.length+1=k by omega]; exact u,h.ne⟩;have L:Hid (Tb a w2):=m.o.on (z.o.below (B:=a) C (λb hb=>by omega));rw[show A0 s ns+1=k by omega];have j:=Aa (RI k);have E:(Lib.decDigits k).length<=1000001:=by have:=RA k; omega
  have F:1+(Lib.decDigits k).length<=9223372036854775807:=by omega
  have G:¬9223372036854775807<1+(Lib.decDigits k).length:=by omega
  have aC:=Aa t;generalize (ns.length:Int)=nl at *;clear aa hz c q hk h u H v x y l a1 t;go_enter func97,ntmps97;go_wp2_with fail;refine(OE k a i _ L.o).mono ?_;rintro e w1 ⟨rfl,d⟩;have f:=Aa d;clear d n ab;go_wp2_with fail;rw[j.o];go_ret;exact⟨rfl,J.o.later f.o,z.o.trans (Ak.ofBelow f.o)⟩
theorem ME (s:ByteArray):∀(l:List ByteArray) (h:A0 s l<l.length),l[A0 s l]=s
 |n::r,h=>by
  by_cases e:n=s
  ·simp[A0,e]
  ·have h2:A0 s r<r.length:=by simp[A0,e] at h; omega
   have:=ME s r h2;simp[A0,e,this]
theorem Yy {r:List Tm} (h:Af (t::r)=0):Af [t]=0/\Af r=0:=by
 rw[FD]at h;split at h
 ·rename_i h1; exact⟨h1,h⟩
 ·rename_i h1; exact absurd h h1
theorem EP (a b c:Obj):Below w.heap.size w (((w.alloc a).alloc b).alloc c):=(EJ a b).alloc (by simp; omega) c
theorem Yz {k:Nat} {c d:Obj} {m:Nat} {c0:Array Value} (ab:A1 wr (w.heap.size+3) T (λ_=>False) u (l.take k) xs) (hb:Below w.heap.size w wr)
  (h1:Ac wr (w.heap.size+1) c0 T) (h2:Ac wr (w.heap.size+1+1) #[.string s,u] T) (al:w.heap.size+3<=wr.heap.size) (o:k<l.length)
  (f:Below (wr.alloc c).drew.heap.size (wr.alloc c).drew w1) (ht:TV w1 (λb=>(wr.alloc c).drew.heap.size<=b) (.agg #[.string s',.slice a1 m c1]) l[k])
  (q:w3.ownsRow (w.heap.size+3) T 2 (.slice (some (zD g 0)) ((l.take k).length+1) cap) ((l.take k).length+1) (xs++[.string s',.slice a1 m c1])) (i:(w1.alloc d).grownBy w3 u.ownBlock) (r:u.ownBlock=some g∨g=(w1.alloc d).heap.size):
  let a:=w3.setCell (zD (w.heap.size+1+1) 1) (.slice (some (zD g 0)) ((l.take k).length+1) cap)
  A1 a (w.heap.size+3) T (λ_=>False) (.slice (some (zD g 0)) ((l.take k).length+1) cap) (l.take (k+1)) (xs++[.string s',.slice a1 m c1])/\Below w.heap.size w a/\Ac a (w.heap.size+1) c0 T/\Ac a (w.heap.size+1+1) #[.string s,.slice (some (zD g 0)) ((l.take k).length+1) cap] T/\w.heap.size+3<=a.heap.size:=by
 intro a;have n:Below wr.heap.size wr (wr.alloc c).drew:=((Ag _ _).alloc (Al _) c).drew;have t:=ab.below n;have aa:=ab.own.lt;have v:=f.size;have x:=i.size;simp at v x;have hp:=t.push (w1:=w1) (w2:=w1.alloc d) (w3:=w3) (by simp; omega) (λ_ h=>h.elim) f (ht.mono λb h _=>Ad h) d rfl q i r;have y:Below w.heap.size w w3:=(((hb.trans (n.mono (by omega))).trans (f.mono (by simp; omega))).alloc (by omega) d).grown i (by simp; omega) (λj hj=>by have:=(aa j hj).1; omega);have z:Below w.heap.size w a:=y.setCell (p:=(zD (w.heap.size+1+1) 1)) (by simp; omega) _;refine⟨?_,z,(Oh h1 f i (λe=>by have:=(aa _ e.symm).1; omega)).setOther _ _ (by omega),?_,by simp[a,World.setCell]; omega⟩
 ·rw[Ci o];exact hp.setCell (by omega) (λh=>h) _
 ·exact(Oh h2 f i (λe=>by have:=(aa _ e.symm).1; omega)).set 1 _
theorem OH (t:Tm):∀(v:Value) (w:World) (X:Nat->Prop),TV w X v t->Ab [t]<=1000000->
  Calls prog 27 #[v] w λe w'=>∃r,e=.returned r/\TV w' (λb=>w.heap.size<=b) r t/\Below w.heap.size w w':=by
 induction t using Tm.ind with
 |h s l y=>
  intro v w X hv O;have P:=Aa y;clear y;obtain⟨a,c,rfl,hs⟩:=hv;have hl:=hs.1;have hz:Ab [(⟨s,l⟩:Tm)]=1+Ab l:=by simp[Ab]
  rw[hz]at O;clear hz;have hlen:=E4 l;obtain⟨i0,hi,R,T,U⟩:=DO Tryz.infoTerm;go_enter func27,ntmps27;go_wp2_with fail;go_loopw [12] (λi wr=>∃(k:Nat) (u:Value) (xs:List Value),k<=l.length/\i=zA k/\A1 wr (w.heap.size+3) 31 (λ_=>False) u (l.take k) xs/\Below w.heap.size w wr/\Ac wr (w.heap.size+1) zd 31/\Ac wr (w.heap.size+1+1) #[.string s,u] 31/\w.heap.size+3<=wr.heap.size) (λi wr=>l.length-(intOf i).toNat);case atStart=>
   refine⟨0,zB,[],Be _,rfl,A1.start _ _ _ _,EP _ _ _,?_,?_,by simp⟩
   ·have:=((Ac.new (w.alloc (zh #[.string s,.slice a l.length c] 31)) zd 31)).alloc (zh #[.string s,zB] 31);simpa using this
   ·have:=Ac.new ((w.alloc (zh #[.string s,.slice a l.length c] 31)).alloc zc) #[.string s,zB] 31;simpa using this
  case round=>
   obtain⟨k,u,xs,hk,rfl,z,hb,A,ab,V⟩:=hrel;have f:=Aa z;have j:=Aa A;have m:=Aa ab;have B:=Aa hb;clear z A;by_cases n:k<l.length
   ·obtain⟨b,o,a',c',rfl,d0,d1,hx⟩:=hs.get hb (λ_ _ h=>h) k n;have W:∀o,(wr.alloc o).cell? (zD (w.heap.size+1+1) 1)=some u:=λo=>(ab.alloc o).cell 1;have Y:=Aa hx;have Z:Ab [l[k]]<=1000000:=by
     have:=DP l k n; have:=Eu l (k+1); omega
    clear ab hb hx;go_wp2_with fail;go_region_law (first
     | (go_simp; go_at_call 27; refine(P.o _ (AM n) _ _ X (by exact(Y.o.alloc _).later (below_drewN (Ag _ _) 1)) Z).mono ?_; rintro e w1 ⟨v1,rfl,a7,d⟩; obtain⟨a1,c1,rfl,a8⟩:=a7; have aA:∀o,(w1.alloc o).cell? (zD (w.heap.size+1+1) 1)=some u:=λo=>((((m.o.alloc _).drewN 1).below d (by simp; omega)).alloc o).cell 1; have aB:w1.cell? (zD (w.heap.size+1+1) 1)=some u:=(((m.o.alloc _).drewN 1).below d (by simp; omega)).cell 1)
     | (refine step_append_lies _ rfl _ _ 29 rfl (w.heap.size+3) 31 i0 _ 2 40 underlying29 hi R T U rfl (by decide) u (l.take k).length xs rfl (by exact(((f.o.below ((Ag _ _).alloc (Al _) _)).below (below_drewN (Ag _ _) 1)).below d).own.alloc _) (zD w1.heap.size 0) 1 1 [.string l[k].name,.slice a1 l[k].args.length c1] rfl rfl (cell_two_new _ _ _ _) (λx hx=>by simp at hx; rcases hx with rfl|rfl<;>rfl) (by decide) (by unfold maxLen; simp; omega) (by simp; omega) (by have:=d.size; simp at this ⊢; omega) _ rfl ?_; intro g cap w3 C aa D aC; have E:=Aa (Oh m.o d aa (f.o.ne (F2 _))); have aI:w3.cell? (zD (w.heap.size+1+1) 1)=some u:=E.o.cell 1; have aJ:=E.o.frozen 1))
    all_goals
     have ao:=Aa (Yz f.o B.o j.o m.o V n d ⟨a1,c1,rfl,a8⟩ C aa D);clear C aa D W aA aB;go_wp2_with fail;go_roundw
     case rel=>
      have aD:(l.take k).length=k:=by simp; omega
      obtain⟨F,G,H,I,J⟩:=ao.o;simp only[aD] at F G H I J;exact⟨k+1,_,_,by omega,by go_num,F,G,H,I,J⟩
     case measure=>simp[intOf]; omega
   ·have L:l.take k=l:=BH (by omega);have aK:=ab.cell 0;have aL:=ab.cell 1;have aE:=j.o.cell 0;have aF:=j.o.cell 1;have aM:=j.o.frozen;obtain⟨a9,M,N,q⟩:=f.o.sl;rw[L]at N q;have aG:=Aa q;subst N;clear q L ab;go_wp2_with fail;refine Aq (v:=.agg #[.string s,.slice a9 l.length M]) (by simp[results,results27,go_sem,aE,aF,Az,Aw]) rfl ⟨_,rfl,?_,?_⟩
    ·refine⟨a9,M,rfl,?_⟩;have aH:Sl wr (λb=>w.heap.size+3<=b) a9 l:=aG.o.mono λb h _=>h.elim False.elim id;exact((aH.kept λb hb=>by rw[An _ _ _ _ (by simp; omega),An _ _ _ _ (by simp; omega)]).mono λb hb _=>by omega)
    ·exact(B.o.setCell (by simp) _).setCell (by simp) _
def E6 (w:World) (F:Nat) (sv:Value) (t:Tm) (n:Nat) (e:Ending) (w':World):Prop:=
 ∃(s':ByteArray) (a':Option Addr) (l' c':Nat) (m:Int),e=.returned (.agg #[.string s',.slice a' l' c'])/\Ac w' F #[zA m,sv] 146/\Ex F w w'/\(Ab [t]<=n->m=(n:Int)-Ab [t]/\s'=t.name/\l'=t.args.length/\Sl w' (λb=>w.heap.size<=b) a' t.args)/\(n<Ab [t]->m=-1)
theorem YA (F:Nat) (f:Value) (t:Tm) (n:Nat) (a:Option Addr) (c:Nat) (w:World) (af:F<w.heap.size) (h:Calls prog 114 #[zC F,.agg (zF t a c),.func (.func 115) #[zC F] #[]] ((w.alloc (ze t a c)).alloc zc) λe w'=>E6 ((w.alloc (ze t a c)).alloc zc) F f t n e w'):
  Calls prog 115 #[zC F,.agg (zF t a c)] w λe w'=>E6 w F f t n e w':=by
 have ag:=@hmq prog;have H:=Aa h;clear h;go_enter func115,ntmps115;go_wp2_with fail;refine H.o.mono ?_;rintro e w1 ⟨s',a',l',c',m,rfl,ab,aa,g,i⟩;have d:Hid (Ac w1 (w.heap.size+1) zd 31):=Aa (by have h:=(Ac.new (w.alloc (ze t a c)) zd 31).ex aa (by simp; omega);simpa using h);have j:=Aa ((((Ex.refl F w).alloc (ze t a c)).alloc zc).trans aa);have k:=Aa ab;have l:=Aa g;have q:=Aa i;clear ab aa g i;have r:=d.o.c0;have s:=d.o.c1;have rf:=d.o.frozen;go_wp2_with fail;refine Aq (v:=.agg #[.string s',.slice a' l' c']) (by simp[results,results115,go_sem,Az,Aw,r,s]) rfl ?_;refine⟨s',a',l',c',m,rfl,(k.o.setOther _ _ (by omega)).setOther _ _ (by omega),(j.o.setNew (by omega) _ _).setNew (by omega) _ _,λh=>?_,q.o⟩;obtain⟨h1,h2,h3,u⟩:=l.o h;refine⟨h1,h2,h3,(u.kept λb hb=>?_).mono λb hb _=>by simp at hb; omega⟩;simp at hb;rw[An _ _ _ _ (by simp; omega),An _ _ _ _ (by simp; omega)]
theorem Sl.ex {a:Option Addr} (h:Sl w X a l) (he:Ex F w w') (c:∀b,X b->b≠F):Sl w' X a l:=
 ((h.mono (Y:=λb=>X b/\b<w.heap.size) λb h1 h2=>⟨h1,h2⟩).kept λb hb=>he.block b hb.2 (c b hb.1)).mono λb hb _=>hb.1
def IY (w:World) (F O:Nat) (s:ByteArray) (u:Value) (cF:Array Value) (wr:World):Prop:=
 Ex F w wr/\Ac wr (w.heap.size+1) zd 31/\Ac wr O #[.string s,u] 31/\Ac wr F cF 146/\O<wr.heap.size
theorem JR {f ab:Array Value} {a:Obj} (af:F<w.heap.size) (hO:w.heap.size+2<=O) (h:IY w F O s u f wr) (hu:∀k,u.ownBlock=some k->O+1<=k)
  (aa:Ex F wr w1) (g:Ac w1 F ab 146) (c:(w1.alloc a).grownBy w3 u.ownBlock):IY w F O s v ab (w3.setCell (zD O 1) v):=by
 obtain⟨h1,h2,h3,h4,h5⟩:=h;have d:∀b,b<O+1->some b≠u.ownBlock:=λb hb e=>by have:=hu b e.symm; omega
 have ag:=aa.size;have i:=c.size;simp at i;refine⟨(((h1.trans aa).alloc a).grown c (λk hk=>by have:=hu k hk; omega)).setNew (by omega) _ _,?_,?_,?_,by simp[World.setCell]; omega⟩
 ·exact(((h2.ex aa (by omega)).alloc a).grown c (d _ (by omega))).setOther _ _ (by omega)
 ·exact(((h3.ex aa (by omega)).alloc a).grown c (d _ (by omega))).set 1 _
 ·exact((g.alloc a).grown c (d _ (by omega))).setOther _ _ (by omega)
theorem OI {L:List Tm} {a:Obj} {c:Nat} (ai:F<O) (hOr:O<wr.heap.size) (aa:A1 wr (O+1) 31 (λ_=>False) u L xs)
  (d:Ex F wr w1) (ht:TV w1 (λb=>wr.heap.size<=b) (.agg #[.string s',.slice a1 c c1]) t)
  (ab:w3.ownsRow (O+1) 31 2 (.slice (some (zD g 0)) (L.length+1) cap) (L.length+1) (xs++[.string s',.slice a1 c c1])) (e:(w1.alloc a).grownBy w3 u.ownBlock) (f:u.ownBlock=some g∨g=(w1.alloc a).heap.size):
  A1 (w3.setCell (zD O 1) (.slice (some (zD g 0)) (L.length+1) cap)) (O+1) 31 (λ_=>False) (.slice (some (zD g 0)) (L.length+1) cap) (L++[t]) (xs++[.string s',.slice a1 c c1]):=by
 obtain⟨wm,i,aj,j⟩:=d.mid;have k:=aa.ex j (by omega) (λh=>h);exact(k.push (w1:=w1) (w2:=w1.alloc a) (w3:=w3) (by omega) (λ_ h=>h.elim) i (ht.mono λb h _=>Ad (by omega)) a rfl ab e f).setCell (by omega) (λh=>h) _
def OJ (w:World) (F O:Nat) (s:ByteArray) (sv:Value) (l:List Tm) (n:Nat) (i:Value) (wr:World):Prop:=
 ∃(k:Nat) (u:Value),k<=l.length/\i=zA k/\
  ((∃(m:Nat) (xs:List Value),(m:Int)=(n:Int)-1-Ab (l.take k)/\IY w F O s u #[zA m,sv] wr/\A1 wr (O+1) 31 (λ_=>False) u (l.take k) xs)∨
   (n<1+Ab l/\IY w F O s u #[zA (-1),sv] wr/\∃a9 l9 c9,u=.slice a9 l9 c9))
theorem JS (F:Nat) (r:Value) (t:Tm):∀(n:Nat) (v:Value) (w:World) (X:Nat->Prop),TV w X v t->(∀b,X b->b≠F)->n<=1000000->Ac w F #[zA n,r] 146->
  Calls prog 114 #[zC F,v,.func (.func 115) #[zC F] #[]] w λe w'=>E6 w F r t n e w':=by
 induction t using Tm.ind with
 |h s l ih=>
  intro n v w X hv aC hn hF;obtain⟨a,c,rfl,hs⟩:=hv;have IH:=Aa ih;clear ih;obtain⟨i0,aD,aE,aF,aG⟩:=DO Tryz.infoTerm;have f0:∀o,(w.alloc o).cell? (zD F 0)=some (zA n):=λo=>(hF.alloc o).cell 0;have ff:∀o,(w.alloc o).frozen? (zD F 0)=false:=λo=>(hF.alloc o).frozen 0;have aH:F<w.heap.size:=hF.lt;go_enter func114,ntmps114;go_wp2_with fail;have E3:Hid (IY w F (w.heap.size+1+1) s zB #[zA ((n:Int)-1),r] ((((w.setCell (zD F 0) (zA ((n:Int)-1))).alloc (zh #[.string s,.slice a l.length c] 31)).alloc zc).alloc (zh #[.string s,zB] 31))):=by
   refine⟨((((Ex.refl F w).set 0 _).alloc _).alloc _).alloc _,?_,?_,(((hF.set 0 _).alloc _).alloc _).alloc _,by simp[World.setCell]⟩
   ·have h:=(Ac.new ((w.setCell (zD F 0) (zA ((n:Int)-1))).alloc (zh #[.string s,.slice a l.length c] 31)) zd 31).alloc (zh #[.string s,zB] 31);simpa [World.setCell] using h
   ·have h:=Ac.new (((w.setCell (zD F 0) (zA ((n:Int)-1))).alloc (zh #[.string s,.slice a l.length c] 31)).alloc zc) #[.string s,zB] 31;simpa [World.setCell] using h
  generalize ((((w.setCell (zD F 0) (zA ((n:Int)-1))).alloc (zh #[.string s,.slice a l.length c] 31)).alloc zc).alloc (zh #[.string s,zB] 31))=w3 at *;generalize aK:w.heap.size+1+1=O at *;have hO:w.heap.size+2<=O:=by omega
  clear aK;clear f0 ff;have HS:=Aa hs;have hl:=hs.1;have R:=Aa aC;have hz:Ab [(⟨s,l⟩:Tm)]=1+Ab l:=by simp[Ab]
  clear hs aC;go_loopw [23] (λi wr=>OJ w F O s r l n i wr) (λi wr=>l.length-(intOf i).toNat);case atStart=>
   refine⟨0,zB,Be _,rfl,?_⟩;by_cases aL:n=0
   ·subst aL;exact Ad ⟨by omega,E3.o,none,0,0,rfl⟩
   ·refine Ae ⟨n-1,[],by simp[Ab]; omega,?_,A1.start _ _ _ _⟩;rw[show((n-1:Nat):Int)=(n:Int)-1 by omega];exact E3.o
  case round=>
   obtain⟨k,u,hk,rfl,ak⟩:=hrel;rcases ak with ⟨m,xs,hm,D,al⟩|⟨aM,D,a9,E,y,rfl⟩
   ·have d:=Aa D;have q:=Aa al;have J:=Aa hm;clear D al;by_cases z:k<l.length
    ·obtain⟨b,o,a',c',rfl,d0,d1,hx⟩:=(HS.o.ex d.o.1 R.o).get (Ag _ _) (λ_ _ h=>h) k z;obtain⟨av,cv,ev,aN⟩:=hx;simp at ev;obtain⟨rfl,rfl⟩:=ev;have aO:m<=1000000:=(by omega);have C:Hid (O≠F):=Aa (by omega);have an:Hid (F<O+1):=Aa (by omega);have hlen:=E4 l;have T:(l.take k).length=k:=by simp; omega
     have aU:k<=1000000:=by have h1:=E4 (l.take k); rw[T] at h1; omega
     have L:Hid ((l.take k).length+1<=maxLen/\((l.take k).length+1)*40<=140737488355328):=Aa (by rw[T];exact⟨by unfold maxLen; omega,by omega⟩);clear T;have M:Hid (Calls prog 115 #[zC F,.agg (zF l[k] a' c')] (wr.alloc (ze l[k] a' c')).drew λe f=>E6 (wr.alloc (ze l[k] a' c')).drew F r l[k] m e f):=YA F r l[k] m a' c' _ (by have:=d.o.1.size; simp; omega) (IH.o l[k] (AM z) m _ _ X ⟨a',c',rfl,((aN.later ((Ag _ _).alloc (Al _) (ze l[k] a' c'))).later ((Ag _ _).drew)).later (((Ag _ _).alloc (Al _) _).alloc (by simp) _)⟩ R.o aO (by exact((((d.o.2.2.2.1.alloc _).drewN 1).alloc _).alloc _)));have f0:∀o,(wr.alloc o).cell? (zD F 0)=some (zA m):=λo=>(d.o.2.2.2.1.alloc o).cell 0;have U:∀o,(wr.alloc o).cell? (zD O 1)=some u:=λo=>(d.o.2.2.1.alloc o).cell 1;have aV:¬(m:Int)<0:=(by omega);by_cases hle:Ab [l[k]]<=m
     ·have V:Hid (Calls prog 115 #[zC F,.agg (zF l[k] a' c')] (wr.alloc (ze l[k] a' c')).drew λe f=>∃a1 c1,e=.returned (.agg (zF l[k] a1 c1))/\Ac f F #[zA ((m:Int)-Ab [l[k]]),r] 146/\Ex F wr f/\Sl f (λb=>wr.heap.size<=b) a1 l[k].args):=M.o.mono λe f hp=>by
       obtain⟨s1,a1,l1,c1,m1,h1,h2,h3,W,_⟩:=hp;obtain⟨rfl,rfl,rfl,h5⟩:=W hle;exact⟨a1,c1,h1,h2,(((Ex.refl F wr).alloc _).drew).trans h3,h5.mono λb hb _=>by simp at hb; omega⟩
      clear M;go_wp2_with fail;go_region_law (first
       | (go_simp; go_at_call 115; refine V.o.mono ?_; rintro e w1 ⟨a1,c1,rfl,G,ab,aI⟩; have Y:∀o,(w1.alloc o).cell? (zD O 1)=some u:=λo=>((Ac.ex d.o.2.2.1 ab C.o).alloc o).cell 1; have Z:w1.cell? (zD O 1)=some u:=(Ac.ex d.o.2.2.1 ab C.o).cell 1)
       | (refine step_append_lies _ rfl _ _ 29 rfl (O+1) 31 i0 _ 2 40 underlying29 aD aE aF aG rfl (by decide) u (l.take k).length xs rfl (by exact(A1.ex (B:=F) q.o ab an.o (λh=>h)).own.alloc _) (zD w1.heap.size 0) 1 1 [.string l[k].name,.slice a1 l[k].args.length c1] rfl rfl (cell_two_new _ _ _ _) (λx hx=>by simp at hx; rcases hx with rfl|rfl<;>rfl) (by decide) L.o.1 L.o.2 (by have:=ab.size; have:=d.o.2.2.2.2; simp; omega) _ rfl ?_; intro g cap w3 N aa P ah; have A:=Aa (((Ac.ex d.o.2.2.1 ab C.o).alloc _).grown aa (q.o.ne (F2 _))); have a8:w3.cell? (zD O 1)=some u:=A.o.cell 1; have aA:=A.o.frozen 1))
      all_goals
       have HK:=Aa (JR (v:=.slice (some (zD g 0)) ((l.take k).length+1) cap) aH hO d.o (λj hj=>(q.o.own.lt j hj).1) ab G aa);have aP:=Aa (OI (by omega) d.o.2.2.2.2 q.o ab ⟨a1,c1,rfl,aI⟩ N aa P);clear N aa P Y Z a8 aA A G ab aI ah;go_wp2_with fail;go_roundw
       case rel=>
        have aB:(l.take k).length=k:=by simp; omega
        have h1:=HK.o;have h2:=aP.o;have aJ:=J.o;simp only[aB] at h1 h2;refine⟨k+1,.slice (some (zD g 0)) (k+1) cap,by omega,by go_num,Ae ⟨m-Ab [l[k]],xs++[.string l[k].name,.slice a1 l[k].args.length c1],by rw[DP l k z]; omega,?_,?_⟩⟩
        ·rw[show((m-Ab [l[k]]:Nat):Int)=(m:Int)-Ab [l[k]] by omega];exact h1
        ·rw[Ci z];exact h2
       case measure=>simp[intOf]; omega
     ·have V:Hid (Calls prog 115 #[zC F,.agg (zF l[k] a' c')] (wr.alloc (ze l[k] a' c')).drew λe f=>∃s1 a1 l1 c1,e=.returned (.agg #[.string s1,.slice a1 l1 c1])/\Ac f F #[zA (-1),r] 146/\Ex F wr f):=M.o.mono λe f hp=>by
       obtain⟨s1,a1,l1,c1,m1,h1,h2,h3,_,W⟩:=hp;obtain rfl:=W (by omega);exact⟨s1,a1,l1,c1,h1,h2,(((Ex.refl F wr).alloc _).drew).trans h3⟩
      clear M;go_wp2_with fail;go_region_law (first
       | (go_simp; go_at_call 115; refine V.o.mono ?_; rintro e w1 ⟨s1,a1,l1,c1,rfl,G,ab⟩; have Y:∀o,(w1.alloc o).cell? (zD O 1)=some u:=λo=>((Ac.ex d.o.2.2.1 ab C.o).alloc o).cell 1; have Z:w1.cell? (zD O 1)=some u:=(Ac.ex d.o.2.2.1 ab C.o).cell 1)
       | (refine step_append_lies _ rfl _ _ 29 rfl (O+1) 31 i0 _ 2 40 underlying29 aD aE aF aG rfl (by decide) u (l.take k).length xs rfl (by exact(A1.ex (B:=F) q.o ab an.o (λh=>h)).own.alloc _) (zD w1.heap.size 0) 1 1 [.string s1,.slice a1 l1 c1] rfl rfl (cell_two_new _ _ _ _) (λx hx=>by simp at hx; rcases hx with rfl|rfl<;>rfl) (by decide) L.o.1 L.o.2 (by have:=ab.size; have:=d.o.2.2.2.2; simp; omega) _ rfl ?_; intro g cap w3 N aa P ah; have A:=Aa (((Ac.ex d.o.2.2.1 ab C.o).alloc _).grown aa (q.o.ne (F2 _))); have a8:w3.cell? (zD O 1)=some u:=A.o.cell 1; have aA:=A.o.frozen 1))
      all_goals
       have HK:=Aa (JR (v:=.slice (some (zD g 0)) ((l.take k).length+1) cap) aH hO d.o (λj hj=>(q.o.own.lt j hj).1) ab G aa);clear N aa P Y Z a8 aA A G ab ah;go_wp2_with fail;go_roundw
       case rel=>
        have aB:(l.take k).length=k:=by simp; omega
        have h0:=HK.o;have aJ:=J.o;simp only[aB] at h0;refine⟨k+1,.slice (some (zD g 0)) (k+1) cap,by omega,by go_num,Ad ⟨?_,h0,_,_,_,rfl⟩⟩;have h1:=DP l k z;have h2:=Eu l (k+1);omega
       case measure=>simp[intOf]; omega
    ·have aQ:l.take k=l:=BH (by omega);rw[aQ]at q J;obtain⟨a9,y,aR,aq⟩:=q.o.sl;subst aR;have S9:=Aa aq;clear aq;have H:=d.o.2.1.c0;have I:=d.o.2.1.c1;have rf:=d.o.2.1.frozen;have o0:=d.o.2.2.1.c0;have U:=d.o.2.2.1.c1;go_wp2_with fail;refine Aq (v:=.agg #[.string s,.slice a9 l.length y]) (by simp[results,results114,go_sem,Az,Aw,H,I]) rfl ?_;have aJ:=J.o;refine⟨s,a9,l.length,y,m,rfl,(d.o.2.2.2.1.setOther _ _ (by omega)).setOther _ _ (by omega),(d.o.1.setNew (by omega) _ _).setNew (by omega) _ _,λh=>⟨by rw[hz]; omega,rfl,rfl,(S9.o.kept λb hb=>?_).mono λb hb _=>?_⟩,λh=>by omega⟩
     ·have aS:O+1<=b:=hb.elim False.elim id;rw[An _ _ _ _ (by simp; omega),An _ _ _ _ (by simp; omega)]
     ·have aS:O+1<=b:=hb.elim False.elim id;omega
   ·have d:=Aa D;clear D;have f0:∀o,(wr.alloc o).cell? (zD F 0)=some (zA (-1)):=λo=>(d.o.2.2.2.1.alloc o).cell 0;by_cases z:k<l.length
    ·obtain⟨b,o,a',c',rfl,d0,d1,hx⟩:=(HS.o.ex d.o.1 R.o).get (Ag _ _) (λ_ _ h=>h) k z;clear hx;have o0:∀o,(wr.alloc o).cell? (zD O 0)=some (.string s):=λo=>(d.o.2.2.1.alloc o).cell 0;have U:∀o,(wr.alloc o).cell? (zD O 1)=some (.slice a9 E y):=λo=>(d.o.2.2.1.alloc o).cell 1;have H:=d.o.2.1.c0;have I:=d.o.2.1.c1;have rf:=d.o.2.1.frozen;have aT:w.heap.size+1<wr.heap.size:=d.o.2.1.lt;go_wp2_with fail;refine Aq (v:=.agg #[.string s,.slice a9 E y]) (by simp[results,results114,go_sem,Az,Aw,H,I,aT,Cz]) rfl ?_;exact⟨s,a9,E,y,-1,rfl,((d.o.2.2.2.1.setOther _ _ (by omega)).setOther _ _ (by omega)).alloc _,((d.o.1.setNew (by omega) _ _).setNew (by omega) _ _).alloc _,λh=>by omega,λ_=>rfl⟩
    ·have H:=d.o.2.1.c0;have I:=d.o.2.1.c1;have rf:=d.o.2.1.frozen;have o0:=d.o.2.2.1.c0;have U:=d.o.2.2.1.c1;go_wp2_with fail;refine Aq (v:=.agg #[.string s,.slice a9 E y]) (by simp[results,results114,go_sem,Az,Aw,H,I]) rfl ?_;exact⟨s,a9,E,y,-1,rfl,(d.o.2.2.2.1.setOther _ _ (by omega)).setOther _ _ (by omega),(d.o.1.setNew (by omega) _ _).setNew (by omega) _ _,λh=>by omega,λ_=>rfl⟩
