import Derived.Test.YthaililgaompeaaGreatDoorZETopNewmanOwn
import Derived.Deep.RegionHeld3
import Derived.Test.YthaililgaompeaaGreatDoorEn1
import Derived.Deep.RegionHeld
import Derived.Deep.DeepCutAuto
namespace Go.Proofs.YthaililgaompeaaGreatDoor
set_option linter.all false
set_option maxRecDepth 20000
set_option maxHeartbeats 8000000
open Go.RowKit Go.Shelf Go.Proofs.Tryz
attribute [local go_sem] Ho
variable {a a' p t x:Tm} {l rs:List Pr} {w w' w3:World} {A N Q T cap d g k m n r:Nat} {xs:List Value} {u1 u2 v v1:Value} {h h' ls s s':List Bd} {inner lim:Bool} {Y:Nat->Prop} {s1:ByteArray}
theorem O4 (s:ByteArray) (aa fa:Option Addr) (n ca fn fc:Nat) (w:World):
  Calls prog 39 #[.agg #[.string s,.slice aa n ca],.slice fa fn fc] w λe w'=>e=.returned (.func (.func 60) #[] #[zC w.heap.size,zC (w.heap.size+1)])/\w'=(w.alloc (zh #[.string s,.slice aa n ca] 31)).alloc (zh #[.slice fa fn fc] 22):=by
 have ab:=@hmq prog;go_enter func39,ntmps39;go_wp2_with fail;go_ret;exact⟨rfl,rfl⟩
theorem SB (ua:Option Addr) (un uc:Nat) (fn:Fn) (c1 c2:Array Value) (w:World):
  Calls prog 38 #[.slice ua un uc,.func fn c1 c2] w λe w'=>e=.returned (.func (.func 58) #[] #[zC (w.heap.size+1),zC w.heap.size])/\w'=(w.alloc (zh #[.slice ua un uc] 23)).alloc (zh #[.func fn c1 c2] 80):=by
 have aa:=@hmq prog;go_enter func38,ntmps38;go_wp2_with fail;go_ret;exact⟨rfl,rfl⟩
def G5 (w:World) (os:List Obj):World:=os.foldl (λw o=>w.alloc o) w
theorem Fe:∀(os:List Obj) (w:World),Below w.heap.size w (G5 w os)/\(G5 w os).heap.size=w.heap.size+os.length/\∀(i:Nat) (o:Obj),os[i]? = some o->(G5 w os).heap[w.heap.size+i]? = some o
 | [],w=>⟨Ag _ _,rfl,λi o h=>by simp at h⟩
 |o::os,w=>by
  obtain⟨h1,h2,h3⟩:=Fe os (w.alloc o);have e:G5 w (o::os)=G5 (w.alloc o) os:=rfl;rw[e];refine⟨((Ag _ _).alloc (Al _) o).trans (h1.mono (by simp)),by rw[h2]; simp; omega,λi o' hi=>?_⟩;cases i with
  |zero=>simp at hi;subst hi;have:=h1.block w.heap.size (by simp);rw[Hp,this];exact World.alloc_heap_new w o
  |succ i=>have:=h3 i o' (by simpa using hi);rw[Cp]at this;rw[show w.heap.size+(i+1)=w.heap.size+1+i by omega];exact this
theorem ZN:∀(l:List Tm) (hs:List Int) (j st:Nat) (r:List Int) (d:Dn),d∈Cg hs j st r l->∃(k:Nat) (p:List Int) (h:k<l.length),d.1=hs++((j+k:Nat):Int)::p/\AA l[k] p=some d.2:=by
 intro l;induction l using Tm.indL with
 |h0=>intro hs j st r d h; simp[Cg] at h
 |h s l rest aa ab=>
  intro hs j st r d h;rw[Ht]at h;rcases Ba.1 h with h|h
  ·split at h
   ·simp at h
   ·unfold BB at h;rcases Bh.1 h with h|h
    ·subst h;exact⟨0,[],by simp,by simp,by simp[AA]⟩
    ·obtain⟨k,p,hk,a,b⟩:=aa _ _ _ _ _ h;refine⟨0,((0+k:Nat):Int)::p,by simp,by rw[a]; simp,?_⟩;have e:((0+k:Nat):Int).toNat=k:=(by omega);simp only[Gs,AA];rw[EY ⟨by omega,by rw[e]; exact hk⟩];simp only[e];exact b
  ·obtain⟨k,p,hk,a,b⟩:=ab _ _ _ _ _ h;exact⟨k+1,p,by simp; omega,by rw[a,show j+1+k=j+(k+1) by omega],by simpa using b⟩
theorem MP {hs a:List Int} {d:Dn} (h:d∈BB hs a t):∃p,d.1=hs++p/\AA t p=some d.2:=by
 unfold BB at h;rcases Bh.1 h with h|h
 ·subst h;exact⟨[],by simp,by simp[AA]⟩
 ·obtain⟨k,p,hk,b,c⟩:=ZN _ _ _ _ _ _ h;refine⟨((0+k:Nat):Int)::p,b,?_⟩;have e:((0+k:Nat):Int).toNat=k:=by omega
  rw[AA,EY ⟨by omega,by rw[e]; exact hk⟩];simp only[e];exact c
theorem JZ {b:List Int} {c:Ch} (h:c∈Ct rs t b):AA t c.1.1=some c.1.2:=by
 obtain⟨d,hd,hc⟩:=IM.1 h;obtain⟨y,_,rfl⟩:=Bk.1 hc;obtain⟨p,a,e⟩:=MP hd;rw[CE]at a;rw[a];exact e
theorem O6:∀(l:List Tm) (hs:List Int) (j st:Nat) (r:List Int),(Cg hs j st r l).length<=Ab l:=by
 intro l;induction l using Tm.indL with
 |h0=>intro hs j st r; simp[Cg]
 |h s l rest aa ab=>
  intro hs j st r;rw[Ht,Cv];have h2:=ab hs (j+1) st r;have e:Ab ((⟨s,l⟩:Tm)::rest)=1+Ab l+Ab rest:=by simp[Ab]
  rw[e];split
  ·simp; omega
  ·unfold BB;have h1:=aa (hs++[(j:Int)]) 0 (Bv (if j=st then r else [])) (if j=st then r else []).tail;rw[Bg];have a:(⟨s,l⟩:Tm).args=l:=rfl;rw[a];omega
theorem SC (rs:List Pr) (t:Tm) (b:List Int):(Ct rs t b).length<=Ab [t]*rs.length:=by
 have h1:∀a:List Dn,(a.flatMap (Cm rs)).length<=a.length*rs.length:=by
  intro a;induction a with
  |nil=>simp
  |cons d a ih=>
   rw[Hm,Cv,Bg,Nat.add_mul,Nat.one_mul];have:(Cm rs d).length<=rs.length:=by unfold Cm Bs; rw[EZ]; exact List.length_filterMap_le _ _
   omega
 have h2:(BB [] b t).length<=Ab [t]:=by
  obtain⟨s,l⟩:=t;unfold BB;have:=O6 l [] 0 (Bv b) b.tail;have e:Ab [(⟨s,l⟩:Tm)]=1+Ab l:=by simp[Ab]
  rw[e,Bg];simp only;omega
 exact Bf (h1 _) (Nat.mul_le_mul_right _ h2)
theorem ZP {b z2:Value} (h:w3.ownsRow N T 2 (.slice (some (zD g 0)) (n+1) cap) (n+1) (xs++[b,z2])) (hx:xs.length=n*2):
  w3.cell? ⟨g,n*2,none⟩=some b/\w3.cell? ⟨g,n*2+1,none⟩=some z2/\(∀i,w3.frozen? (zD g i)=false)/\∀wF:World,wF.heap[g]? = ((w3.setCell ⟨g,n*2,none⟩ u1).setCell ⟨g,n*2+1,none⟩ u2).heap[g]? -> wF.ownsRow N T 2 (.slice (some (zD g 0)) (n+1) cap) (n+1) (xs++[u1,u2]):=by
 obtain⟨hl,h1⟩:=h;rcases h1 with ⟨h1,_⟩|⟨g',ab,cur,hv,c,a,d,e,hcs,aa⟩
 ·cases h1
 ·simp at hv;obtain⟨rfl,rfl⟩:=hv;have hlt:n*2+1<cur.size:=by omega
  have c1:cur.toList[n*2]? = some b:=(by have:=Cb (λl=>l[n*2]?) aa;rw[List.getElem?_take_of_lt (by omega),LZ (by omega),hx]at this;simpa using this);have c2:cur.toList[n*2+1]? = some z2:=(by have:=Cb (λl=>l[n*2+1]?) aa;rw[List.getElem?_take_of_lt (by omega),LZ (by omega),hx]at this;simpa using this);refine⟨by simpa [World.cell?,a] using c1,by simpa [World.cell?,a] using c2,λi=>by simp[World.frozen?,a],λwF hF=>⟨by simp[hx]; omega,Ad ⟨g,cap,(cur.setIfInBounds (n*2) u1).setIfInBounds (n*2+1) u2,rfl,c,?_,d,e,by simpa using hcs,?_⟩⟩⟩
  ·rw[hF];simp[World.setCell,Jq,a]
  ·rw[NX,NX,KH,KH,aa];rw[List.set_append_right _ _ (by omega),List.set_append_right _ _ (by omega),hx];simp
theorem Ac.set1R {q:Value} (h:Ac w A #[q] T):Ac (w.setCell (zD A 0) v) A #[v] T:=by
 unfold Ac at *;simp[World.setCell,Jq,h]
structure O7 (w3:World) (A g n cap T:Nat) (u1 u2:Value) (wF:World):Prop where
 os:wF.os=w3.os
 tape:wF.tape=w3.tape
 output:wF.output=w3.output
 size:wF.heap.size=w3.heap.size
 other:∀b,b≠g->b≠A->wF.heap[b]? = w3.heap[b]?
 box:Ac wF A #[.slice (some (zD g 0)) (n+1) cap] T
 row:wF.heap[g]? = ((w3.setCell ⟨g,n*2,none⟩ u1).setCell ⟨g,n*2+1,none⟩ u2).heap[g]?
theorem SD (a:A≠g) (c:Ac w3 A #[v] T):O7 w3 A g n cap T u1 u2 (((w3.setCell ⟨g,n*2,none⟩ u1).setCell ⟨g,n*2+1,none⟩ u2).setCell (zD A 0) (.slice (some (zD g 0)) (n+1) cap)):=
 ⟨rfl,rfl,rfl,by simp[World.setCell],λb h1 h2=>by rw[An _ _ _ _ (by simpa using h2),An _ _ _ _ (by simpa using h1),An _ _ _ _ (by simpa using h1)],Ac.set1R ((c.setOther _ _ a).setOther _ _ a),An _ _ _ _ (by simpa using λe=>a e.symm)⟩
theorem SE (a:A≠g) (c:Ac w3 A #[v] T):O7 w3 A g n cap T u1 u2 (((w3.setCell (zD A 0) (.slice (some (zD g 0)) (n+1) cap)).setCell ⟨g,n*2,none⟩ u1).setCell ⟨g,n*2+1,none⟩ u2):=by
 refine⟨rfl,rfl,rfl,by simp[World.setCell],λb h1 h2=>by rw[An _ _ _ _ (by simpa using h1),An _ _ _ _ (by simpa using h1),An _ _ _ _ (by simpa using h2)],((Ac.set1R c).setOther _ _ a).setOther _ _ a,?_⟩;have e:(w3.setCell (zD A 0) (.slice (some (zD g 0)) (n+1) cap)).heap[g]? = w3.heap[g]? := An _ _ _ _ (by simpa using λe=>a e.symm);simp only[World.setCell,Jq] at e ⊢;simp only[e]
theorem Fs {e z:Nat} (h:w.ownsRow N e z v n xs):∃a c,v=.slice a n c:=by
 rcases h.2 with ⟨rfl,rfl⟩|⟨g,cap,cur,hv,_⟩
 ·exact⟨none,0,rfl⟩
 ·exact⟨_,_,hv⟩
def Bt (t:Tm) (c:Ch):Tm:=AJ (DV c.2) c.1.1 t
def JA (t:Tm) (X K:Nat->Prop) (A R4 R5 L:Nat) (r rd:Loop) (W0:World):Tk Ch:=λpre s f W=>
 (∀b,K b->b<W0.heap.size/\¬f b)/\W0.heap.size<=W.heap.size/\(∀b,K b->W.heap[b]? = W0.heap[b]?)/\W.heap[L]? = some (.loop (if s=true then r else rd))/\Ac W R4 #[zB] 29/\Ac W R5 #[zA (if s=true then 0 else 8)] 26/\
 (∃(v:Value) (l:List Tm) (xs:List Value) (E:Nat->Prop),(∀b,f b↔b=L∨b=A∨b=R4∨b=R5∨v.ownBlock=some b∨E b)/\(∀b,E b->W0.heap.size<=b/\b<W.heap.size/\v.ownBlock≠some b)/\Ac W A #[v] 29/\W.ownsRow W0.heap.size 31 2 v l.length xs/\BK W (λb=>X b∨E b) l xs/\(s=true->l=pre.map (Bt t)))/\
 (s=true->∀c∈pre,¬Ga t c.1 c.2)/\(s=false->∃c∈pre,Ga t c.1 c.2)
theorem JA.ok {X K:Nat->Prop} {R4 R5 L:Nat} {r rd:Loop} {W0:World} (aa:∀b,X b->K b):EQ (JA t X K A R4 R5 L r rd W0) K where
 inside:=by
  rintro pre s f W ⟨e,hz,n,i,j,k,⟨v,l,xs,E,c,d,m,ho,o,q⟩,h1,h2⟩ b hb;rcases hb with hb|hb
  ·rcases(c b).1 hb with h|h|h|h|h|h
   ·subst h; exact(CO.1 i).1
   ·subst h; exact m.lt
   ·subst h; exact j.lt
   ·subst h; exact k.lt
   ·exact(ho.lt b h).2
   ·exact(d b h).2.1
  ·have:=(e b hb).1; omega
 apart:=by
  rintro pre s f W ⟨e,hz,n,i,j,k,⟨v,l,xs,E,c,d,m,ho,o,q⟩,h1,h2⟩ b hb;exact(e b hb).2
 abide:=by
  rintro pre s f W W' ⟨e,hz,n,i,j,k,⟨v,l,xs,E,c,d,m,ho,o,q⟩,h1,h2⟩ hs hk;refine⟨e,Bf hz hs,λb hb=>(hk b (Ad hb)).trans (n b hb),(hk L (Ae ((c L).2 (Ae rfl)))).trans i,(hk R4 (Ae ((c R4).2 (Ad (Ad (Ae rfl)))))).trans j,(hk R5 (Ae ((c R5).2 (Ad (Ad (Ad (Ae rfl))))))).trans k,⟨v,l,xs,E,c,λb hb=>⟨(d b hb).1,B7 (d b hb).2.1 hs,(d b hb).2.2⟩,(hk A (Ae ((c A).2 (Ad (Ae rfl))))).trans m,Dc ho λg u=>hk g (Ae ((c g).2 (Ad (Ad (Ad (Ad (Ae u))))))),o.imp λa l ab=>ab.kept λb hb=>?_,q⟩,h1,h2⟩;rcases hb with hb|hb
  ·exact hk b (Ad (aa b hb))
  ·exact hk b (Ae ((c b).2 (Ad (Ad (Ad (Ad (Ad hb)))))))
def O8 (rs:List Pr) (t:Tm) (X:Nat->Prop) (w:World) (e:Ending) (w':World):Prop:=
 Below w.heap.size w w'/\(((∀c∈Ct rs t [],¬Ga t c.1 c.2)/\∃v xs,e=.returned (.tuple #[v,zA 0])/\w'.ownsRow w.heap.size 31 2 v ((Ct rs t []).map (Bt t)).length xs/\BK w' (λb=>(X b/\b<w.heap.size)∨(w.heap.size<=b/\v.ownBlock≠some b)) ((Ct rs t []).map (Bt t)) xs)∨
  ((∃c∈Ct rs t [],Ga t c.1 c.2)/\e=.returned (.tuple #[zB,zA 8])))
theorem ZQ (rs:List Pr) (t:Tm) (u:Value) (aa:Option Addr) (ca:Nat) (w:World) (X0:Nat->Prop) (hu:QV w X0 u rs) (hs:Sl w X0 aa t.args) (hz:Ab [t]<=2000) (bU:rs.length<=400):
  Calls prog 26 #[u,.agg (zF t aa ca)] w λe w'=>O8 rs t X0 w e w':=by
 obtain⟨X,hX,b3,hu,hs⟩:∃X:Nat->Prop,(∀b,X b->b<w.heap.size)/\(∀b,X b->X0 b)/\QV w X u rs/\Sl w X aa t.args:=⟨λb=>X0 b/\b<w.heap.size,λ_ h=>h.2,λ_ h=>h.1,hu.mono λb h1 h2=>⟨h1,h2⟩,hs.mono λb h1 h2=>⟨h1,h2⟩⟩;have HX:=Aa hX;have bV:=Aa b3;have HU:=Aa hu;have HS:=Aa hs;obtain⟨ua,uc,rfl,cB,_⟩:=hu;clear hX b3 hs;refine(CP (n:=3)).1 ?_;refine callsIn_of_wp_marks func26 rfl trivial ?_ rfl;simp only[ntmps26,Js,Bg,DB,Nat.reduceAdd,Nat.reduceSub,Jt,Ju,Jv,Jw,CE,Bj];have cC:Fence.wide.fn 39:=trivial;have cD:Fence.wide.fn 38:=trivial;gi_wp2_with (first|(gi_at_call 39; refine(CP.2 (O4 _ _ _ _ _ _ _ _)).mono ?_; rintro e w' ⟨rfl,rfl⟩)|(gi_at_call 38; refine(CP.2 (SB _ _ _ _ _ _ _)).mono ?_; rintro e w' ⟨rfl,rfl⟩))
 refine La (gf:=58) (lb:=#[zC (w.heap.size+7),zC (w.heap.size+6)]) rfl (enters_of func58 (by kernel_rfl) rfl) ?_;intro r aL aM aN aO aP aQ;have aR:((((((((w.alloc (ze t aa ca)).alloc (zh #[zB] 29)).alloc (zh #[zA 0] 26)).alloc (zh #[zB] 29)).alloc (ze t aa ca)).alloc (zh #[zB] 22)).alloc (zh #[.slice ua rs.length uc] 23)).alloc (zh #[.func (.func 60) #[] #[zC (w.heap.size+4),zC (w.heap.size+5)]] 80)).heap.size=w.heap.size+8:=by simp
 have a8:((((((((((w.alloc (ze t aa ca)).alloc (zh #[zB] 29)).alloc (zh #[zA 0] 26)).alloc (zh #[zB] 29)).alloc (ze t aa ca)).alloc (zh #[zB] 22)).alloc (zh #[.slice ua rs.length uc] 23)).alloc (zh #[.func (.func 60) #[] #[zC (w.heap.size+4),zC (w.heap.size+5)]] 80)).alloc (.deferred (some []))).alloc (.loop r))=G5 w [(.cells (zF t aa ca) 31:Obj),(.cells #[zB] 29:Obj),(.cells #[zA 0] 26:Obj),(.cells #[zB] 29:Obj),(.cells (zF t aa ca) 31:Obj),(.cells #[zB] 22:Obj),(.cells #[.slice ua rs.length uc] 23:Obj),(.cells #[.func (.func 60) #[] #[zC (w.heap.size+4),zC (w.heap.size+5)]] 80:Obj),(.deferred (some []):Obj),(.loop r:Obj)]:=rfl;rw[aR];have M:=Aa (Fe [(.cells (zF t aa ca) 31:Obj),(.cells #[zB] 29:Obj),(.cells #[zA 0] 26:Obj),(.cells #[zB] 29:Obj),(.cells (zF t aa ca) 31:Obj),(.cells #[zB] 22:Obj),(.cells #[.slice ua rs.length uc] 23:Obj),(.cells #[.func (.func 60) #[] #[zC (w.heap.size+4),zC (w.heap.size+5)]] 80:Obj),(.deferred (some []):Obj),(.loop r:Obj)] w);rw[<-a8]at M;clear a8;generalize ((((((((((w.alloc (ze t aa ca)).alloc (zh #[zB] 29)).alloc (zh #[zA 0] 26)).alloc (zh #[zB] 29)).alloc (ze t aa ca)).alloc (zh #[zB] 22)).alloc (zh #[.slice ua rs.length uc] 23)).alloc (zh #[.func (.func 60) #[] #[zC (w.heap.size+4),zC (w.heap.size+5)]] 80)).alloc (.deferred (some []))).alloc (.loop r))=z at *;have cE:z.heap.size=w.heap.size+10:=M.o.2.1;have av:Hid (Below w.heap.size w z):=M.o.1;have H0:Hid (Ac z w.heap.size (zF t aa ca) 31):=M.o.2.2 0 _ rfl;have H1:Hid (Ac z (w.heap.size+1) #[zB] 29):=M.o.2.2 1 _ rfl;have H2:Hid (Ac z (w.heap.size+2) #[zA 0] 26):=M.o.2.2 2 _ rfl;have H3:Hid (Ac z (w.heap.size+3) #[zB] 29):=M.o.2.2 3 _ rfl;have H4:Hid (Ac z (w.heap.size+4) (zF t aa ca) 31):=M.o.2.2 4 _ rfl;have H5:Hid (Ac z (w.heap.size+5) #[zB] 22):=M.o.2.2 5 _ rfl;have H6:Hid (Ac z (w.heap.size+6) #[.slice ua rs.length uc] 23):=M.o.2.2 6 _ rfl;have H7:Hid (Ac z (w.heap.size+7) #[.func (.func 60) #[] #[zC (w.heap.size+4),zC (w.heap.size+5)]] 80):=M.o.2.2 7 _ rfl;have H8:Hid (z.heap[w.heap.size+8]? = some (.deferred (some []))):=M.o.2.2 8 _ rfl;have H9:Hid (z.heap[w.heap.size+9]? = some (.loop r)):=M.o.2.2 9 _ rfl;clear M;obtain⟨K,d⟩:∃K:Nat->Prop,K=λb=>X b∨b=w.heap.size:=⟨_,rfl⟩;have aw:Hid (∀b,X b->K b):=λb hb=>by rw[d]; exact Ae hb
 have bW:Hid (K w.heap.size):=Aa (by rw[d];exact Ad rfl);have ax:Hid (∀b,K b->b<=w.heap.size):=λb hb=>by
  rw[d]at hb;rcases hb with h|h
  ·have:=HX.o b h; omega
  ·omega
 clear d;obtain⟨rd,bd⟩:∃rd:Loop,rd={ r with state:=.done,pending:=some .ret}:=⟨_,rfl⟩;obtain⟨rb,b6⟩:∃rb:Loop,rb={ r with state:=.busy}:=⟨_,rfl⟩;have bf:EQ (JA t X K (w.heap.size+3) (w.heap.size+1) (w.heap.size+2) (w.heap.size+9) r rd z) K:=JA.ok aw.o;have RH:Lb (w.heap.size+9) FH (JA t X K (w.heap.size+3) (w.heap.size+1) (w.heap.size+2) (w.heap.size+9) r rd z) (Ct rs t []):=by
  have bX:=Aa aL;have bY:=Aa aM;have bZ:=Aa aN;have cb:=Aa aO;have cc:=Aa aP;have cd:=Aa aQ;clear aL aM aN aO aP aQ bf aR;intro n pre c args Z f W ay hj hl hZ;have b7:AA t c.1.1=some c.1.2:=JZ (ay.subset (by simp));have hlen:pre.length<=1000000:=(by have h1:=ay.length_le;have h2:=SC rs t [];have h3:Ab [t]*rs.length<=2000*400:=Nat.mul_le_mul hz bU;rw[Cv]at h1;omega);clear ay;obtain⟨b8,cF,hC,hL,h4,h5,⟨v,l,xs,E,hf,hE,hA,ho,hr,b9⟩,aA,-⟩:=hj;obtain⟨A,B,C,D,ra,rc,q,Lm,rfl,hp,bA,aB,hq,bB⟩:=hl;simp only[F4] at hL h5;have aC:=Aa (b9 rfl);have bg:=Aa (aA rfl);have N:=Aa hf;have U:=Aa hE;have HA:=Aa hA;have HO:=Aa ho;have bh:=Aa hr;have bC:=Aa b8;have HC:=Aa hC;have aS:=Aa h4;have aT:=Aa h5;have HP:=Aa hp;have cf:=Aa bA;have cg:=Aa aB;have bD:=Aa bB;have HZ:=Aa hZ;have ch:=Aa b7;have cj:w.heap.size+9<W.heap.size:=(CO.1 hL).1;clear hf hE hA ho hr b8 hC h4 h5 hp bA aB bB hZ b7 b9 aA;refine JU b6 bd cc.o cd.o cb.o bZ.o hL bX.o bY.o rfl ?_;have bE:(W.alloc (zh #[.slice A c.1.1.length B,.string c.1.2.name,.slice C c.1.2.args.length D,.string c.2.1.r.name,.slice ra c.2.1.r.args.length rc,.map (some q)] 73)).heap[w.heap.size+9]? = some (.loop r):=(Ay _ _ _ cj).trans hL;have kV:∀b,b<W.heap.size->b≠w.heap.size+9->((W.alloc (zh #[.slice A c.1.1.length B,.string c.1.2.name,.slice C c.1.2.args.length D,.string c.2.1.r.name,.slice ra c.2.1.r.args.length rc,.map (some q)] 73)).putObj (w.heap.size+9) (.loop rb)).heap[b]? = W.heap[b]? := λb hb L=>(World.putObj_heap_other L).trans (Ay _ _ _ hb);have cG:((W.alloc (zh #[.slice A c.1.1.length B,.string c.1.2.name,.slice C c.1.2.args.length D,.string c.2.1.r.name,.slice ra c.2.1.r.args.length rc,.map (some q)] 73)).putObj (w.heap.size+9) (.loop rb)).heap.size=W.heap.size+1:=by simp
  have az:Ac ((W.alloc (zh #[.slice A c.1.1.length B,.string c.1.2.name,.slice C c.1.2.args.length D,.string c.2.1.r.name,.slice ra c.2.1.r.args.length rc,.map (some q)] 73)).putObj (w.heap.size+9) (.loop rb)) W.heap.size #[.slice A c.1.1.length B,.string c.1.2.name,.slice C c.1.2.args.length D,.string c.2.1.r.name,.slice ra c.2.1.r.args.length rc,.map (some q)] 73:=(World.putObj_heap_other (by omega)).trans (Ac.new W _ _);have bF:((W.alloc (zh #[.slice A c.1.1.length B,.string c.1.2.name,.slice C c.1.2.args.length D,.string c.2.1.r.name,.slice ra c.2.1.r.args.length rc,.map (some q)] 73)).putObj (w.heap.size+9) (.loop rb)).heap[w.heap.size+9]? = some (.loop rb):=World.putObj_heap_same (by simp; omega);have bj:Ac ((W.alloc (zh #[.slice A c.1.1.length B,.string c.1.2.name,.slice C c.1.2.args.length D,.string c.2.1.r.name,.slice ra c.2.1.r.args.length rc,.map (some q)] 73)).putObj (w.heap.size+9) (.loop rb)) w.heap.size (zF t aa ca) 31:=(kV _ (by omega) (by omega)).trans ((HC.o _ bW.o).trans H0.o);have c0:((W.alloc (zh #[.slice A c.1.1.length B,.string c.1.2.name,.slice C c.1.2.args.length D,.string c.2.1.r.name,.slice ra c.2.1.r.args.length rc,.map (some q)] 73)).putObj (w.heap.size+9) (.loop rb)).cell? (zD W.heap.size 0)=some (.slice A c.1.1.length B):=az.cell 0;have c1:((W.alloc (zh #[.slice A c.1.1.length B,.string c.1.2.name,.slice C c.1.2.args.length D,.string c.2.1.r.name,.slice ra c.2.1.r.args.length rc,.map (some q)] 73)).putObj (w.heap.size+9) (.loop rb)).cell? (zD W.heap.size 1)=some (.string c.1.2.name):=az.cell 1;have c2:((W.alloc (zh #[.slice A c.1.1.length B,.string c.1.2.name,.slice C c.1.2.args.length D,.string c.2.1.r.name,.slice ra c.2.1.r.args.length rc,.map (some q)] 73)).putObj (w.heap.size+9) (.loop rb)).cell? (zD W.heap.size 2)=some (.slice C c.1.2.args.length D):=az.cell 2;have c3:((W.alloc (zh #[.slice A c.1.1.length B,.string c.1.2.name,.slice C c.1.2.args.length D,.string c.2.1.r.name,.slice ra c.2.1.r.args.length rc,.map (some q)] 73)).putObj (w.heap.size+9) (.loop rb)).cell? (zD W.heap.size 3)=some (.string c.2.1.r.name):=az.cell 3;have c4:((W.alloc (zh #[.slice A c.1.1.length B,.string c.1.2.name,.slice C c.1.2.args.length D,.string c.2.1.r.name,.slice ra c.2.1.r.args.length rc,.map (some q)] 73)).putObj (w.heap.size+9) (.loop rb)).cell? (zD W.heap.size 4)=some (.slice ra c.2.1.r.args.length rc):=az.cell 4;have c5:((W.alloc (zh #[.slice A c.1.1.length B,.string c.1.2.name,.slice C c.1.2.args.length D,.string c.2.1.r.name,.slice ra c.2.1.r.args.length rc,.map (some q)] 73)).putObj (w.heap.size+9) (.loop rb)).cell? (zD W.heap.size 5)=some (.map (some q)):=az.cell 5;have t0:((W.alloc (zh #[.slice A c.1.1.length B,.string c.1.2.name,.slice C c.1.2.args.length D,.string c.2.1.r.name,.slice ra c.2.1.r.args.length rc,.map (some q)] 73)).putObj (w.heap.size+9) (.loop rb)).cell? (zD w.heap.size 0)=some (.string t.name):=bj.cell 0;have t1:((W.alloc (zh #[.slice A c.1.1.length B,.string c.1.2.name,.slice C c.1.2.args.length D,.string c.2.1.r.name,.slice ra c.2.1.r.args.length rc,.map (some q)] 73)).putObj (w.heap.size+9) (.loop rb)).cell? (zD w.heap.size 1)=some (.slice aa t.args.length ca):=bj.cell 1;have ai:Hid (((W.alloc (zh #[.slice A c.1.1.length B,.string c.1.2.name,.slice C c.1.2.args.length D,.string c.2.1.r.name,.slice ra c.2.1.r.args.length rc,.map (some q)] 73)).putObj (w.heap.size+9) (.loop rb)).os=W.os/\((W.alloc (zh #[.slice A c.1.1.length B,.string c.1.2.name,.slice C c.1.2.args.length D,.string c.2.1.r.name,.slice ra c.2.1.r.args.length rc,.map (some q)] 73)).putObj (w.heap.size+9) (.loop rb)).tape=W.tape/\((W.alloc (zh #[.slice A c.1.1.length B,.string c.1.2.name,.slice C c.1.2.args.length D,.string c.2.1.r.name,.slice ra c.2.1.r.args.length rc,.map (some q)] 73)).putObj (w.heap.size+9) (.loop rb)).output=W.output):=⟨rfl,rfl,rfl⟩;have bG:=Aa bF;have aq:=Aa kV;clear b6 bd az bj bF kV;gi_wp2
  refine⟨(CO.1 bE).2,?_⟩;clear bE;generalize ((W.alloc (zh #[.slice A c.1.1.length B,.string c.1.2.name,.slice C c.1.2.args.length D,.string c.2.1.r.name,.slice ra c.2.1.r.args.length rc,.map (some q)] 73)).putObj (w.heap.size+9) (.loop rb))=V at *;gi_wp2
  clear c0 c1 c2 c3 c4 c5 t0 t1;have aD:∀b,K b->b<W.heap.size/\b≠w.heap.size+9:=λb hb=>by have:=ax.o b hb; omega
  have ab:∀b,Z b->b<W.heap.size/\b≠w.heap.size+9:=λb hb=>⟨(HZ.o b hb).1,λh=>(HZ.o b hb).2 ((N.o b).2 (Ae h))⟩;have bH:Sl V X aa t.args:=((HS.o.later av.o).kept λb hb=>(aq.o b (aD b (aw.o b hb)).1 (aD b (aw.o b hb)).2).trans (HC.o b (aw.o b hb)));refine⟨trivial,(λh=>by simp[Fence.wide] at h),?_⟩;refine(CallsIn.inRound _ (CP.2 (Sr c.1 c.2 t A C ra aa B D rc ca q Lm V X Z (HP.o.kept λb hb=>aq.o b (ab b hb).1 (ab b hb).2) (cf.o.kept λb hb=>aq.o b (ab b hb).1 (ab b hb).2) (cg.o.kept λb hb=>aq.o b (ab b hb).1 (ab b hb).2) ⟨bD.o.1.kept (aq.o q (ab q hq).1 (ab q hq).2),bD.o.2.imp λa l hs=>hs.kept λb hb=>aq.o b (ab b hb).1 (ab b hb).2⟩ bH ch.o hz))).mono ?_;clear bH;rintro e j ⟨R,⟨aA,a9,F,rfl,bk⟩|⟨ck,rfl⟩⟩
  ·have bI:=R.size;have aU:∀b,b<W.heap.size->b≠w.heap.size+9->j.heap[b]? = W.heap[b]? := λb hb L=>(R.block b (by omega)).trans (aq.o b hb L);have e0:AJ (DV c.2) c.1.1 t=Bt t c:=rfl;rw[e0]at bk ⊢;have cl:=Aa bk;have bl:=Aa aA;have aV:=Aa R;have cm:=Aa aU;have cn:prog.follows .mixedOrders=true:=(by kernel_rfl);have bm:Ac j (w.heap.size+3) #[v] 29:=(aU _ HA.o.lt (by omega)).trans HA.o;have cp:=Aa bm;have cH:=bm.lt;have cI:l.length<=1000000:=by rw[aC.o,EZ]; exact hlen
   have cq:xs.length=l.length*2:=bh.o.len;have ae:=HO.o.lt;have bJ:(j.alloc (zh #[.string (Bt t c).name,.slice a9 (Bt t c).args.length F] 31)).drew.ownsRow z.heap.size 31 2 v l.length xs:=Dc HO.o λg hg=>by
    have h1:=ae g hg;exact(Ay _ _ _ (by omega)).trans (aU g h1.2 (by omega))
   clear bk aA R aU bm e0;gi_wp2
   have bn:=Aa ((Ac.new j #[.string (Bt t c).name,.slice a9 (Bt t c).args.length F] 31));have A8:=Aa (cp.o.alloc (zh #[.string (Bt t c).name,.slice a9 (Bt t c).args.length F] 31));have aR:(j.alloc (zh #[.string (Bt t c).name,.slice a9 (Bt t c).args.length F] 31)).heap.size=j.heap.size+1:=(by simp);have cr:Hid (∀b,b<j.heap.size->(j.alloc (zh #[.string (Bt t c).name,.slice a9 (Bt t c).args.length F] 31)).heap[b]? = j.heap[b]?):=λb hb=>Ay _ _ _ hb;have a6:Hid ((j.alloc (zh #[.string (Bt t c).name,.slice a9 (Bt t c).args.length F] 31)).os=j.os/\(j.alloc (zh #[.string (Bt t c).name,.slice a9 (Bt t c).args.length F] 31)).tape=j.tape/\(j.alloc (zh #[.string (Bt t c).name,.slice a9 (Bt t c).args.length F] 31)).output=j.output):=⟨rfl,rfl,rfl⟩;have bK:=Aa bJ;clear bJ;generalize (j.alloc (zh #[.string (Bt t c).name,.slice a9 (Bt t c).args.length F] 31))=J at *;obtain⟨i0,hi,ct,cu,cv⟩:=DO Tryz.infoTerm;obtain⟨g,cap,w3,hrun,aE,ad,an,cw⟩:=run_append_lies (P:=prog) (w:=(J.alloc zc).drew) 29 29 z.heap.size 31 i0 _ 2 40 underlying29 hi ct cu cv rfl (by decide) v l.length xs (Dc bK.o λg hg=>Ay _ _ _ (bK.o.lt g hg).2)
    (zD J.heap.size 0) 1 1 [.string ⟨#[]⟩,zB] rfl (St J _ _ _) (λy hy=>by simp at hy; rcases hy with rfl|rfl<;>rfl) (by decide) (by unfold maxLen; omega) (by omega) (by simp; omega) _ rfl
   have bo:=Aa hrun;obtain⟨q1,q2,q3,ar⟩:=ZP (u1:=.string (Bt t c).name) (u2:=.slice a9 (Bt t c).args.length F) aE cq;have cJ:z.heap.size<=g:=by
    rcases an with e|e
    ·exact(HO.o.lt g e).1
    ·simp at e; omega
   have bp:∀b,b<J.heap.size+1->v.ownBlock≠some b->w3.heap[b]? = (J.alloc zc).drew.heap[b]? := λb hb L=>ad.block b (by simp; omega) (λe=>L e.symm);have cK:J.heap.size+1<=w3.heap.size:=by have:=ad.size; simp at this; omega
   have aF:∀b,b<z.heap.size->v.ownBlock≠some b:=λb hb e=>by have:=(ae b e).1; omega
   have aW:Ac w3 (w.heap.size+3) #[v] 29:=(bp _ (by omega) (aF _ (by omega))).trans ((A8.o.alloc _).drewN 1);have bL:Ac w3 j.heap.size #[.string (Bt t c).name,.slice a9 (Bt t c).args.length F] 31:=(bp _ (by omega) (λe=>by have:=(ae _ e).2; omega)).trans ((bn.o.alloc _).drewN 1);obtain⟨G,H,hv⟩:=Fs HO.o;have aX:w.heap.size+3≠g:=(by omega);have aY:j.heap.size≠g:=by
    rcases an with e|e
    ·have:=(ae _ e).2; omega
    ·simp at e; omega
   have a0:J.drew.cell? (zD (w.heap.size+1+1+1) 0)=some (.slice G l.length H):=by rw[<-hv]; exact(A8.o.drewN 1).cell 0
   have a1:(J.alloc zc).drew.cell? (zD (w.heap.size+1+1+1) 0)=some (.slice G l.length H):=by rw[<-hv]; exact((A8.o.alloc _).drewN 1).cell 0
   have a2:(J.alloc zc).cell? (zD (w.heap.size+1+1+1) 0)=some (.slice G l.length H):=by rw[<-hv]; exact(A8.o.alloc _).cell 0
   have a4:J.cell? (zD (w.heap.size+1+1+1) 0)=some (.slice G l.length H):=by rw[<-hv]; exact A8.o.cell 0
   have a3:=aW.c0;have af:w3.frozen? (zD (w.heap.size+1+1+1) 0)=false:=aW.frozen 0;have XD:=Aa (bn.o.drewN 1);have XZ:=Aa ((bn.o.alloc zc).drewN 1);have X3:=Aa bL;have au:Hid ((Builtin.append_ #[29,29] 29 #[.slice G l.length H,.slice (some (zD (j.heap.size+1) 0)) 1 1]).run prog (J.alloc zc).drew=.ok (.slice (some (zD g 0)) (l.length+1) cap) w3):=Aa (by rw[<-hv,<-aR];exact bo.o);have bq:Hid (w3.os=J.os/\w3.tape=J.tape/\w3.output=J.output):=⟨ad.os,ad.tape,ad.output⟩;have cx:(l.length:Int)<(l.length:Int)+1:=(by omega);have br:=Aa ((X3.o.setOther (l.length*2) (.string (Bt t c).name) aY).setOther (l.length*2+1) (.slice a9 (Bt t c).args.length F) aY);have bM:j.heap.size≠w.heap.size+1+1+1:=(by omega);have aG:=Aa (br.o.setOther 0 (.slice (some (zD g 0)) (l.length+1) cap) bM);have bs:=Aa (X3.o.setOther 0 (.slice (some (zD g 0)) (l.length+1) cap) bM);have aH:=Aa ((bs.o.setOther (l.length*2) (.string (Bt t c).name) aY).setOther (l.length*2+1) (.slice a9 (Bt t c).args.length F) aY);have ag:Hid (∀wF,O7 w3 (w.heap.size+3) g l.length cap 29 (.string (Bt t c).name) (.slice a9 (Bt t c).args.length F) wF->wF.heap[w.heap.size+9]? = some (.loop rb)/\∃f',JA t X K (w.heap.size+3) (w.heap.size+1) (w.heap.size+2) (w.heap.size+9) r rd z (pre++[c]) true f' (wF.putObj (w.heap.size+9) (.loop r))/\Ak f W (wF.putObj (w.heap.size+9) (.loop r))/\∀b,f' b->f b∨W.heap.size<=b):=λwF hF=>by
    have bt:∀b,b<J.heap.size+1->v.ownBlock≠some b->b≠g:=λb hb L e=>by
     rcases an with h|h
     ·rw[e]at L; exact L h
     ·simp at h; omega
    have aZ:∀b,b<j.heap.size->b≠w.heap.size+3->v.ownBlock≠some b->wF.heap[b]? = j.heap[b]? := λb hb h3 L=>(hF.other b (bt b (by omega) L) h3).trans ((bp b (by omega) L).trans ((Ay J _ b (by omega)).trans (cr.o b hb)));have kF:∀b,b<W.heap.size->b≠w.heap.size+9->b≠w.heap.size+3->v.ownBlock≠some b->wF.heap[b]? = W.heap[b]? := λb hb O h3 L=>(aZ b (by omega) h3 L).trans (cm.o b hb O);have cL:wF.heap.size=w3.heap.size:=hF.size;have cy:v.ownBlock≠some (w.heap.size+9):=aF _ (by omega);have I:∀b,b≠w.heap.size+9->(wF.putObj (w.heap.size+9) (.loop r)).heap[b]? = wF.heap[b]? := λb hb=>World.putObj_heap_other hb;have bu:∀b,K b->b<W.heap.size/\b≠w.heap.size+9/\b≠w.heap.size+3/\v.ownBlock≠some b:=λb hb=>by
     have:=ax.o b hb;exact⟨by omega,by omega,by omega,aF b (by omega)⟩
    refine⟨(aZ _ (by omega) (by omega) cy).trans ((aV.o.block _ (by omega)).trans bG.o),λb=>b=w.heap.size+9∨b=w.heap.size+3∨b=w.heap.size+1∨b=w.heap.size+2∨(Value.slice (some (zD g 0)) (l.length+1) cap).ownBlock=some b∨((E b∨W.heap.size<=b)/\b<wF.heap.size/\b≠g),⟨λb hb=>⟨(bC.o b hb).1,λh=>?_⟩,by simp; omega,λb hb=>?_,World.putObj_heap_same (by omega),(I _ (by omega)).trans ((kF _ aS.o.lt (by omega) (by omega) (aF _ (by omega))).trans aS.o),(I _ (by omega)).trans ((kF _ aT.o.lt (by omega) (by omega) (aF _ (by omega))).trans aT.o),⟨.slice (some (zD g 0)) (l.length+1) cap,l++[Bt t c],xs++[.string (Bt t c).name,.slice a9 (Bt t c).args.length F],λb=>(E b∨W.heap.size<=b)/\b<wF.heap.size/\b≠g,λb=>Iff.rfl,λb hb=>⟨?_,by simpa using hb.2.1,λe=>hb.2.2 (by simpa [Value.ownBlock] using e.symm)⟩,(I _ (by omega)).trans hF.box,?_,?_,λ_=>by rw[aC.o]; simp⟩,λ_ c' T=>?_,λh=>by cases h⟩,⟨?_,?_,?_,by simp; omega,λb hb hn=>?_⟩,λb hb=>?_⟩
    ·have h1:=ax.o b hb;rcases h with h|h|h|h|h|h
     ·omega
     ·omega
     ·omega
     ·omega
     ·simp[Value.ownBlock]at h; omega
     ·rcases h.1 with h|h
      ·have:=(U.o b h).1; omega
      ·omega
    ·have h1:=bu b hb;exact(I b h1.2.1).trans ((kF b h1.1 h1.2.1 h1.2.2.1 h1.2.2.2).trans (HC.o b hb))
    ·rcases hb.1 with h|h
     ·exact(U.o b h).1
     ·omega
    ·have h1:=ar (wF.putObj (w.heap.size+9) (.loop r)) ((I g (by omega)).trans hF.row);rw[Cv,IL];exact h1
    ·refine BK.append (bh.o.imp λa' k' aI=>?_) ⟨a9,F,[],rfl,?_,rfl⟩
     ·refine((aI.mono (Y:=λb=>(X b∨E b)/\b<W.heap.size) λb h1 h2=>⟨h1,h2⟩).kept (w':=wF.putObj (w.heap.size+9) (.loop r)) λb hb=>?_).mono λb hb _=>?_
      ·rcases hb.1 with h|h
       ·have h1:=bu b (aw.o b h);exact(I b h1.2.1).trans (kF b h1.1 h1.2.1 h1.2.2.1 h1.2.2.2)
       ·have h1:=U.o b h;exact(I b (by omega)).trans (kF b hb.2 (by omega) (by omega) h1.2.2)
      ·rcases hb.1 with h|h
       ·exact Ae h
       ·have h1:=U.o b h;exact Ad ⟨Ae h,by omega,bt b (by omega) h1.2.2⟩
     ·refine((cl.o.mono (Y:=λb=>((X b/\b<V.heap.size)∨V.heap.size<=b)/\b<j.heap.size) λb h1 h2=>⟨h1,h2⟩).kept (w':=wF.putObj (w.heap.size+9) (.loop r)) λb hb=>?_).mono λb hb _=>?_
      ·rcases hb.1 with h|h
       ·have h1:=bu b (aw.o b h.1);exact(I b h1.2.1).trans (aZ b hb.2 h1.2.2.1 h1.2.2.2)
       ·exact(I b (by omega)).trans (aZ b hb.2 (by omega) (λe=>by have:=(ae b e).2; omega))
      ·rcases hb.1 with h|h
       ·exact Ae h.1
       ·exact Ad ⟨Ad (by omega),by omega,bt b (by omega) (λe=>by have:=(ae b e).2; omega)⟩
    ·rcases Ba.1 T with h|h
     ·exact bg.o c' h
     ·simp at h; subst h; exact bl.o
    ·exact hF.os.trans (bq.o.1.trans (a6.o.1.trans (aV.o.os.trans ai.o.1)))
    ·exact hF.tape.trans (bq.o.2.1.trans (a6.o.2.1.trans (aV.o.tape.trans ai.o.2.1)))
    ·exact hF.output.trans (bq.o.2.2.trans (a6.o.2.2.trans (aV.o.output.trans ai.o.2.2)))
    ·have O:b≠w.heap.size+9:=λh=>hn ((N.o b).2 (Ae h));have h3:b≠w.heap.size+3:=λh=>hn ((N.o b).2 (Ad (Ae h)));exact(I b O).trans (kF b hb O h3 (λh=>hn ((N.o b).2 (Ad (Ad (Ad (Ad (Ae h))))))))
    ·rcases hb with h|h|h|h|h|h
     ·exact Ae ((N.o b).2 (Ae h))
     ·exact Ae ((N.o b).2 (Ad (Ae h)))
     ·exact Ae ((N.o b).2 (Ad (Ad (Ae h))))
     ·exact Ae ((N.o b).2 (Ad (Ad (Ad (Ae h)))))
     ·have e:g=b:=(by simpa [Value.ownBlock] using h);subst e;rcases an with h1|h1
      ·exact Ae ((N.o g).2 (Ad (Ad (Ad (Ad (Ae h1))))))
      ·right; simp at h1; omega
     ·rcases h.1 with h1|h1
      ·exact Ae ((N.o b).2 (Ad (Ad (Ad (Ad (Ad h1))))))
      ·exact Ad h1
   have ba:=Aa aW;clear aW bL hrun aE ar ad;refine ZG (S:=λw'=>Ac w' j.heap.size #[.string (Bt t c).name,.slice a9 (Bt t c).args.length F] 31) cn ?_ XD.o λhH=>?_
   ·intro i o ho c' T;match i,ho with
    |0,ho=>simp at ho; subst ho; cases T
    |1,ho=>simp at ho; subst ho; cases T
    |2,ho=>simp at ho; subst ho; cases T
    |3,ho=>simp at ho; subst ho; cases T
    |4,ho=>simp at ho; subst ho; cases T
    |5,ho=>simp at ho; subst ho; cases T
    |6,ho=>simp at ho; subst ho; cases T
    |7,ho=>simp at ho; subst ho; cases T
    |i+8,ho=>simp at ho
   refine tkz 1 ?_ (hy:=by intro w' bN;have c0:w'.cell? (zD j.heap.size 0)=some (.string (Bt t c).name):=Ac.cell bN 0;have c1:w'.cell? (zD j.heap.size 1)=some (.slice a9 (Bt t c).args.length F):=Ac.cell bN 1;go_simp<;>with_reducible rfl);refine D3 (rs:=[0,3]) (by kernel_rfl) (by simp) ?_;refine BJ rfl (λK d=>?_) (BJ rfl (λK d=>?_) D5)
   ·go_simp;refine d.o _ _ (by exact XD.o) λhH=>?_;clear d K;(try simp only[Act.put,sq]);refine tkz 2 ?_;refine rdq 3 rfl λK d=>?_;go_simp;refine d.o _ _ (by exact XZ.o) λhH=>?_;clear d K;(try simp only[Act.put,sq]);refine rdq 4 rfl λK d=>?_;refine OS rfl _ _ _ _ rfl rfl rfl au.o ?_;refine d.o _ _ (by exact X3.o) λhH=>?_;clear d K;(try simp only[Act.put,sq]);refine tkz 5 ?_;refine D3 (rs:=[6,7]) (by kernel_rfl) (by simp) ?_;refine BJ rfl (λK d=>?_) (BJ rfl (λK d=>?_) D5)
    ·go_simp;refine d.o _ _ (by exact br.o) λhH=>?_;clear d K;(try simp only[Act.put,sq]);refine rdq 7 rfl λK d=>?_;go_simp;refine d.o _ _ (by exact aG.o) λhH=>?_;clear d K;(try simp only[Act.put,sq]);refine dnq ?_;refine⟨by simp,?_⟩;refine ag.o _ ?_;exact SD aX ba.o
    ·go_simp;refine d.o _ _ (by exact bs.o) λhH=>?_;clear d K;(try simp only[Act.put,sq]);refine rdq 6 rfl λK d=>?_;go_simp;refine d.o _ _ (by exact aH.o) λhH=>?_;clear d K;(try simp only[Act.put,sq]);refine dnq ?_;refine⟨by simp,?_⟩;refine ag.o _ ?_;exact SE aX ba.o
   ·go_simp;refine d.o _ _ (by exact XZ.o) λhH=>?_;clear d K;(try simp only[Act.put,sq]);refine rdq 0 rfl λK d=>?_;go_simp;refine d.o _ _ (by exact XZ.o) λhH=>?_;clear d K;(try simp only[Act.put,sq]);refine tkz 2 ?_;refine rdq 4 rfl λK d=>?_;refine OS rfl _ _ _ _ rfl rfl rfl au.o ?_;refine d.o _ _ (by exact X3.o) λhH=>?_;clear d K;(try simp only[Act.put,sq]);refine tkz 5 ?_;refine D3 (rs:=[6,7]) (by kernel_rfl) (by simp) ?_;refine BJ rfl (λK d=>?_) (BJ rfl (λK d=>?_) D5)
    ·go_simp;refine d.o _ _ (by exact br.o) λhH=>?_;clear d K;(try simp only[Act.put,sq]);refine rdq 7 rfl λK d=>?_;go_simp;refine d.o _ _ (by exact aG.o) λhH=>?_;clear d K;(try simp only[Act.put,sq]);refine dnq ?_;refine⟨by simp,?_⟩;refine ag.o _ ?_;exact SD aX ba.o
    ·go_simp;refine d.o _ _ (by exact bs.o) λhH=>?_;clear d K;(try simp only[Act.put,sq]);refine rdq 6 rfl λK d=>?_;go_simp;refine d.o _ _ (by exact aH.o) λhH=>?_;clear d K;(try simp only[Act.put,sq]);refine dnq ?_;refine⟨by simp,?_⟩;refine ag.o _ ?_;exact SE aX ba.o
  ·have bI:=R.size;have k9:∀b,b<W.heap.size->b≠w.heap.size+9->j.heap[b]? = W.heap[b]? := λb hb L=>(R.block b (by omega)).trans (aq.o b hb L);have B4:Ac j (w.heap.size+1) #[zB] 29:=(k9 _ aS.o.lt (by omega)).trans aS.o;have B5:Ac j (w.heap.size+1+1) #[zA 0] 26:=(k9 _ aT.o.lt (by omega)).trans aT.o;have b4:=B4.c0;have b5:=B5.c0;have f4:j.frozen? (zD (w.heap.size+1) 0)=false:=B4.frozen 0;have f5:j.frozen? (zD (w.heap.size+1+1) 0)=false:=B5.frozen 0;have cM:=B4.lt;have cx:=B5.lt;gi_wp2
   have I:∀b,b≠w.heap.size+9->b≠w.heap.size+1->b≠w.heap.size+2->b<W.heap.size->((((j.setCell (zD (w.heap.size+1) 0) zB).setCell (zD (w.heap.size+1+1) 0) (zA 8)).alloc zc).putObj (w.heap.size+9) (.loop rd)).heap[b]? = W.heap[b]? := λb O h1 h2 hb=>by
    rw[World.putObj_heap_other O,Ay _ _ _ (by simp[World.setCell]; omega),An _ _ _ _ (by simpa using h2),An _ _ _ _ (by simpa using h1),k9 b hb O]
   have ae:=HO.o.lt;refine⟨?_,f,⟨bC.o,by simp[World.setCell]; omega,λb hb=>?_,World.putObj_heap_same (by simp[World.setCell]; omega),?_,?_,⟨v,l,xs,E,N.o,λb hb=>⟨(U.o b hb).1,by have:=(U.o b hb).2.1; simp[World.setCell]; omega,(U.o b hb).2.2⟩,?_,Dc HO.o λg hg=>?_,bh.o.imp λa' k' aI=>?_,λh=>by cases h⟩,(λh=>by cases h),λ_=>⟨c,by simp,ck⟩⟩,⟨?_,?_,?_,by simp[World.setCell]; omega,λb hb hn=>?_⟩,λb hb=>Ae hb⟩
   ·rw[Ay _ _ _ (by simp[World.setCell]; omega),An _ _ _ _ (by simp),An _ _ _ _ (by simp),R.block _ (by omega)];exact bG.o
   ·have h1:=ax.o b hb;exact(I b (by omega) (by omega) (by omega) (by omega)).trans (HC.o b hb)
   ·exact(World.putObj_heap_other (by omega)).trans ((Ac.setOther (Ac.set1R B4) _ _ (by omega)).alloc _)
   ·exact(World.putObj_heap_other (by omega)).trans ((Ac.set1R (B5.setOther _ _ (by omega))).alloc _)
   ·exact(I _ (by omega) (by omega) (by omega) HA.o.lt).trans HA.o
   ·have h1:=ae g hg;exact I g (by omega) (by omega) (by omega) h1.2
   ·refine((aI.mono (Y:=λb=>(X b∨E b)/\b<W.heap.size) λb h1 h2=>⟨h1,h2⟩).kept λb hb=>?_).mono λb hb _=>hb.1;rcases hb.1 with h|h
    ·have h1:=ax.o b (aw.o b h);exact I b (by omega) (by omega) (by omega) hb.2
    ·have h1:=U.o b h;exact I b (by omega) (by omega) (by omega) hb.2
   ·exact R.os.trans ai.o.1
   ·exact R.tape.trans ai.o.2.1
   ·exact R.output.trans ai.o.2.2
   ·exact I b (λh=>hn ((N.o b).2 (Ae h))) (λh=>hn ((N.o b).2 (Ad (Ad (Ae h))))) (λh=>hn ((N.o b).2 (Ad (Ad (Ad (Ae h)))))) hb
 have bO:JA t X K (w.heap.size+3) (w.heap.size+1) (w.heap.size+2) (w.heap.size+9) r rd z [] true (λb=>b=w.heap.size+9∨b=w.heap.size+3∨b=w.heap.size+1∨b=w.heap.size+2∨(Value.slice none 0 0).ownBlock=some b∨False) z:=by
  refine⟨λb hb=>⟨by have:=ax.o b hb; omega,λh=>?_⟩,Al _,λb _=>rfl,H9.o,H1.o,H2.o,⟨zB,[],[],λ_=>False,λb=>Iff.rfl,λb hb=>hb.elim,H3.o,GT _ _ _ _,rfl,λ_=>rfl⟩,λ_ c hc=>by simp at hc,λh=>by cases h⟩;have:=ax.o b hb;rcases h with h|h|h|h|h|h
  ·omega
  ·omega
  ·omega
  ·omega
  ·simp[Value.ownBlock]at h
  ·exact h
 have bw:∀b,X b->b<w.heap.size:=HX.o;refine (Zu bf (w.heap.size + 9) RH rs t [] (w.heap.size + 7) (w.heap.size + 6) (w.heap.size + 4) (w.heap.size + 5) (.slice ua rs.length uc) aa ca zB [] _ z X H7.o H6.o (HU.o.later av.o) H4.o (HS.o.later av.o) H5.o ⟨none, 0, rfl, by simp, Ae rfl⟩ rfl (λb hb => ⟨by have := bw b hb; omega, λh => by
  have:=bw b hb;rcases h with h|h|h|h|h|h
  ·omega
  ·omega
  ·omega
  ·omega
  ·simp[Value.ownBlock]at h
  ·exact h⟩) (λh=>by
  rcases h with h|h|h|h|h|h
  ·omega
  ·omega
  ·omega
  ·omega
  ·simp[Value.ownBlock]at h
  ·exact h) bO (by omega) (by simp)).mono ?_
 rintro e x ⟨aJ,s,hw⟩;obtain⟨m,f',hm,bx,hj,he,cz⟩:=hw;rw[CE]at hj;obtain⟨cN,bI,cO,c6,bb,aK,⟨v,l,xs,E,cP,bP,c7,bz,c8,bc⟩,ao,a7⟩:=hj;have b0:=bz.lt;have bQ : Hid (x.heap[w.heap.size + 8]? = some (.deferred (some []))) := (he.block _ (by omega) (λh => by
  rcases h with (h|h|h|h|h|h)|h
  ·omega
  ·omega
  ·omega
  ·omega
  ·simp[Value.ownBlock]at h
  ·exact h
  ·exact h)).trans H8.o
 have bR : Hid (∀ b, b < w.heap.size -> x.heap[b]? = w.heap[b]?) := λb hb => (he.block b (by omega) (λh => by
  rcases h with (h|h|h|h|h|h)|h
  ·omega
  ·omega
  ·omega
  ·omega
  ·simp[Value.ownBlock]at h
  ·exact h
  ·exact h)).trans (av.o.block b hb)
 have aj:Hid (x.os=w.os/\x.tape=w.tape/\x.output=w.output):=⟨he.os.trans av.o.os,he.tape.trans av.o.tape,he.output.trans av.o.output⟩;have b1:=Aa aJ;have bS:=Aa c6;have bT:=Aa bw;clear he cz bO RH bf aJ;refine⟨b1.o,?_⟩;cases s with
 |true=>
  left;refine⟨bS.o,?_⟩;have em:=bx rfl;subst em;rw[D8]at bc ao;have aC:=Aa (bc rfl);have bg:=Aa (ao rfl);clear bc ao a7 bx hm aL aM aN aO aP aQ;obtain⟨G,H,rfl⟩:=Fs bz;have q4:∀o,(x.putObj (w.heap.size+9) o).cell? (zD (w.heap.size+1) 0)=some (zB):=λo=>(Ce (World.putObj_heap_other (by simp))).trans (bb.cell 0);have q5:∀o,(x.putObj (w.heap.size+9) o).cell? (zD (w.heap.size+1+1) 0)=some (zA 0):=λo=>(Ce (World.putObj_heap_other (by simp))).trans (aK.cell 0);have qa:∀o,(x.putObj (w.heap.size+9) o).cell? (zD (w.heap.size+1+1+1) 0)=some (.slice G l.length H):=λo=>(Ce (World.putObj_heap_other (by simp))).trans (c7.cell 0);have g4:∀o,(x.putObj (w.heap.size+9) o).frozen? (zD (w.heap.size+1) 0)=false:=λo=>Ac.frozen (show Ac (x.putObj (w.heap.size+9) o) (w.heap.size+1) _ _ from (World.putObj_heap_other (by simp)).trans bb) 0;have g5:∀o,(x.putObj (w.heap.size+9) o).frozen? (zD (w.heap.size+1+1) 0)=false:=λo=>Ac.frozen (show Ac (x.putObj (w.heap.size+9) o) (w.heap.size+1+1) _ _ from (World.putObj_heap_other (by simp)).trans aK) 0;have pf:∀(o k:Obj) b,b≠w.heap.size+9->b≠w.heap.size+8->b≠w.heap.size+1->b≠w.heap.size+2->((((x.putObj (w.heap.size+9) o).setCell (zD (w.heap.size+1) 0) (.slice G l.length H)).setCell (zD (w.heap.size+1+1) 0) (zA 0)).putObj (w.heap.size+8) k).heap[b]? = x.heap[b]? := λo k b O h8 h1 h2=>by
   rw[World.putObj_heap_other h8,An _ _ _ _ (by simpa using h2),An _ _ _ _ (by simpa using h1),World.putObj_heap_other O]
  have b2:Hid (∀o,(((x.putObj (w.heap.size+9) o).setCell (zD (w.heap.size+1) 0) (.slice G l.length H)).setCell (zD (w.heap.size+1+1) 0) (zA 0)).heap[w.heap.size+8]? = some (.deferred (some []))):=λo=>by
   rw[An _ _ _ _ (by simp),An _ _ _ _ (by simp),World.putObj_heap_other (by omega)];exact bQ.o
  have r4:∀(o k:Obj),((((x.putObj (w.heap.size+9) o).setCell (zD (w.heap.size+1) 0) (.slice G l.length H)).setCell (zD (w.heap.size+1+1) 0) (zA 0)).putObj (w.heap.size+8) k).cell? (zD (w.heap.size+1) 0)=some (.slice G l.length H):=λo k=>by
   have h:Ac ((((x.putObj (w.heap.size+9) o).setCell (zD (w.heap.size+1) 0) (.slice G l.length H)).setCell (zD (w.heap.size+1+1) 0) (zA 0)).putObj (w.heap.size+8) k) (w.heap.size+1) #[.slice G l.length H] 29:=(World.putObj_heap_other (by omega)).trans ((Ac.set1R ((World.putObj_heap_other (by omega)).trans bb)).setOther _ _ (by omega));exact h.cell 0
  have r5:∀(o k:Obj),((((x.putObj (w.heap.size+9) o).setCell (zD (w.heap.size+1) 0) (.slice G l.length H)).setCell (zD (w.heap.size+1+1) 0) (zA 0)).putObj (w.heap.size+8) k).cell? (zD (w.heap.size+1+1) 0)=some (zA 0):=λo k=>by
   have h:Ac ((((x.putObj (w.heap.size+9) o).setCell (zD (w.heap.size+1) 0) (.slice G l.length H)).setCell (zD (w.heap.size+1+1) 0) (zA 0)).putObj (w.heap.size+8) k) (w.heap.size+1+1) #[zA 0] 26:=(World.putObj_heap_other (by omega)).trans (Ac.set1R (Ac.setOther (show Ac (x.putObj (w.heap.size+9) o) (w.heap.size+1+1) #[zA 0] 26 from (World.putObj_heap_other (by omega)).trans aK) _ _ (by omega)));exact h.cell 0
  have ag:Hid (∀(o k:Obj),O8 rs t X0 w (.returned (.tuple #[.slice G l.length H,zA 0])) ((((x.putObj (w.heap.size+9) o).setCell (zD (w.heap.size+1) 0) (.slice G l.length H)).setCell (zD (w.heap.size+1+1) 0) (zA 0)).putObj (w.heap.size+8) k)):=λo k=>by
   refine⟨⟨aj.o.1,aj.o.2.1,aj.o.2.2,by simp[World.setCell]; omega,λb hb=>(pf o k b (by omega) (by omega) (by omega) (by omega)).trans (bR.o b hb)⟩,Ae ⟨bg.o,_,xs,rfl,?_,?_⟩⟩
   ·rw[<-aC.o];exact Lf (Dc bz λg hg=>by have:=b0 g hg; exact pf o k g (by omega) (by omega) (by omega) (by omega)) (by omega)
   ·rw[<-aC.o];refine c8.imp λa' k' aI=>(aI.kept λb hb=>?_).mono λb hb _=>?_
    ·rcases hb with h|h
     ·have:=bT.o b h; exact pf o k b (by omega) (by omega) (by omega) (by omega)
     ·have:=bP b h; exact pf o k b (by omega) (by omega) (by omega) (by omega)
    ·rcases hb with h|h
     ·exact Ae ⟨bV.o b h,bT.o b h⟩
     ·have h1:=bP b h;exact Ad ⟨by omega,h1.2.2⟩
  gi_wp2
  refine⟨by simp,.inl ⟨_,_,rfl,run_takeDeferred (b2.o _),?_⟩⟩;exact⟨.tuple #[.slice G l.length H,zA 0],by simp[results,results26,go_sem,r4,r5],ag.o _ _⟩
 |false=>
  right;refine⟨by rw[<-bd]; exact bS.o,?_⟩;have cA:=Aa (a7 rfl);clear bc ao a7 bx hm aL aM aN aO aP aQ;simp only[Bool.false_eq_true,if_false] at aK;have pf:∀(o k:Obj) b,b≠w.heap.size+9->b≠w.heap.size+8->((x.putObj (w.heap.size+9) o).putObj (w.heap.size+8) k).heap[b]? = x.heap[b]? := λo k b O h8=>(World.putObj_heap_other h8).trans (World.putObj_heap_other O);have b2:Hid (∀o,(x.putObj (w.heap.size+9) o).heap[w.heap.size+8]? = some (.deferred (some []))):=λo=>(World.putObj_heap_other (by omega)).trans bQ.o;have r4:∀(o k:Obj),((x.putObj (w.heap.size+9) o).putObj (w.heap.size+8) k).cell? (zD (w.heap.size+1) 0)=some (zB):=λo k=>(Ce (pf o k _ (by simp) (by simp))).trans (bb.cell 0);have r5:∀(o k:Obj),((x.putObj (w.heap.size+9) o).putObj (w.heap.size+8) k).cell? (zD (w.heap.size+1+1) 0)=some (zA 8):=λo k=>(Ce (pf o k _ (by simp) (by simp))).trans (aK.cell 0);have ag:Hid (∀(o k:Obj),O8 rs t X0 w (.returned (.tuple #[zB,zA 8])) ((x.putObj (w.heap.size+9) o).putObj (w.heap.size+8) k)):=λo k=>by
   refine⟨⟨aj.o.1,aj.o.2.1,aj.o.2.2,by simp; omega,λb hb=>(pf o k b (by omega) (by omega)).trans (bR.o b hb)⟩,Ad ⟨?_,rfl⟩⟩;obtain⟨c,hc,h⟩:=cA.o;exact⟨c,List.mem_of_mem_take hc,h⟩
  gi_wp2
  refine⟨by simp,.inl ⟨_,_,rfl,run_takeDeferred (b2.o _),?_⟩⟩;exact⟨.tuple #[zB,zA 8],by simp[results,results26,go_sem,r4,r5],ag.o _ _⟩
open Go.RowKit
theorem Gz {s:ByteArray} {a r:List Tm} (h:Af (⟨s,a⟩::r)=0):(Aj s=true->a=[])/\Af a=0/\Af r=0:=by
 rw[Af]at h;split at h
 ·split at h
  ·cases h
  ·rename_i h1 h2;split at h
   ·rename_i h3;refine⟨λhv=>?_,h3,h⟩;cases a with
    |nil=>rfl
    |cons x y=>simp[hv] at h2
   ·rename_i h3; exact absurd h h3
 ·cases h
def ER (ls:List Bd):Prop:=∀d∈ls,Aj d.nm=true
theorem MQ:∀ {ls:List Bd} {s:ByteArray} {x:Tm},As ls s=some x->∃d∈ls,d.nm=s
 | [],s,x,h=>by simp[As] at h
 |d::ls,s,x,h=>by
  unfold As at h;split at h
  ·rename_i h1;exact⟨d,by simp,h1⟩
  ·obtain⟨d',hd,e⟩:=MQ h;exact⟨d',by simp[hd],e⟩
theorem SG (h:ER ls) (s:ByteArray) (a b:List Tm) (hv:Aj s=true->a=[]):fN ls s b=Hr ls s a b:=by
 unfold fN Hr;cases hs:Aj s with
 |true=>rw[hv hs]; cases As ls s<;>rfl
 |false=>
  cases c:As ls s with
  |none=>rfl
  |some x=>obtain⟨d,hd,e⟩:=MQ c;have:=h d hd;rw[e,hs]at this;cases this
theorem Lr {ls:List Bd} (h:ER ls):∀l:List Tm,Af l=0->fL ls l=At ls l
 | [],_=>by simp[fL,At]
 | ⟨s,a⟩::r,he=>by
  obtain⟨h1,h2,h3⟩:=Gz he;rw[fL,At,Lr h a h2,Lr h r h3,SG h s a _ h1]
theorem Pa (h:ER ls) (t:Tm) (ht:Av t=0):fT ls t=Ai ls t:=by
 unfold Av at ht;split at ht
 ·cases ht
 ·obtain⟨s,a⟩:=t;obtain⟨h1,h2,_⟩:=Gz ht;unfold fT Ai;rw[Lr h a h2,SG h s a _ h1]
theorem SH (b:∀c g g',Bx p.args c g=some g'->ER g->ER g') (he:AX p t h=some h') (hv:ER h):ER h':=by
 unfold AX at he;obtain⟨s,l⟩:=p;simp only at he;cases hs:Aj s with
 |true=>
  simp only[hs,F4] at he;cases a:As h s with
  |none=>
   simp only[a] at he;cases he;intro d hd;rcases Ba.1 hd with hd|hd
   ·exact hv d hd
   ·simp at hd; subst hd; exact hs
  |some x=>
   simp only[a] at he;split at he
   ·cases he; exact hv
   ·cases he
 |false=>
  simp only[hs] at he;split at he
  ·rename_i h0; cases h0
  ·split at he
   ·exact b _ _ _ he hv
   ·cases he
theorem ZR:∀(l a:List Tm) (h h':List Bd),Bx l a h=some h'->ER h->ER h':=by
 intro l;induction l using Tm.indL with
 |h0=>
  intro a h h' he hv;cases a with
  |nil=>simp[Bx] at he; subst he; exact hv
  |cons t a=>first|(simp[Bx] at he; done)|(simp[Bx] at he; subst he; exact hv)
 |h s l r aa ab=>
  intro a h h' he hv;cases a with
  |nil=>first|(simp[Bx] at he; done)|(simp[Bx] at he; subst he; exact hv)
  |cons t a=>
   rw[F7]at he;cases h1:AX ⟨s,l⟩ t h with
   |none=>simp only[h1] at he; cases he
   |some g=>simp only[h1] at he;exact ab _ _ _ he (SH (p:=⟨s,l⟩) aa h1 hv)
theorem MR (he:AX p t []=some h'):ER h':=SH (λa g g' h1 h2=>ZR p.args a g g' h1 h2) he (by intro d hd; simp at hd)
theorem Pb (x:Tm):∀(p:List Int) (t y:Tm),AA t p=some y->Ab [AJ x p t]+Ab [y]=Ab [t]+Ab [x]
 | [],t,y,h=>by simp[AA] at h; subst h; simp[AJ,Nat.add_comm]
 |i::r,t,y,h=>by
  obtain⟨k,hk,rfl,h2⟩:=Gu h;have b:=Pb x r _ y h2;obtain⟨s,l⟩:=t;have a:=Le (AJ x r) l 0 k hk;rw[DA]at a;have e2:=Sq l k hk (AJ x r l[k]);have c:Ab [AJ x ((k:Int)::r) ⟨s,l⟩]=1+Ab (l.set k (AJ x r l[k])):=by rw[AJ,a]; simp[Ab]
  have d:Ab [(⟨s,l⟩:Tm)]=1+Ab l:=by simp[Ab]
  rw[c,d];simp only at b;omega
theorem SI {α β:Type} {f g:α->Option β}:∀ {l:List α},(∀x∈l,f x=g x)->l.filterMap f=l.filterMap g
 | [],_=>rfl
 |x::l,h=>by
  rw[NY,NY,h x (by simp),SI λy hy=>h y (by simp[hy])]
theorem Pd (a:Bl rs=0):(Ct rs t []).map (Bt t)=Cl rs t:=by
 have hm:∀p∈rs,Av p.r=0:=λp hp=>(Gv (G1 a p hp)).2.1;have h1:∀(p:List Int) (x:Tm),(Cm rs (p,x)).map (Bt t)=rs.filterMap λr=>(FG r x).map λy=>AJ y p t:=by
  intro p x;unfold Cm Bs;rw[KJ,List.map_filterMap];refine SI λr aa=>?_;unfold FG;cases b:AX r.l x [] with
  |none=>rfl
  |some g=>simp only[Option.map_some,Function.comp];unfold Bt DV;simp only;rw[Pa (MR b) r.r (hm r aa)]
 unfold Ct Cl;rw[List.map_flatMap];exact K9 (λp x=>(Cm rs (p,x)).map (Bt t)) t (JM rs t) (λp x hx=>by rw[h1]; unfold JM; rw[hx])
theorem J0 {d:Dn} {y:Ft} (h:AA t d.1=some d.2):Ga t d y↔2000<Ab [AJ (DV y) d.1 t]:=by
 have h1:=Pb (DV y) d.1 t d.2 h;have h2:=Lh _ _ _ h;unfold Ga;omega
theorem SJ (a:Bl rs=0):((∀c∈Ct rs t [],¬Ga t c.1 c.2)↔∀y∈Cl rs t,Ab [y]<=2000)/\((∃c∈Ct rs t [],Ga t c.1 c.2)↔∃y∈Cl rs t,2000<Ab [y]):=by
 rw[<-Pd a];constructor
 ·constructor
  ·intro h y hy;obtain⟨c,hc,rfl⟩:=Bk.1 hy;have h1:=h c hc;rw[J0 (JZ hc)]at h1;unfold Bt;omega
  ·intro h c hc;rw[J0 (JZ hc)];have:=h _ (Bk.2 ⟨c,hc,rfl⟩);unfold Bt at this;omega
 ·constructor
  ·rintro⟨c,hc,h⟩;exact⟨_,Bk.2 ⟨c,hc,rfl⟩,(J0 (JZ hc)).1 h⟩
  ·rintro⟨y,hy,h⟩;obtain⟨c,hc,rfl⟩:=Bk.1 hy;exact⟨c,hc,(J0 (JZ hc)).2 h⟩
def gN (ls:List Bd) (s:ByteArray) (bs:List Tm):Tm:=match As ls s with|some x=>x|none=>⟨s,bs⟩
def gL (ls:List Bd):List Tm->List Tm
 | []=>[]
 | ⟨s,a⟩::r=>gN ls s (gL ls a)::gL ls r
def gT (ls:List Bd) (t:Tm):Tm:=gN ls t.name (gL ls t.args)
theorem SL (ls:List Bd) (t:Tm) (r:List Tm):gL ls (t::r)=gT ls t::gL ls r:=by
 obtain⟨s,a⟩:=t;simp only[gL,gT]
theorem Ls (ls:List Bd):∀l,gL ls l=l.map (gT ls)
 | []=>by simp[gL]
 |t::r=>by rw[SL,Ls ls r,Bo]
theorem SM (h:As ls t.name=some x):gT ls t=x:=by simp[gT,gN,h]
theorem SO (h:As ls t.name=none):gT ls t=⟨t.name,gL ls t.args⟩:=by simp[gT,gN,h]
theorem ZS:∀l,gL [] l=l:=by
 intro l;induction l using Tm.indL with
 |h0=>simp[gL]
 |h s l r aa ab=>rw[gL,aa,ab]; simp[gN,As]
theorem ZT (t:Tm):gT [] t=t:=by
 obtain⟨s,l⟩:=t;unfold gT gN;simp[As,ZS]
theorem ZU (ls:List Bd) (l:List Tm) (k:Nat) (h:k<l.length):gL ls (l.take (k+1))=gL ls (l.take k)++[gT ls l[k]]:=by
 rw[Ls,Ls,Ci h,CI];rfl
theorem ZV (ls:List Bd) (l:List Tm) (k:Nat) (h:k<l.length):Ab (gL ls (l.take (k+1)))=Ab (gL ls (l.take k))+Ab [gT ls l[k]]:=by rw[ZU ls l k h,Ej]
theorem ZW (ls:List Bd) (l:List Tm) (k:Nat):Ab (gL ls (l.take k))<=Ab (gL ls l):=by
 rw[Ls,Ls];have:=Ej ((l.take k).map (gT ls)) ((l.drop k).map (gT ls));rw[<-CI,DM]at this;omega
theorem ZY (h:ER ls):∀l,gL ls l=fL ls l:=by
 intro l;induction l using Tm.indL with
 |h0=>simp[gL,fL]
 |h s l r aa ab=>
  rw[gL,fL,aa,ab];congr 1
  unfold gN fN;cases a:As ls s with
  |none=>simp
  |some x=>obtain⟨d,hd,e⟩:=MQ a;have:=h d hd;rw[e]at this;simp[this]
theorem SP (h:ER ls) (t:Tm) (ht:Av t=0):gT ls t=Ai ls t:=by
 rw[<-Pa h t ht];unfold gT fT;rw[ZY h];unfold gN fN;cases a:As ls t.name with
 |none=>simp
 |some x=>obtain⟨d,hd,e⟩:=MQ a;have:=h d hd;rw[e]at this;simp[this]
def G6 (ls:List Bd) (P:Tm->Prop):Prop:=∀d∈ls,P d.t
theorem ZZ {P:Tm->Prop} (hP:∀x,P x->∀y∈x.args,P y) (b:∀a g g',Bx p.args a g=some g'->(∀y∈a,P y)->G6 g P->G6 g' P) (he:AX p t h=some h') (ht:P t) (hv:G6 h P):G6 h' P:=by
 unfold AX at he;split at he
 ·split at he
  ·split at he
   ·cases he; exact hv
   ·cases he
  ·cases he;intro d hd;rcases Ba.1 hd with hd|hd
   ·exact hv d hd
   ·simp at hd; subst hd; exact ht
 ·split at he
  ·exact b _ _ _ he (hP t ht) hv
  ·cases he
theorem Z2 {P:Tm->Prop} (hP:∀x,P x->∀y∈x.args,P y):∀(l a:List Tm) (h h':List Bd),Bx l a h=some h'->(∀y∈a,P y)->G6 h P->G6 h' P:=by
 intro l;induction l using Tm.indL with
 |h0=>intro a h h' he ht hv;simp[Bx]at he;subst he;exact hv
 |h s l r aa ab=>
  intro a h h' he ht hv;cases a with
  |nil=>simp[Bx] at he
  |cons t a=>
   rw[F7]at he;cases h1:AX ⟨s,l⟩ t h with
   |none=>simp only[h1] at he; cases he
   |some g=>simp only[h1] at he;exact ab _ _ _ he (λy hy=>ht y (by simp[hy])) (ZZ (p:=⟨s,l⟩) hP aa h1 (ht t (by simp)) hv)
theorem SR {P:Tm->Prop} (hP:∀x,P x->∀y∈x.args,P y) (aa:Aj p.name=false) (he:AX p t []=some h') (ht:∀y∈t.args,P y):G6 h' P:=by
 unfold AX at he;rw[Ah (by rw[aa]; simp)]at he;split at he
 ·exact Z2 hP _ _ _ _ he ht (by intro d hd; simp at hd)
 ·cases he
def Hw (rs:List Pr) (x:Tm):Prop:=Cx rs [x]
theorem Z4 (rs:List Pr):∀x,Hw rs x->∀y∈x.args,Hw rs y:=λx h y hy=>Gy.1 (JX.1 h).2 y hy
theorem SS {y:Ft} (a:∀p∈rs,Br p=0) (h:[y] <+: Bs rs x):y.1∈rs/\AX y.1.l x []=some y.2/\Fc rs x=some (gT y.2 y.1.r)/\ER y.2:=by
 have key:∀rs:List Pr,(∀p∈rs,Br p=0)->[y] <+: Bs rs x->y.1∈rs/\AX y.1.l x []=some y.2/\Fc rs x=some (gT y.2 y.1.r):=by
  intro rs;induction rs with
  |nil=>intro _ h; simp[Bs] at h
  |cons r rs d=>
   intro a h;cases hm:AX r.l x [] with
   |none=>
    have b:Bs (r::rs) x=Bs rs x:=by unfold Bs; rw[NY]; simp[hm]
    rw[b]at h;obtain⟨h1,h2,h3⟩:=d (λp hp=>a p (by simp[hp])) h;refine⟨by simp[h1],h2,?_⟩;unfold Fc at *;rw[List.findSome?_cons];have c:FG r x=none:=by unfold FG; rw[hm]; rfl
    rw[c];exact h3
   |some g=>
    have b:Bs (r::rs) x=(r,g)::Bs rs x:=by unfold Bs; rw[NY]; simp[hm]
    rw[b]at h;have c:y=(r,g):=by
     obtain⟨q,hq⟩:=h;simp at hq;exact hq.1
    subst c;refine⟨by simp,hm,?_⟩;unfold Fc;rw[List.findSome?_cons];have e:FG r x=some (Ai g r.r):=by unfold FG; rw[hm]; rfl
    rw[e,SP (MR hm) r.r (Gv (a r (by simp))).2.1]
 obtain⟨h1,h2,h3⟩:=key rs a h;exact⟨h1,h2,h3,MR h2⟩
theorem Z8 (h:Bs rs x=[]):Fc rs x=none:=by
 unfold Fc;rw[List.findSome?_eq_none_iff];intro r a;unfold Bs at h;rw[List.filterMap_eq_nil_iff]at h;have:=h r a;unfold FG;cases hm:AX r.l x [] with
 |none=>rfl
 |some g=>rw[hm] at this; simp at this
def GA (rs:List Pr) (C:Tm->Tm) (m d:Nat) (t0 x:Tm) (d':Nat):Prop:=d<=d'/\d'<=m/\Hw rs x/\Ab [C x]<=2000/\AL rs true (m-d) (C t0)=DW (d'-d) (AL rs true (m-d') (C x))
theorem GA.here {C:Tm->Tm} (hd:d<=m) (h:Hw rs x) (hz:Ab [C x]<=2000):GA rs C m d x x d:=
 ⟨Al _,hd,h,hz,by rw[Nat.sub_self]; exact(OZ (JW _ _ _ _)).symm⟩
theorem GA.trans {C:Tm->Tm} {d1 d2:Nat} {t0 t1:Tm} (h1:d<=d1) (h2:AL rs true (m-d) (C t0)=DW (d1-d) (AL rs true (m-d1) (C t1))) (h:GA rs C m d1 t1 x d2):GA rs C m d t0 x d2:=by
 obtain⟨a,b,c,z,e⟩:=h;refine⟨by omega,b,c,z,?_⟩;rw[h2,e,O0];congr 1
 omega
theorem Z9 {C:Tm->Tm} (b:Gc rs C k) (h:Cu rs true a=some a') (hd:d<m) (hz:Ab [a']+k<=2000):AL rs true (m-d) (C a)=DW (d+1-d) (AL rs true (m-(d+1)) (C a')):=by
 have c:m-d=(m-(d+1))+1:=by omega
 have e:d+1-d=1:=by omega
 rw[c,e];exact Ln (b.1 _ _ h) (by rw[b.2]; exact hz)
theorem eA {C:Tm->Tm} (b:Gc rs C k) (h:Cu rs true a=some a'):AL rs true (m-m) (C a)=(9,⟨⟨#[]⟩,[]⟩,0):=by
 rw[Nat.sub_self];exact Lk (b.1 _ _ h)
theorem eB {C:Tm->Tm} (b:Gc rs C k) (h:Cu rs true a=some a') (hd:d<m) (hz:2000<Ab [a']+k):AL rs true (m-d) (C a)=(8,⟨⟨#[]⟩,[]⟩,0):=by
 have c:m-d=(m-(d+1))+1:=by omega
 rw[c];exact Ll (b.1 _ _ h) (by rw[b.2]; exact hz)
theorem eC (a:Cx rs t.args):Cu rs true t=Fc rs t:=by
 obtain⟨s,l⟩:=t;exact ZM a
theorem ST {n:ByteArray} {x:Tm} {e:List Bd}:∀ {h:List Bd},As h n=some x->As (h++e) n=some x
 | [],h=>by simp[As] at h
 |d::r,h=>by
  rw[As]at h;rw[Bj,As];split at h
  ·rename_i e; rw[Ao e]; exact h
  ·rename_i e; rw[Ah e]; exact ST h
theorem SU {n:ByteArray} {x:Tm}:∀ {h:List Bd},As h n=none->As (h++[⟨n,x⟩]) n=some x
 | [],_=>by simp[As]
 |d::r,h=>by
  rw[As]at h;rw[Bj,As];split at h
  ·cases h
  ·rename_i e; rw[Ah e]; exact SU h
theorem Lt {n:ByteArray} {x:Tm}:∀ {h:List Bd},As h n=some x->∃d∈h,d.nm=n/\d.t=x
 | [],h=>by simp[As] at h
 |d::r,h=>by
  rw[As]at h;split at h
  ·rename_i e; exact⟨d,by simp,e,by simpa using h⟩
  ·obtain⟨d',h1,h2⟩:=Lt h;exact⟨d',by simp[h1],h2⟩
def J1 (h g:List Bd):Prop:=∀n x,As h n=some x->As g n=some x
theorem SV (hv:Aj p.name=true->p.args=[]) (c:∀b g g',p.args.length=b.length->Bx p.args b g=some g'->J1 g g'/\∀k,Gw k->J1 g' k->At k p.args=b) (he:AX p t h=some h'):J1 h h'/\∀k,Gw k->J1 h' k->Ai k p=t:=by
 obtain⟨s,a⟩:=p;unfold AX at he;simp only at he hv c;split at he
 ·rename_i h1;have ha:=hv h1;subst ha;split at he
  ·rename_i x hx;split at he
   ·rename_i h2;cases he;have e:x=t:=Cr.1 h2;subst e;exact⟨λ_ _ h=>h,λk _ hk=>JK (hk _ _ hx)⟩
   ·cases he
  ·rename_i hx;cases he;exact⟨λ_ _ h=>ST h,λk _ hk=>JK (hk _ _ (SU hx))⟩
 ·rename_i h1;split at he
  ·rename_i h2;rw[FZ]at h2;obtain⟨d,i2⟩:=c _ _ _ (by simpa using h2.2) he;refine⟨d,λk hk aa=>?_⟩;have f:As k s=none:=by
    cases i:As k s with
    |none=>rfl
    |some x=>exact absurd (hk _ _ i) h1
   rw[Iu (Ad f),i2 k hk aa];have e:s=t.name:=Ew (by simpa using h2.1);obtain⟨s2,l2⟩:=t;simp only at e ⊢;rw[e]
  ·cases he
theorem eD:∀(l c:List Tm) (h h':List Bd),Af l=0->l.length=c.length->Bx l c h=some h'->J1 h h'/\∀k,Gw k->J1 h' k->At k l=c:=by
 intro l;induction l using Tm.indL with
 |h0=>
  intro c h h' _ d he;simp[Bx]at he;subst he;have e:c=[]:=by cases c with|nil=>rfl|cons a b=>simp at d
  subst e;exact⟨λ_ _ h=>h,λ_ _ _=>by simp[At]⟩
 |h s l r ab i=>
  intro c h h' j d he;obtain⟨m,o,q⟩:=Gz j;cases c with
  |nil=>simp at d
  |cons t c=>
   rw[F7]at he;cases h1:AX ⟨s,l⟩ t h with
   |none=>simp only[h1] at he; cases he
   |some g=>simp only[h1] at he;obtain⟨a1,a2⟩:=SV (p:=⟨s,l⟩) m (λc g g' h1 h2=>ab c g g' o h1 h2) h1;obtain⟨f,u⟩:=i c g h' q (by simpa using d) he;refine⟨λn x h=>f _ _ (a1 _ _ h),λk hk aa=>?_⟩;rw[AY,a2 k hk (λn x h=>aa _ _ (f _ _ h)),u k hk aa]
theorem SW (c:Af [p]=0) (he:AX p t []=some h):Gw h/\Ai h p=t:=by
 have hv:Gw h:=λn x hx=>by
  obtain⟨d,hd,e,_⟩:=Lt hx;rw[<-e]; exact MR he d hd
 have b:(Aj p.name=true->p.args=[])/\Af p.args=0:=(by obtain⟨s,a⟩:=p;obtain⟨b,f,_⟩:=Gz c;exact⟨b,f⟩);exact⟨hv,(SV b.1 (λi g g' h1 h2=>eD p.args i g g' b.2 h1 h2) he).2 h hv (λ_ _ h=>h)⟩
theorem Pe {l:List Tm}:Af l=0↔∀t∈l,Af [t]=0:=by
 induction l with
 |nil=>simp[Af]
 |cons t r a=>
  rw[FD];constructor
  ·intro h;split at h
   ·rename_i h0;intro y hy;rcases Bh.1 hy with rfl|hy
    ·exact h0
    ·exact a.1 h y hy
   ·rename_i h0; exact absurd h h0
  ·intro h;rw[Ao (h t (by simp))];exact a.2 λy hy=>h y (by simp[hy])
theorem Hx (h:Af [t]=0):∀y∈t.args,Af [y]=0:=by
 obtain⟨s,a⟩:=t;exact Pe.1 (Gz h).2.1
theorem SZ {s:ByteArray} {a b:List Tm} (h:Af [(⟨s,a⟩:Tm)]=0) (d:a=[]->b=[]) (hb:Af b=0):Af [(⟨s,b⟩:Tm)]=0:=by
 have h1:=(Gz h).1;have c:AF s=true:=by
  cases c:AF s with
  |true=>rfl
  |false=>simp[Af,c] at h
 cases hv:Aj s with
 |false=>simp[Af,c,hv,hb]
 |true=>have:=d (h1 hv);subst this;simp[Af,c,hv]
theorem eE {g:List Bd} (b:∀d∈g,Af [d.t]=0):∀l:List Tm,Af l=0->Af (At g l)=0:=by
 intro l;induction l using Tm.indL with
 |h0=>intro _; simp[At,Af]
 |h s l r aa ab=>
  intro a;obtain⟨e1,c,f⟩:=Gz a;have h1:Af [(⟨s,l⟩:Tm)]=0:=Pe.1 a _ (by simp);have hk:Af [(⟨s,At g l⟩:Tm)]=0:=SZ h1 (λh=>by rw[h]; simp[At]) (aa c);rw[At,FD,Ao,ab f];unfold Hr;cases i:As g s with
  |none=>exact hk
  |some x=>
   simp only;split
   ·obtain⟨d,hd,_,e⟩:=Lt i;rw[<-e]; exact b d hd
   ·exact hk
theorem eF {g:List Bd} {M:Nat} (hM:1<=M) (c:∀d∈g,Ab [d.t]<=M):∀l:List Tm,Ab (At g l)<=Ab l*M:=by
 intro l;induction l using Tm.indL with
 |h0=>simp[At,Ab]
 |h s l r ab aa=>
  have f:Ab ((⟨s,l⟩:Tm)::r)*M=M+Ab l*M+Ab r*M:=(by simp only[Ab];rw[Nat.add_mul,Nat.add_mul,Nat.one_mul]);have hk:Ab [(⟨s,At g l⟩:Tm)]<=M+Ab l*M:=by simp only[Ab]; omega
  rw[f,At];have i:∀(y:Tm) (q:List Tm),Ab (y::q)=Ab [y]+Ab q:=λy q=>by obtain⟨a,b⟩:=y; simp[Ab]
  rw[i];refine Nat.add_le_add ?_ aa;unfold Hr;cases j:As g s with
  |none=>exact hk
  |some x=>
   simp only;split
   ·obtain⟨d,hd,_,e⟩:=Lt j;have:=c d hd;rw[e]at this;omega
   ·exact hk
theorem S8 (g:List Bd) (t:Tm):At g [t]=[Ai g t]:=by rw[AY]; simp[At]
theorem BU (h:Av t=0):Af [t]=0:=by
 unfold Av at h;split at h
 ·cases h
 ·exact h
theorem Lu {y:Tm} (hy:Af [y]=0):∀(p:List Int) (t x:Tm),Af [t]=0->AA t p=some x->Af [AJ y p t]=0/\Af [x]=0
 | [],t,x,ht,h=>by simp[AA] at h; subst h; simp[AJ]; exact⟨hy,ht⟩
 |i::r,t,x,ht,h=>by
  obtain⟨k,hk,rfl,h2⟩:=Gu h;have ha:=Hx ht;obtain⟨h3,b⟩:=Lu hy r _ x (ha _ (AM hk)) h2;refine⟨?_,b⟩;obtain⟨s,l⟩:=t;have a:=Le (AJ y r) l 0 k hk;rw[DA]at a;rw[AJ,a];refine SZ ht (λh=>by simp only at h hk; subst h; simp at hk) (Pe.2 λz hz=>?_);rcases List.mem_or_eq_of_mem_set hz with hz|rfl
  ·exact ha z hz
  ·exact h3
theorem Ta {row:List ByteArray} {y:Tm}:∀(p:List Int) (t x:Tm),Af [t]=0->AA t p=some x->AC row x y=true->AC row t (AJ y p t)=true
 | [],t,x,ht,h,hp=>by simp[AA] at h; subst h; simpa [AJ] using hp
 |i::r,t,x,ht,h,hp=>by
  obtain⟨k,hk,rfl,h2⟩:=Gu h;have h3:=Ta r _ x (Hx ht _ (AM hk)) h2 hp;obtain⟨s,l⟩:=t;simp only at hk h3;have a:=Le (AJ y r) l 0 k hk;rw[DA]at a;have hs:Aj s=false:=by
   cases hv:Aj s with
   |false=>rfl
   |true=>have:=(Gz ht).1 hv; subst this; simp at hk
  have c:l.set k (AJ y r l[k])=l.take k++AJ y r l[k]::l.drop (k+1):=List.set_eq_take_append_cons_drop .. |>.trans (by rw[Ao hk]);have d:l=l.take k++l[k]::l.drop (k+1):=by rw[<-Jx hk,DM]
  rw[AJ];simp only;rw[a,c];have b:=RR (row:=row) hs (l.take k) (l.drop (k+1)) h3;rw[<-d]at b;exact b
theorem Pf (f:∀p∈rs,Br p=0) (ht:Af [t]=0) (hx:x∈Cl rs t):
  Af [x]=0/\(∀row,(∀p∈rs,AC row p.l p.r=true)->AC row t x=true)/\∀K,(∀p∈rs,Ab [p.r]<=K)->Ab [x]<=K*Ab [t]+Ab [t]:=by
 unfold Cl at hx;obtain⟨p,hp,h1⟩:=IM.1 hx;unfold JM at h1;cases ha:AA t p with
 |none=>rw[ha] at h1; simp at h1
 |some z=>
  rw[ha]at h1;simp only at h1;obtain⟨r,aa,h2⟩:=Mc.1 h1;unfold FG at h2;cases hm:AX r.l z [] with
  |none=>rw[hm] at h2; simp at h2
  |some g=>
   rw[hm]at h2;simp only[Option.map_some,Gr] at h2;subst h2;obtain⟨h,i,j,_⟩:=Gv (f r aa);have k:=(Lu ht p t z ht ha).2;have ae:=Lh p t z ha;obtain⟨v1,v2⟩:=SW (BU h) hm;have hw:G6 g (λy=>Af [y]=0/\Ab [y]<=Ab [t]):=SR (λy hy c hc=>⟨Hx hy.1 c hc,by have:=hy.2; have e:=Cw hc; omega⟩) j hm (λc hc=>⟨Hx k c hc,by have e:=Cw hc; omega⟩);have he:Af [Ai g r.r]=0:=by
    have:=eE (g:=g) (λd hd=>(hw d hd).1) [r.r] (BU i);rw[S8]at this; exact this
   refine⟨(Lu he p t z ht ha).1,λrow ab=>?_,λK m=>?_⟩
   ·refine Ta p t z ht ha ?_;have:=MF (row:=row) v1 _ r.l r.r (Al _) (ab r aa);rw[v2]at this;exact this
   ·have h8:=Pb (Ai g r.r) p t z ha;have e:=eF (g:=g) (M:=Ab [t]) (by obtain⟨a,b⟩:=t; simp[Ab]) (λd hd=>(hw d hd).2) [r.r];rw[S8]at e;have af:=Nat.mul_le_mul_right (Ab [t]) (m r aa);omega
theorem Tc {t':Tm} (h:Cu rs inner t=some t'):t'∈Cl rs t:=by
 cases hp:De rs inner t with
 |none=>unfold Cu at h; rw[hp] at h; cases h
 |some p=>obtain⟨x,y,h1,h2,h3⟩:=O2 hp;rw[h]at h3;cases h3;have aa:p∈Ez t:=List.mem_of_find?_eq_some hp;refine IM.2 ⟨p,aa,?_⟩;unfold JM;rw[h1];unfold Fc at h2;obtain⟨r,a,b⟩:=List.exists_of_findSome?_eq_some h2;exact Mc.2 ⟨r,a,by rw[b]; rfl⟩
theorem Td (b:∀p∈rs,Br p=0):∀(m:Nat) (t x:Tm) (n:Nat),Af [t]=0->AL rs inner m t=(0,x,n)->Af [x]=0/\Cx rs [x]/\(n=0↔Cx rs [t]):=by
 intro m;induction m with
 |zero=>
  intro t x n ht h;cases a:Cu rs inner t with
  |none=>rw[I5 a]at h;cases h;have:=(JY rs inner t).1 a;exact⟨ht,this,by simp[this]⟩
  |some t'=>rw[Lk a] at h; cases h
 |succ m c=>
  intro t x n ht h;cases a:Cu rs inner t with
  |none=>rw[I5 a]at h;cases h;have:=(JY rs inner t).1 a;exact⟨ht,this,by simp[this]⟩
  |some t'=>
   have aa:¬Cx rs [t]:=λh2=>by rw[(JY rs inner t).2 h2] at a; cases a
   by_cases hz:2000<Ab [t']
   ·rw[Ll a hz]at h; cases h
   ·rw[Ln a (by omega)]at h;have ab:=(Pf b ht (Tc a)).1;unfold DW at h;split at h
    ·rename_i h0;cases h;obtain⟨h1,h2,_⟩:=c t' (AL rs inner m t').2.1 (AL rs inner m t').2.2 ab (Prod.ext h0 rfl);exact⟨h1,h2,by simp[aa]⟩
    ·rename_i h0;simp only[IK] at h;exact absurd h.1 h0
def Lv (l:List UInt8):Nat:=l.foldl (λa b=>10*a+(b.toNat-48)) 0
theorem Te (l:List UInt8) (b:UInt8):Lv (l++[b])=10*Lv l+(b.toNat-48):=by simp[Lv]
theorem Tf (h:n<10):(UInt8.ofNat (48+n)).toNat-48=n:=by
 rw[UInt8.toNat_ofNat'];omega
theorem Tg (n:Nat):Lv (Lib.decDigits n)=n:=by
 induction n using Nat.strongRecOn with
 |ind n a=>
  by_cases h:n<10
  ·rw[Lib.decDigits,EY h];have:=Te [] (UInt8.ofNat (48+n));simp only[CE] at this;rw[this,Tf h];simp[Lv]
  ·have e:Lib.decDigits n=Lib.decDigits (n / 10)++[UInt8.ofNat (48+n % 10)]:=(by conv=>lhs; rw[Lib.decDigits,dif_neg h]);rw[e,Te,a (n / 10) (by omega),Tf (by omega)];omega
theorem eG {j:Nat} (h:Dl j=Dl k):j=k:=by
 unfold Dl at h;simp only[ByteArray.mk.injEq] at h;have h1:=Cb Array.toList h;simp only[List.toList_toArray,Hj,true_and] at h1;rw[<-Tg j,h1,Tg]
def IB (w:World) (Y:Nat->Prop) (r:Nat) (ls:List Bd):Prop:=∃Z:List Bc,AO w r (Z.map Hq)/\Z.map (·.1)=ls/\∀x∈Z,Sl w Y x.2.1 x.1.t.args
theorem IB.kept (h:IB w Y r ls) (b:w'.heap[r]? = w.heap[r]?) (hs:∀a l,Sl w Y a l->Sl w' Y a l):IB w' Y r ls:=by
 obtain⟨Z,h1,h2,h3⟩:=h;exact⟨Z,h1.kept b,h2,λx hx=>hs _ _ (h3 x hx)⟩
theorem IB.lt (h:IB w Y r ls):r<w.heap.size:=by obtain⟨Z,h1,_⟩:=h; exact h1.lt
theorem IB.later (h:IB w Y r ls) (hb:Below w.heap.size w w'):IB w' Y r ls:=h.kept (hb.block r h.lt) (λa l hs=>hs.later hb)
def AQ (K:ByteArray->ByteArray):List ByteArray->List Tm->List Tm×List ByteArray
 |ns,[]=>([],ns)
 |ns,⟨s,l⟩::r=>
  if Aj s=true then (⟨Dl (A0 (K s) ns+1),[]⟩::(AQ K (CY ns (K s)) r).1,(AQ K (CY ns (K s)) r).2)
  else (⟨s,(AQ K ns l).1⟩::(AQ K (AQ K ns l).2 r).1,(AQ K (AQ K ns l).2 r).2)
def AW (K:ByteArray->ByteArray) (ns:List ByteArray) (t:Tm):Tm×List ByteArray:=
 if Aj t.name=true then (⟨Dl (A0 (K t.name) ns+1),[]⟩,CY ns (K t.name)) else (⟨t.name,(AQ K ns t.args).1⟩,(AQ K ns t.args).2)
theorem Fu (K:ByteArray->ByteArray) (ns:List ByteArray):AQ K ns []=([],ns):=by rw[AQ]
theorem G7 (K:ByteArray->ByteArray) (ns:List ByteArray) (t:Tm) (r:List Tm):AQ K ns (t::r)=((AW K ns t).1::(AQ K (AW K ns t).2 r).1,(AQ K (AW K ns t).2 r).2):=by
 obtain⟨s,l⟩:=t;rw[AQ];unfold AW;by_cases h:Aj s=true
 ·simp[h]
 ·simp[h]
theorem Th (K:ByteArray->ByteArray) (b:List Tm):∀(a:List Tm) (ns:List ByteArray),AQ K ns (a++b)=((AQ K ns a).1++(AQ K (AQ K ns a).2 b).1,(AQ K (AQ K ns a).2 b).2)
 | [],ns=>by simp[Fu]
 |t::r,ns=>by
  rw[Bj,G7,Th K b r,G7];simp
theorem eH (K:ByteArray->ByteArray) (ns:List ByteArray) (l:List Tm) (k:Nat) (h:k<l.length):AQ K ns (l.take (k+1))=((AQ K ns (l.take k)).1++[(AW K (AQ K ns (l.take k)).2 l[k]).1],(AW K (AQ K ns (l.take k)).2 l[k]).2):=by
 rw[Ci h,Th,G7,Fu]
theorem Ti (K:ByteArray->ByteArray):∀(l:List Tm) (ns:List ByteArray),(AQ K ns l).1.length=l.length
 | [],ns=>by simp[Fu]
 |t::r,ns=>by rw[G7]; simp[Ti K r]
theorem MS (K:ByteArray->ByteArray) (l:List Tm):∀(ns:List ByteArray),(AQ K ns l).2.length<=ns.length+Ab l:=by
 induction l using Tm.indL with
 |h0=>intro ns; simp[Fu]
 |h s l r aa ab=>
  intro ns;have e:Ab ((⟨s,l⟩:Tm)::r)=1+Ab l+Ab r:=by simp[Ab]
  rw[e,G7];have h2:=ab (AW K ns ⟨s,l⟩).2;have h3:(AW K ns ⟨s,l⟩).2.length<=ns.length+(1+Ab l):=by
   unfold AW;split
   ·have:=MD ns (K s); simp only; omega
   ·have:=aa ns; simp only; omega
  simp only;omega
theorem J2 (K:ByteArray->ByteArray) (t:Tm) (ns:List ByteArray):(AW K ns t).2.length<=ns.length+Ab [t]:=by
 have h:=MS K [t] ns;rw[G7,Fu]at h;exact h
def AD (i:Nat) (s:ByteArray):ByteArray:=(⟨(Lib.decDigits i).toArray⟩:ByteArray)++s
def BW (K:ByteArray->ByteArray) (ns:List ByteArray) (p:Pr):Pr×List ByteArray:=(⟨(AW K ns p.l).1,(AW K (AW K ns p.l).2 p.r).1⟩,(AW K (AW K ns p.l).2 p.r).2)
def AZ (o n:Pr):Pr×Pr:=((BW (AD 0) [] o).1,(BW (AD 1) (BW (AD 0) [] o).2 n).1)
def Df (p:Pr):Pr:=(BW id [] p).1
theorem Tj (K:ByteArray->ByteArray) (p:Pr) (ns:List ByteArray):(BW K ns p).2.length<=ns.length+Ab [p.l]+Ab [p.r]:=by
 have h1:=J2 K p.l ns;have h2:=J2 K p.r (AW K ns p.l).2;unfold BW;simp only;omega
def BI:List ByteArray->List Tm->List Tm×List ByteArray
 |ns,[]=>([],ns)
 |ns,⟨s,l⟩::r=>
  if Aj s=true then (⟨Dl (A0 s ns+1),[]⟩::(BI (CY ns s) r).1,(BI (CY ns s) r).2)
  else (⟨s,(BI ns l).1⟩::(BI (BI ns l).2 r).1,(BI (BI ns l).2 r).2)
def DF (ns:List ByteArray) (t:Tm):Tm×List ByteArray:=
 if Aj t.name=true then (⟨Dl (A0 t.name ns+1),[]⟩,CY ns t.name) else (⟨t.name,(BI ns t.args).1⟩,(BI ns t.args).2)
theorem J3 (ns:List ByteArray):BI ns []=([],ns):=by rw[BI]
theorem Lw (ns:List ByteArray) (t:Tm) (r:List Tm):BI ns (t::r)=((DF ns t).1::(BI (DF ns t).2 r).1,(BI (DF ns t).2 r).2):=by
 obtain⟨s,l⟩:=t;rw[BI];unfold DF;by_cases h:Aj s=true
 ·simp[h]
 ·simp[h]
theorem Tl (b:List Tm):∀(a:List Tm) (ns:List ByteArray),BI ns (a++b)=((BI ns a).1++(BI (BI ns a).2 b).1,(BI (BI ns a).2 b).2)
 | [],ns=>by simp[J3]
 |t::r,ns=>by
  rw[Bj,Lw,Tl b r,Lw];simp
theorem eI (ns:List ByteArray) (l:List Tm) (k:Nat) (h:k<l.length):BI ns (l.take (k+1))=((BI ns (l.take k)).1++[(DF (BI ns (l.take k)).2 l[k]).1],(DF (BI ns (l.take k)).2 l[k]).2):=by
 rw[Ci h,Tl,Lw,J3]
theorem Tn:∀(l:List Tm) (ns:List ByteArray),(BI ns l).1.length=l.length
 | [],ns=>by simp[J3]
 |t::r,ns=>by rw[Lw]; simp[Tn r]
theorem eJ (l:List Tm):∀(ns:List ByteArray),(BI ns l).2.length<=ns.length+Ab l:=by
 induction l using Tm.indL with
 |h0=>intro ns; simp[J3]
 |h s l r aa ab=>
  intro ns;have e:Ab ((⟨s,l⟩:Tm)::r)=1+Ab l+Ab r:=by simp[Ab]
  rw[e,Lw];have h2:=ab (DF ns ⟨s,l⟩).2;have h3:(DF ns ⟨s,l⟩).2.length<=ns.length+(1+Ab l):=by
   unfold DF;split
   ·have:=MD ns s; simp only; omega
   ·have:=aa ns; simp only; omega
  simp only;omega
theorem eK (w:World) (a b:Value) (T:Nat):∀j u,([a,b]:List Value)[j]? = some u->(w.alloc (zh #[a,b] T)).cell? (((zD w.heap.size 0):Addr).add j)=some u:=λj u h=>by
 have hb:=Ac.new w #[a,b] T;have h1:((zD w.heap.size 0):Addr).add j=(zD w.heap.size j):=by
  by_cases h0:j=0
  ·subst h0; simp[Addr.add]
  ·simp[Addr.add,h0]
 rw[h1,hb.cell j];simpa using h
def EA (Q:Nat) (s1:ByteArray) (v1:Value) (w':World):Prop:=w'.cell? (zD Q 0)=some (.string s1)/\w'.cell? (zD Q 1)=some v1
theorem EA.kept (h:EA Q s1 v1 w) (hk:w'.heap[Q]? = w.heap[Q]?):EA Q s1 v1 w':=⟨by simpa [World.cell?,hk] using h.1,by simpa [World.cell?,hk] using h.2⟩
structure J5 (w:World) (B r:Nat) (s:ByteArray) (T:Array Value) (u:Value) (L:List Tm) (xs:List Value) (ns:List ByteArray) (wr:World):Prop where
 row:A1 wr (w.heap.size+3) 31 (λ_=>False) u L xs
 ex:Ak (λb=>b=r) w wr
 res:Ac wr (w.heap.size+1) zd 31
 o:Ac wr (w.heap.size+2) #[.string s,u] 31
 sz:w.heap.size+3<=wr.heap.size
 nm:CS wr B r ns
theorem MT {d a:World} {B:Nat} {s:ByteArray} {T:Array Value} {u:Value} {L:List Tm} {ns m:List ByteArray} {a5:Option Addr} {c5:Nat} (hr:r<w.heap.size) (hB:B<w.heap.size) (h:J5 w B r s T u L xs ns d) (F:w.heap.size+3<=Q/\some Q≠u.ownBlock) (x:EA Q s1 v1 d) (hl:L.length<=1000000)
  (f:Ak (λb=>b=r) d a) (G:Sl a (λb=>d.heap.size<=b) a5 t.args) (ab:CS a B r m):
  ∃g cap w3,(Builtin.append_ #[29,29] 29 #[u,.slice (some (zD a.heap.size 0)) 1 1]).run prog (a.alloc (ze t a5 c5))=.ok (.slice (some (zD g 0)) (L.length+1) cap) w3/\
   EA Q s1 v1 a/\EA Q s1 v1 (a.alloc (ze t a5 c5))/\EA Q s1 v1 w3/\a.cell? (zD (w.heap.size+2) 1)=some u/\(a.alloc (ze t a5 c5)).cell? (zD (w.heap.size+2) 1)=some u/\w3.cell? (zD (w.heap.size+2) 1)=some u/\w3.frozen? (zD (w.heap.size+2) 1)=false/\w.heap.size+2<w3.heap.size/\
   EA Q s1 v1 (w3.setCell (zD (w.heap.size+2) 1) (.slice (some (zD g 0)) (L.length+1) cap))/\J5 w B r s T (.slice (some (zD g 0)) (L.length+1) cap) (L++[t]) (xs++[.string t.name,.slice a5 t.args.length c5]) m (w3.setCell (zD (w.heap.size+2) 1) (.slice (some (zD g 0)) (L.length+1) cap)):=by
 obtain⟨aa,hex,H,I,a1,a6⟩:=h;obtain⟨i0,hi,J,M,N⟩:=DO Tryz.infoTerm;obtain⟨wm,n,a7,O⟩:=f.mid;have z:=aa.own.lt;have A:=aa.exq O (λb hb=>by omega) (λb _ h=>h);have a8:=n.size;have R:Q<d.heap.size:=by
  apply EX;intro hn;have e:d.heap[Q]? = none:=Jo (by omega);have:=x.1;simp[World.cell?,e]at this
 obtain⟨g,cap,w3,U,ho,c,V,aA⟩:=run_append_lies (P:=prog) (w:=a.alloc (ze t a5 c5)) 29 29 (w.heap.size+3) 31 i0 _ 2 40 underlying29 hi J M N rfl (by decide) u L.length xs ((A.below n).own.alloc _)
  (zD a.heap.size 0) 1 1 [.string t.name,.slice a5 t.args.length c5] rfl (eK _ _ _ _) (λy hy=>by simp at hy; rcases hy with rfl|rfl<;>rfl) (by decide) (by unfold maxLen; omega) (by omega) (by simp; omega) _ rfl
 have hp:=A.push (w1:=a) (w3:=w3) (t:=t) (by omega) (λb h=>h.elim) n ⟨a5,c5,rfl,G.mono λb h _=>Ad (by omega)⟩ _ rfl ho c V;have l:∀j,j<w.heap.size+3->some j≠u.ownBlock:=λj hj e=>by have:=(z j e.symm).1; omega
 have W:=c.size;simp at W;have Y:Ak (λb=>b=r) w a:=hex.transN f (λi h _=>h);have Z:Ak (λb=>b=r) w w3:=(Y.alloc _).grown c (λk hk=>Ae (by have:=(z k hk).1; omega));have o:=I.exq f (by omega);have q:=(o.alloc (ze t a5 c5)).grown c (l _ (by omega));have az:=((H.exq f (by omega)).alloc (ze t a5 c5)).grown c (l _ (by omega));have C:EA Q s1 v1 a:=x.kept (f.block Q R (by omega));have D:EA Q s1 v1 (a.alloc (ze t a5 c5)):=C.kept (Ay _ _ _ (by omega));have E:EA Q s1 v1 w3:=D.kept (c.block Q (by simp; omega) F.2);have v:CS w3 B r m:=⟨((ab.alloc _).box).grown c (l _ (by omega)),(ab.alloc (ze t a5 c5)).map.kept (c.block r (by have:=ab.map.lt; simp; omega) (l _ (by omega))),ab.ne⟩;refine⟨g,cap,w3,U,C,D,E,o.cell 1,(o.alloc _).cell 1,q.cell 1,q.frozen 1,by omega,E.kept (An _ _ _ _ (by simp; omega)),?_⟩;refine⟨hp.setCell (by omega) (λh=>h) _,Z.setNew (by omega) _ _,az.setOther _ _ (by omega),q.set 1 _,by simp[World.setCell]; omega,⟨v.box.setOther _ _ (by omega),v.map.kept (An _ _ _ _ (by simp; omega)),v.ne⟩⟩
def Pg (B r:Nat) (y:Tm×List ByteArray) (w:World) (e:Ending) (w':World):Prop:=
 ∃a c,e=.returned (.agg (zF y.1 a c))/\Sl w' (λb=>w.heap.size<=b) a y.1.args/\CS w' B r y.2/\Ak (λb=>b=r) w w'
theorem eL (m B r:Nat) (aG:m<=r) (t:Tm):∀(v:Value) (ns:List ByteArray) (w:World) (X:Nat->Prop),TV w X v t->(∀b,X b->b≠r)->CS w B r ns->Tb m w->ns.length+Ab [t]<=100000->
  Calls prog 99 #[v,.func (.func 97) #[] #[zC B]] w λe w'=>Pg B r (DF ns t) w e w':=by
 induction t using Tm.ind with
 |h s l ih=>
  intro v ns w X hv hX M hT aH;obtain⟨a,c,rfl,hs⟩:=hv;have IH:=Aa ih;have HS:=Aa hs;have HX:=Aa hX;have HN:=Aa M;have HT:=Aa hT;have hl:=hs.1;have hz:Ab [(⟨s,l⟩:Tm)]=1+Ab l:=by simp[Ab]
  rw[hz]at aH;have hlen:=E4 l;have aI:r<w.heap.size:=M.map.lt;have aJ:B<w.heap.size:=M.box.lt;have A:Hid (r<w.heap.size/\B<w.heap.size):=⟨aI,aJ⟩;have av:m<=w.heap.size:=by omega
  clear ih hs hz hX M hT;have T2:Hid (Ac ((w.alloc (zh #[.string s,.slice a l.length c] 31)).alloc zc) w.heap.size #[.string s,.slice a l.length c] 31):=(Ac.new w _ _).alloc _;have R2:Hid (Ac ((w.alloc (zh #[.string s,.slice a l.length c] 31)).alloc zc) (w.heap.size+1) zd 31):=by
   have h:=Ac.new (w.alloc (zh #[.string s,.slice a l.length c] 31)) zd 31;rw[Cp]at h;exact h
  have j:Hid (Below w.heap.size w ((w.alloc (zh #[.string s,.slice a l.length c] 31)).alloc zc)):=((Ag _ _).alloc (Al _) _).alloc (by simp) _;have c0:=T2.o.cell 0;have c1:=T2.o.cell 1;cases n:Aj s with
  |true=>have HR:Hid (DF ns ⟨s,l⟩=(⟨Dl (A0 s ns+1),[]⟩,CY ns s)):=Aa (by unfold DF;simp[n]);have NM:=Aa (RK m s ns B r _ (HN.o.later j.o) (HT.o.on (j.o.mono av)) aG (Bf av j.o.size) (by omega));have HV:=Aa n;clear n;go_enter func99,ntmps99;go_wp2_with fail;refine(BR s _).mono ?_;rintro e w2 ⟨rfl,rfl⟩;rw[HV.o];go_wp2_with fail;refine NM.o.mono ?_;rintro e w3 ⟨rfl,a7,aw⟩;have q:=Aa (R2.o.exq aw (by omega));have ax:=Aa a7;have aK:=Aa ((Ak.ofBelow (Q:=λb=>b=r) j.o).transN aw (λi h _=>h));clear a7 aw c0 c1 NM;have r0:=q.o.c0;have r1:=q.o.c1;have rf:=q.o.frozen;have ay:w.heap.size+1<w3.heap.size:=q.o.lt;generalize Dl (A0 s ns+1)=nm at *;go_wp2_with fail;refine Aq (v:=.agg #[.string nm,zB]) (by simp[results,results99,go_sem,Az,Aw,r0,r1,ay]) rfl ?_;rw[HR.o];refine⟨none,0,rfl,⟨by simp,Ae rfl⟩,⟨(ax.o.box.setOther _ _ (by omega)).setOther _ _ (by omega),?_,ax.o.ne⟩,(aK.o.setNew (by omega) _ _).setNew (by omega) _ _⟩;refine ax.o.map.kept ?_;rw[An _ _ _ _ (by simp; omega),An _ _ _ _ (by simp; omega)]
  |false=>
   have HR:Hid (DF ns ⟨s,l⟩=(⟨s,(BI ns l).1⟩,(BI ns l).2)):=Aa (by unfold DF;simp[n]);have HV:=Aa n;clear n;go_enter func99,ntmps99;go_wp2_with fail;refine(BR s _).mono ?_;rintro e w2 ⟨rfl,rfl⟩;rw[HV.o];go_wp2_with fail;have O3:Hid (Ac (((w.alloc (zh #[.string s,.slice a l.length c] 31)).alloc zc).alloc (zh #[.string s,zB] 31)) (w.heap.size+2) #[.string s,zB] 31):=(by have h:=Ac.new ((w.alloc (zh #[.string s,.slice a l.length c] 31)).alloc zc) #[.string s,zB] 31;have e:((w.alloc (zh #[.string s,.slice a l.length c] 31)).alloc zc).heap.size=w.heap.size+2:=(by simp);rw[e]at h;exact h);have q:=Aa (R2.o.alloc (zh #[.string s,zB] 31));have B3:=Aa (j.o.alloc j.o.size (.cells #[.string s,zB] 31));have aL:Hid (w.heap.size+3<=(((w.alloc (zh #[.string s,.slice a l.length c] 31)).alloc zc).alloc (zh #[.string s,zB] 31)).heap.size):=Aa (by simp);clear c0 c1 j T2 R2;generalize (((w.alloc (zh #[.string s,.slice a l.length c] 31)).alloc zc).alloc (zh #[.string s,zB] 31))=w3 at *;go_loopw [22] (λi wr=>∃(k:Nat) (u:Value) (xs:List Value),k<=l.length/\i=zA k/\J5 w B r s #[] u (BI ns (l.take k)).1 xs (BI ns (l.take k)).2 wr) (λi wr=>l.length-(intOf i).toNat);case atStart=>exact⟨0,zB,[],Be _,rfl,⟨by have h:=A1.start w3 (w.heap.size+3) 31 (λ_=>False); simpa [J3] using h,Ak.ofBelow B3.o,q.o,O3.o,aL.o,by simpa [J3] using HN.o.later B3.o⟩⟩
   case round=>
    obtain⟨k,u9,xs,hk,rfl,a8⟩:=hrel;have aa:=Aa a8;clear a8;have o0:=aa.o.o.c0;have o1:wr.cell? (zD (w.heap.size+2) 1)=some u9:=aa.o.o.cell 1;by_cases N:k<l.length
    ·obtain⟨b,o,a',c',rfl,d0,d1,hx⟩:=(((HS.o.mono (Y:=λb=>X b/\b<w.heap.size) λb h1 h2=>⟨h1,h2⟩).exq aa.o.ex (λb h=>HX.o b h.1)).mono (Y:=λb=>(X b/\b<w.heap.size)/\b<wr.heap.size) λb h1 h2=>⟨h1,h2⟩).get (Ag wr.heap.size wr) (λb h _=>h.2) k N;have aM:(k:Int)<(l.length:Int):=(by omega);have aN:Ab [l[k]]<=Ab l-Ab (l.take k):=by
      have h1:=DP l k N;have h2:=Eu l (k+1);omega
     have aA:Ab (l.take k)<=Ab l:=Eu l k;have aB:Hid ((BI ns (l.take k)).1.length<=1000000):=Aa (by rw[Tn];simp;omega);have aS:=eJ (l.take k) ns;have az:=Aa (eI ns l k N);have BQ:Below wr.heap.size wr (wr.alloc (ze l[k] a' c')):=(Ag _ _).alloc (Al _) _;have aO:=Aa (hx.later BQ);have O:Hid (w.heap.size+3<=wr.heap.size/\some wr.heap.size≠u9.ownBlock):=⟨aa.o.sz,λe=>by have:=(aa.o.row.own.lt _ e.symm).2; omega⟩;have C:Hid (J5 w B r s #[] u9 (BI ns (l.take k)).1 xs (BI ns (l.take k)).2 (wr.alloc (ze l[k] a' c'))):=⟨aa.o.row.below BQ,aa.o.ex.alloc _,aa.o.res.alloc _,aa.o.o.alloc _,by have:=aa.o.sz; simp; omega,aa.o.nm.alloc _⟩;have a6:Hid (EA wr.heap.size l[k].name (.slice a' l[k].args.length c') (wr.alloc (ze l[k] a' c'))):=⟨(Ac.new wr _ _).cell 0,(Ac.new wr _ _).cell 1⟩;have aP:Hid (Tb m (wr.alloc (ze l[k] a' c'))):=HT.o.on (C.o.ex.below av (λb hb=>by omega));clear hx BQ o0;go_upto_region 7 with fail;clear d0 d1 aa o1;generalize (wr.alloc (ze l[k] a' c'))=f at *;generalize wr.heap.size=Q at *;have aC:Hid (Calls prog 99 #[.agg (zF l[k] a' c'),.func (.func 97) #[] #[zC B]] f.drew λe P=>∃a1 c1,e=.returned (.agg #[.string (DF (BI ns (l.take k)).2 l[k]).1.name,.slice a1 (DF (BI ns (l.take k)).2 l[k]).1.args.length c1])/\Sl P (λb=>f.heap.size<=b) a1 (DF (BI ns (l.take k)).2 l[k]).1.args/\CS P B r (DF (BI ns (l.take k)).2 l[k]).2/\Ak (λb=>b=r) f P):=(IH.o l[k] (AM N) _ _ f.drew _ (aO.o.later ((Ag f.heap.size f).drew)) (λb h=>HX.o b h.1.1) (C.o.nm.later ((Ag f.heap.size f).drew)) (aP.o.on ((Ag m f).drew)) (by omega)).mono λe P hp=>by
       obtain⟨a1,c1,h1,h2,h3,h4⟩:=hp;exact⟨a1,c1,h1,h2,h3,((Ak.refl _ f).drew).trans h4⟩
     generalize DF (BI ns (l.take k)).2 l[k]=y at *;have aD:Hid (EA Q l[k].name (.slice a' l[k].args.length c') f.drew):=a6.o;refine D9 (S:=EA Q l[k].name (.slice a' l[k].args.length c')) (by kernel_rfl) aD.o λhH=>?_;refine tkz 0 ?_;refine tkz 2 ?_ (hy:=by intro w' aE;have e0:=aE.1;have e1:=aE.2;go_simp<;>with_reducible rfl);refine tkz 3 ?_;have aT:f.drew.cell? (zD (w.heap.size+2) 1)=some u9:=C.o.o.cell 1;refine D3 (rs:=[1,4]) (by kernel_rfl) (by simp) ?_;refine BJ rfl (λK d=>?_) (BJ rfl (λK d=>?_) D5)
     ·go_simp;refine d.o _ _ (by exact aD.o) λhH=>?_;clear d K;(try simp only[Act.put,sq]);refine rdq 4 rfl λK d=>?_;go_simp;go_at_call 99;refine aC.o.mono ?_;rintro e w5 ⟨a5,c5,rfl,D,E,F⟩;obtain⟨g,cap,w3,hrun,G,H,I,x,R,z,of,ol,J,ab⟩:=MT (t:=y.1) (c5:=c5) A.o.1 A.o.2 C.o ⟨O.o.1,O.o.2⟩ a6.o aB.o F D E;have T:=Aa hrun;have U:=Aa ab;have V:=Aa G;have L:=Aa H;have W:=Aa I;have Z:=Aa J;have O5:=Aa (And.intro x (And.intro z (And.intro of ol)));clear hrun ab G H I J D E F;go_simp;refine d.o _ _ (by exact V.o) λhH=>?_;clear d K;(try simp only[Act.put,sq]);refine rdq 5 rfl λK d=>?_;go_simp;refine d.o _ _ (by exact L.o) λhH=>?_;clear d K;(try simp only[Act.put,sq]);refine rdq 6 rfl λK d=>?_;refine JQ rfl _ _ _ _ rfl rfl rfl T.o ?_;refine d.o _ _ (by exact W.o) λhH=>?_;clear d K;(try simp only[Act.put,sq]);refine tkz 7 ?_;refine rdq 8 rfl λK d=>?_;go_simp;refine d.o _ _ (by exact Z.o) λhH=>?_;clear d K;(try simp only[Act.put,sq]);refine dnq ?_;clear z of ol x R;go_wp2_with fail;go_roundw
      case rel=>exact⟨k+1,_,_,by omega,by go_num,by rw[az.o]; exact U.o⟩
      case measure=>simp[intOf]; omega
     ·go_simp;go_at_call 99;refine aC.o.mono ?_;rintro e w5 ⟨a5,c5,rfl,D,E,F⟩;obtain⟨g,cap,w3,hrun,G,H,I,x,R,z,of,ol,J,ab⟩:=MT (t:=y.1) (c5:=c5) A.o.1 A.o.2 C.o ⟨O.o.1,O.o.2⟩ a6.o aB.o F D E;have T:=Aa hrun;have U:=Aa ab;have V:=Aa G;have L:=Aa H;have W:=Aa I;have Z:=Aa J;have O5:=Aa (And.intro x (And.intro z (And.intro of ol)));clear hrun ab G H I J D E F;go_simp;refine d.o _ _ (by exact V.o) λhH=>?_;clear d K;(try simp only[Act.put,sq]);refine D3 (rs:=[1,5]) (by kernel_rfl) (by simp) ?_;refine BJ rfl (λK d=>?_) (BJ rfl (λK d=>?_) D5)
      ·go_simp;refine d.o _ _ (by exact V.o) λhH=>?_;clear d K;(try simp only[Act.put,sq]);refine rdq 5 rfl λK d=>?_;go_simp;refine d.o _ _ (by exact L.o) λhH=>?_;clear d K;(try simp only[Act.put,sq]);refine rdq 6 rfl λK d=>?_;refine JQ rfl _ _ _ _ rfl rfl rfl T.o ?_;refine d.o _ _ (by exact W.o) λhH=>?_;clear d K;(try simp only[Act.put,sq]);refine tkz 7 ?_;refine rdq 8 rfl λK d=>?_;go_simp;refine d.o _ _ (by exact Z.o) λhH=>?_;clear d K;(try simp only[Act.put,sq]);refine dnq ?_;clear z of ol x R;go_wp2_with fail;go_roundw
       case rel=>exact⟨k+1,_,_,by omega,by go_num,by rw[az.o]; exact U.o⟩
       case measure=>simp[intOf]; omega
      ·go_simp;refine d.o _ _ (by exact L.o) λhH=>?_;clear d K;(try simp only[Act.put,sq]);refine rdq 1 rfl λK d=>?_;go_simp;refine d.o _ _ (by exact L.o) λhH=>?_;clear d K;(try simp only[Act.put,sq]);refine rdq 6 rfl λK d=>?_;refine JQ rfl _ _ _ _ rfl rfl rfl T.o ?_;refine d.o _ _ (by exact W.o) λhH=>?_;clear d K;(try simp only[Act.put,sq]);refine tkz 7 ?_;refine rdq 8 rfl λK d=>?_;go_simp;refine d.o _ _ (by exact Z.o) λhH=>?_;clear d K;(try simp only[Act.put,sq]);refine dnq ?_;clear z of ol x R;go_wp2_with fail;go_roundw
       case rel=>exact⟨k+1,_,_,by omega,by go_num,by rw[az.o]; exact U.o⟩
       case measure=>simp[intOf]; omega
    ·have aU:¬((k:Int)<(l.length:Int)):=(by omega);have aQ:l.take k=l:=BH (by omega);rw[aQ]at aa;obtain⟨ae,ce,rfl,hse⟩:=aa.o.row.sl;have aR:=Aa hse;clear hse;have r0:=aa.o.res.c0;have r1:=aa.o.res.c1;have rf:=aa.o.res.frozen;have ay:w.heap.size+1<wr.heap.size:=aa.o.res.lt;go_wp2_with fail;refine Aq (v:=.agg #[.string s,.slice ae (BI ns l).1.length ce]) (by simp[results,results99,go_sem,Az,Aw,r0,r1,ay]) rfl ?_;rw[HR.o];have aV:=aa.o.sz;have aW:=A.o;refine⟨ae,ce,rfl,(aR.o.kept λb hb=>?_).mono λb hb _=>?_,⟨(aa.o.nm.box.setOther _ _ (by omega)).setOther _ _ (by omega),?_,aa.o.nm.ne⟩,(aa.o.ex.setNew (by omega) _ _).setNew (by omega) _ _⟩
     ·have aF:b≠w.heap.size+1:=by
       rcases hb with h|h
       ·exact h.elim
       ·omega
      rw[An _ _ _ _ (by simpa using aF),An _ _ _ _ (by simpa using aF)]
     ·rcases hb with h|h
      ·exact h.elim
      ·omega
     ·refine aa.o.nm.map.kept ?_;rw[An _ _ _ _ (by simp; omega),An _ _ _ _ (by simp; omega)]
def I6 (d:Bd):List Bd->List Bd
 | []=>[d]
 |e::r=>if B8 d.nm e.nm=true then d::e::r else e::I6 d r
def I7:List Bd->List Bd
 | []=>[]
 |d::r=>I6 d (I7 r)
theorem Ph (d:Bd):∀l,(I6 d l).Perm (d::l)
 | []=>List.Perm.refl _
 |e::r=>by
  rw[I6];split
  ·exact List.Perm.refl _
  ·exact((Ph d r).cons e).trans (List.Perm.swap d e r)
theorem G8:∀l,(I7 l).Perm l
 | []=>List.Perm.refl _
 |d::r=>(Ph d _).trans ((G8 r).cons d)
theorem To (d:Bd):∀l,FF l->(∀e∈l,d.nm≠e.nm)->FF (I6 d l)
 | [],_,_=>by simp[I6,FF]
 |e::r,h,b=>by
  obtain⟨h1,h2⟩:=NZ.1 h;rw[I6];split
  ·rename_i a;refine NZ.2 ⟨λx hx=>?_,h⟩;rcases Bh.1 hx with rfl|hx
   ·exact a
   ·exact Oj a (h1 x hx)
  ·rename_i a;refine NZ.2 ⟨λx hx=>?_,To d r h2 λe he=>b e (by simp[he])⟩;rcases Bh.1 ((Ph d r).subset hx) with rfl|hx
   ·cases h3:B8 e.nm x.nm with
    |true=>rfl
    |false=>exact absurd (JH (by simpa using a) h3) (b e (by simp))
   ·exact h1 x hx
theorem Tp:∀l,Ey l->FF (I7 l)
 | [],_=>by simp[I7,FF]
 |d::r,h=>by
  obtain⟨h1,h2⟩:=NZ.1 h;exact To d _ (Tp r h2) λe he=>h1 e ((G8 r).subset he)
inductive UO where
 |go (s:List Bd) (l:List Pr)
 |stop (e:Int) (s:List Bd)
def AE:List Tm->List Tm->List Pr
 |a::r,b::q=>⟨a,b⟩::AE r q
 |_,_=>[]
def Dr (x:ByteArray) (t:Tm) (d:Bd):Bd:=⟨d.nm,Ai [⟨x,t⟩] d.t⟩
def Bm (s:List Bd):Bool:=s.any λd=>decide (2000<Ab [d.t])
def EC (lim:Bool) (s:List Bd) (l:List Pr) (x:ByteArray) (t:Tm):UO:=
 if Bb x (AN [] (Ap [t]))=true then .stop 6 s
 else if (lim&&Bm (s.map (Dr x t)))=true then .stop 8 s
 else .go (I7 (s.map (Dr x t)++[⟨x,t⟩])) l
def CZ (lim:Bool) (s:List Bd) (l:List Pr) (a b:Tm):UO:=
 if 2000<Ab [a]∨2000<Ab [b] then .stop 8 s
 else if Aj a.name=true then (if a.name=b.name then .go s l else EC lim s l a.name b)
 else if Aj b.name=true then EC lim s l b.name a
 else if a.name=b.name/\a.args.length=b.args.length then .go s (AE a.args b.args++l)
 else .stop 5 s
def G9 (lim:Bool) (s:List Bd):List Pr->UO
 | []=>.stop 0 s
 |p::l=>CZ lim s l (Ai s p.l) (Ai s p.r)
theorem Hy (lim:Bool) (s:List Bd) (p:Pr) (l:List Pr):G9 lim s (p::l)=CZ lim s l (Ai s p.l) (Ai s p.r):=rfl
def BG (lim:Bool):Nat->List Bd->List Pr->Option (Int×List Bd)
 |0,_,_=>none
 |n+1,s,l=>match G9 lim s l with
  | .stop e s'=>some (e,s')
  | .go s' l'=>BG lim n s' l'
theorem MU (t:Tm):1<=Ab [t]:=by
 obtain⟨s,l⟩:=t;simp[Ab]
theorem eM (ls:List Bd):∀l:List Tm,Ab l<=Ab (At ls l):=by
 intro l;induction l using Tm.indL with
 |h0=>simp[At,Ab]
 |h s l r aa ab=>
  have b:Ab (At ls (⟨s,l⟩::r))=Ab [Ai ls ⟨s,l⟩]+Ab (At ls r):=(by rw[AY];generalize Ai ls ⟨s,l⟩=x;obtain⟨s2,m⟩:=x;simp[Ab]);have c:Ab (⟨s,l⟩::r)=(1+Ab l)+Ab r:=by simp[Ab]
  have h1:1+Ab l<=Ab [Ai ls ⟨s,l⟩]:=by
   by_cases a:l=[]
   ·subst a;have:=MU (Ai ls ⟨s,[]⟩);simpa [Ab] using this
   ·rw[Iu (Ae a)];simp only[Ab];omega
  rw[b,c];omega
theorem Pi (ls:List Bd) (t:Tm):Ab [t]<=Ab [Ai ls t]:=by
 have h:=eM ls [t];rw[AY]at h;simpa [At] using h
theorem eN {l k:List Bd} (h:l.Perm k):Bm l=Bm k:=by
 unfold Bm;rw[Io,D6,D6];exact⟨λ⟨d,hd,e⟩=>⟨d,h.subset hd,e⟩,λ⟨d,hd,e⟩=>⟨d,h.symm.subset hd,e⟩⟩
theorem eO (x:ByteArray) (t:Tm) (h:Bm s=true):Bm (s.map (Dr x t))=true:=by
 unfold Bm at *;rw[D6]at *;obtain⟨d,hd,e⟩:=h;refine⟨Dr x t d,Bk.2 ⟨d,hd,rfl⟩,?_⟩;have h1:=Pi [⟨x,t⟩] d.t;simp only[decide_eq_true_eq] at e ⊢;exact B7 e h1
theorem eP (x:ByteArray) (t:Tm):Bm (I7 (s.map (Dr x t)++[⟨x,t⟩]))=(Bm (s.map (Dr x t))||decide (2000<Ab [t])):=by
 rw[eN (G8 _)];unfold Bm;rw[KE];simp
theorem eQ {l':List Pr} (h:G9 lim s l=.go s' l') (c:Bm s=true):Bm s'=true:=by
 cases l with
 |nil=>cases h
 |cons p l=>
  have bind:∀x t,EC lim s l x t=.go s' l'->Bm s'=true:=λx t h=>by
   unfold EC at h;split at h
   ·cases h
   ·split at h
    ·cases h
    ·cases h;rw[eP,eO x t c];rfl
  rw[Hy]at h;unfold CZ at h;generalize Ai s p.l=a at h;generalize Ai s p.r=b at h;split at h
  ·cases h
  ·split at h
   ·split at h
    ·cases h; exact c
    ·exact bind _ _ h
   ·split at h
    ·exact bind _ _ h
    ·split at h
     ·cases h; exact c
     ·cases h
theorem Tq {e:Int} (h:G9 lim s l=.stop e s'):s'=s:=by
 cases l with
 |nil=>cases h; rfl
 |cons p l=>
  have bind:∀x t,EC lim s l x t=.stop e s'->s'=s:=λx t h=>by
   unfold EC at h;split at h
   ·cases h; rfl
   ·split at h
    ·cases h; rfl
    ·cases h
  rw[Hy]at h;unfold CZ at h;generalize Ai s p.l=a at h;generalize Ai s p.r=b at h;split at h
  ·cases h; rfl
  ·split at h
   ·split at h
    ·cases h
    ·exact bind _ _ h
   ·split at h
    ·exact bind _ _ h
    ·split at h
     ·cases h
     ·cases h; rfl
theorem Tr {lim:Bool}:∀(n:Nat) (s:List Bd) (l:List Pr) (e:Int) (sf:List Bd),BG lim n s l=some (e,sf)->Bm s=true->Bm sf=true
 |0,_,_,_,_,h,_=>by cases h
 |n+1,s,l,e,sf,h,b=>by
  rw[BG]at h;cases a:G9 lim s l with
  |stop e' s'=>rw[a]at h;cases h;rw[Tq a]; exact b
  |go s' l'=>rw[a]at h;exact Tr n s' l' e sf h (eQ a b)
theorem I8 {x:Int} (hx:0<=x) (hn:0<n):∃k:Nat,x % (n:Int)=k/\k<n:=by
 have h1:=Int.emod_nonneg x (b:=(n:Int)) (by omega);have h2:=Int.emod_lt_of_pos x (b:=(n:Int)) (by omega);exact⟨(x % (n:Int)).toNat,by omega,by omega⟩
theorem GC (c:Int) (n:Nat) (a:0<n) (ab:n<=2000000) (hc:-9223372036854775808<=c/\c<=9223372036854775807) (w:World):
  Calls prog 5 #[zA c,zA n] w λe w'=>∃k:Nat,e=.returned (zA k)/\k<n/\w'=w:=by
 go_enter func5,ntmps5;by_cases h:c<0
 ·go_wp2_with fail;go_ret;obtain⟨k,hk,aa⟩:=I8 (x:=-(c+1)) (by omega) a;refine⟨k,?_,aa,rfl⟩;have h1:-(c+1).tmod (n:Int)=k:=by rw[<-Int.neg_tmod,Int.tmod_eq_emod_of_nonneg (by omega)]; exact hk
  simp[h1]
 ·go_wp2_with fail;go_ret;obtain⟨k,hk,aa⟩:=I8 (x:=c) (by omega) a;exact⟨k,by simp[hk],aa,rfl⟩
def GD (c:Int) (n:Nat):Nat:=if c<0 then (-(c+1) % (n:Int)).toNat else (c % (n:Int)).toNat
theorem Ts (c:Int) (n:Nat) (a:0<n):GD c n<n:=by
 unfold GD;split
 ·obtain⟨k,hk,aa⟩:=I8 (x:=-(c+1)) (by omega) a;rw[hk]; simpa using aa
 ·obtain⟨k,hk,aa⟩:=I8 (x:=c) (by omega) a;rw[hk]; simpa using aa
theorem Pj (c:Int) (n:Nat) (b:0<n) (ab:n<=2000000) (hc:-9223372036854775808<=c/\c<=9223372036854775807) (w:World):
  Calls prog 5 #[zA c,zA n] w λe w'=>e=.returned (zA (GD c n:Int))/\w'=w:=by
 go_enter func5,ntmps5;by_cases h:c<0
 ·have a:Hid (((GD c n:Nat):Int)=-(c+1).tmod (n:Int)):=by
   obtain⟨k,hk,aa⟩:=I8 (x:=-(c+1)) (by omega) b;have h1:-(c+1).tmod (n:Int)=k:=by rw[<-Int.neg_tmod,Int.tmod_eq_emod_of_nonneg (by omega)]; exact hk
   unfold Hid GD;rw[h1,Ao h,hk]; simp
  go_wp2_with fail;go_ret;exact⟨by simp[a.o],rfl⟩
 ·have a:Hid (((GD c n:Nat):Int)=c % (n:Int)):=Aa (by obtain⟨k,hk,aa⟩:=I8 (x:=c) (by omega) b;unfold GD;rw[Ah h,hk];simp);go_wp2_with fail;go_ret;exact⟨by simp[a.o],rfl⟩
theorem MW (x:Int) (h:-9223372036854775808<=x/\x<=9223372036854775807):IntKind.i64.wrap x=x:=by
 rw[Fm]; omega
def Eb (z:Int):Prop:=-9223372036854775808<=z/\z<=9223372036854775807
theorem eR (f:List Int) (u:Value) (w:World) (X:Nat->Prop) (hu:PV w X u f) (g:∀z∈f,Eb z) (i:Nat) (hi:i<=1000000) (ae:f.length<=1000000):
  Calls prog 34 #[u,zA i] w λe w'=>∃k:Nat,e=.returned (zA k)/\k<=100000000000/\Below w.heap.size w w':=by
 obtain⟨a,c,rfl,hl,h⟩:=hu;by_cases h0:f.length=0
 ·go_enter func34,ntmps34;go_wp2_with fail;go_ret;exact⟨i*31,by simp,by omega,Ag _ _⟩
 ·rcases h with h|⟨b,o,rfl,hX,hc⟩
  ·subst h; simp at h0
  ·have aa:0<f.length:=(by omega);obtain⟨m,hm,j⟩:=I8 (x:=(i:Int)) (by omega) aa;obtain⟨d,hd,af⟩:∃d:Nat,(i:Int) / (f.length:Int)=d/\d<=i:=⟨i / f.length,by simp,Nat.div_le_self _ _⟩;have ag:(i:Int).tmod (f.length:Int)=m:=by rw[Int.tmod_eq_emod_of_nonneg (by omega)]; exact hm
   have ah:(i:Int).tdiv (f.length:Int)=d:=by rw[Int.tdiv_eq_ediv_of_nonneg (by omega)]; exact hd
   have ab:=hc m j;have l:=g _ (AM j);generalize f[m]=z at *;have ai:(0:Int)<=(m:Int):=(by omega);have aj:(m:Int)<(f.length:Int):=(by omega);clear hc g;go_enter func34,ntmps34;go_wp2_with fail;go_region_held3 (λw'=>w'.cell? ⟨b,o+m,none⟩=some (zA z)) (first|exact ab|go_keep)
    ((go_at_call 5; refine(GC z 1000003 (by decide) (by decide) l _).mono ?_; rintro e w1 ⟨k,rfl,hk,rfl⟩))
   go_wp2_with fail;go_ret;refine⟨k+d*7919,by simp[MW (d:Int) (by omega),MW ((d:Int)*7919) (by omega),MW ((k:Int)+(d:Int)*7919) (by omega)],by omega,?_⟩;exact(Ag _ _).drew
