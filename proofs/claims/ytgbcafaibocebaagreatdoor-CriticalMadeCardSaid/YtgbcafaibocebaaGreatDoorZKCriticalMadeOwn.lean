/- Several texts in one. -/
import Derived.ProofKit
import Derived.Test.YtgbcafaibocebaaGreatDoorZJCriticalMadeOwn
namespace Go.Proofs.YtgbcafaibocebaaGreatDoor
set_option linter.all false
set_option maxRecDepth 20000
set_option maxHeartbeats 8000000
open Go.RowKit Go.Proofs.Tryz
theorem Sl.grown {w w':World} {X:Nat->Prop} {a:Option Addr} {l:List Tm} {r:Option Nat} (h:Sl w X a l) (c:w.grownBy w' r) (d:∀b,X b->some b≠r):Sl w' X a l:=by
 have h1:Sl w (λb=>X b/\b<w.heap.size) a l:=h.mono λb h1 h2=>⟨h1,h2⟩;have h2:Sl w' (λb=>X b/\b<w.heap.size) a l:=h1.kept λb hx=>c.block b hx.2 (d b hx.1);exact h2.mono λb hx _=>hx.1
theorem jP {s:ByteArray} {l:List Tm} (h:Ah [(⟨s,l⟩:Tm)]=0):AW s=true/\Ah l=0:=by
 simp only[Ah] at h;split at h
 ·refine⟨by assumption,?_⟩;split at h
  ·exact absurd h (by decide)
  ·split at h
   ·assumption
   ·exact h
 ·exact absurd h (by decide)
theorem NW {l:List Tm} (h:Ah l=0) (k:Nat) (hk:k<l.length):Ah [l[k]]=0:=by
 induction l generalizing k with
 |nil=>simp at hk
 |cons t r a=>
  rw[GG]at h;by_cases h0:Ah [t]=0
  ·rw[Ar h0]at h;cases k with
   |zero=>exact h0
   |succ k=>exact a h k (by simpa using hk)
  ·rw[Aj h0]at h; exact absurd h h0
theorem DN.lv {c w1:World} {B:Nat} {d a:Value} {aa:List ByteArray} (h:DN c B d aa a w1):LV Value.string w1 (λb=>B<=b) a aa:=LV.of_own h.1
theorem DN.refl {w:World} {B:Nat} {q:Value} {acc:List ByteArray} (h:w.ownsRow B 9 1 q acc.length (acc.map Value.string)):DN w B q acc q w:=
 ⟨h,GK (Af _ _) _,λ_ h=>Ad h⟩
theorem jQ {w:World} {B:Nat} {q:Value} {acc:List ByteArray} (s:ByteArray) (h:w.ownsRow B 9 1 q acc.length (acc.map Value.string)) (hB:B<=w.heap.size) (hn:acc.length<=3000000) (A:Nat) (b:w.heap.size=A):
  ∃a w3,(Builtin.append_ #[29,29] 29 #[q,.slice (some (zD A 0)) 1 1]).run prog (w.alloc (.cells #[.string s] 9))=.ok a w3/\DN w B q (acc++[s]) a w3:=by
 subst b;obtain⟨i0,hi,aa,ab,c⟩:=CE Tryz.infoStr;obtain⟨g,cap,w3,d,ho,f,i,hlt⟩:=run_append_lies (P:=prog) (w:=w.alloc (.cells #[.string s] 9)) 29 29 B 9 i0 _ 1 16 underlying29 hi aa ab c rfl (by decide) q acc.length (acc.map Value.string) (h.alloc _)
  (zD w.heap.size 0) 1 1 [.string s] rfl (cell_one_new _ _ _) (λx hx=>by simp at hx; subst hx; rfl) (by decide) (by unfold maxLen; omega) (by omega) (by simp; omega) _ rfl
 refine⟨_,w3,d,by simpa using ho,?_,λk hk=>?_⟩
 ·exact Ha (GK ((Af _ _).alloc (Ai _) _) q.ownBlock) f (λk hk=>Ad hk)
 ·simp[Value.ownBlock]at hk;subst hk;rcases i with e|e
  ·exact Ad e
  ·right; simp at e; omega
theorem NX {w:World} {B:Nat} {q:Value} {acc:List ByteArray} (h:w.ownsRow B 9 1 q acc.length (acc.map Value.string)) (o:Obj):DN w B q acc q (w.alloc o):=(DN.refl h).below ((Af _ _).alloc (Ai _) o)
theorem jR {w w3:World} {B:Nat} {q a:Value} {acc aa:List ByteArray} {o:Obj} (h:w.ownsRow B 9 1 q acc.length (acc.map Value.string)) (h2:DN (w.alloc o) B q aa a w3):DN w B q aa a w3:=(NX h o).step h2
theorem jS (t:Tm):∀(q v:Value) (acc:List ByteArray) (w:World) (X:Nat->Prop) (B:Nat),TV w X v t->(∀b,X b->b<B)->B<=w.heap.size->w.ownsRow B 9 1 q acc.length (acc.map Value.string)->Ah [t]=0->acc.length+Ab [t]<=2000000->
  Calls prog 85 #[q,v] w λe w'=>∃f,e=.returned f/\DN w B q (At acc (Ao [t])) f w':=by
 induction t using Tm.ind with
 |h s l T=>
  intro q v acc w X B hv u J U V aA;have L:=Aa T;clear T;obtain⟨a,c,rfl,hs⟩:=hv;have hl:=hs.1;obtain⟨hn,W⟩:=jP V;have M:=Ol hn;have N:=Aa W;have hz:Ab [(⟨s,l⟩:Tm)]=1+Ab l:=by simp[Ab]
  rw[hz]at aA;have O:Hid (At acc (Ao [(⟨s,l⟩:Tm)])=At (Bl acc s) (Ao l)):=by simp[Hid,Ao,At]
  have ab:=Aa U;clear hz hn W V U;cases g:Al s with
  |false=>
   have y:=Aa (GJ (acc:=acc) g);have I:=Aa g;clear g;go_enter func85,ntmps85;go_wp2_with (go_at_call 59; refine(II _ _ M).mono ?_; rintro e w' ⟨rfl,rfl⟩; rw[I.o]);go_loopw [0,25] (λf i wr=>∃k:Nat,k<=l.length/\i=zA k/\DN w B q (At (Bl acc s) (Ao (l.take k))) f wr) (λf i wr=>l.length-(intOf i).toNat);case atStart=>exact⟨0,AG _,rfl,by simp only[List.take_zero]; rw[y.o]; simpa [Ao,At] using NX ab.o _⟩
   case round=>
    obtain⟨k,hk,rfl,aa⟩:=hrel;have j:=Aa aa;have hlen:=Ie (Ao (l.take k)) (Bl acc s);rw[GH]at hlen;have m:=Ky acc s;have Y:B<=wr.heap.size:=AY J aa.2.1.size;by_cases d:k<l.length
    ·have z:=De l k d;have A:=Df l (k+1);have n:=hs.grown aa.2.1 (λb hb e=>by have h1:=u b hb; have h2:=(ab.o.lt b e.symm).1; omega);obtain⟨b,o,Z,c',rfl,d0,d1,hx⟩:=n.get (Af wr.heap.size wr) (λ_ _ h=>h) k d;have C:=Aa hx;have D:Hid (At (Bl acc s) (Ao (l.take (k+1)))=At (At (Bl acc s) (Ao (l.take k))) (Ao [l[k]])):=Aa (by rw[JJ l k d,IQ]);have E:Hid ((At (Bl acc s) (Ao (l.take k))).length+Ab [l[k]]<=2000000):=Aa (by omega);clear aa n hx hlen m z A;go_wp2_with fail;refine(L.o _ (AN d) _ _ _ _ X B (by exact C.o.alloc _) u (by simp; omega) (by exact j.o.1.alloc _) (NW N.o k d) E.o).mono ?_;rintro e w5 ⟨q5,rfl,r⟩;have F:=Aa ((j.o.below ((Af _ _).alloc (Ai _) _)).step r);clear r;go_wp2_with fail;go_roundw
     case rel=>exact⟨k+1,by omega,by go_num,by rw[D.o]; exact F.o⟩
     case measure=>simp[intOf]; omega
    ·have G:l.take k=l:=AX (by omega);rw[G]at aa;have H:=Aa aa;clear aa hlen m;go_wp2_with fail;go_ret;exact⟨_,rfl,by rw[O.o]; exact H.o⟩
  |true=>
   have I:=Aa g;cases x:AJ s acc with
   |true=>
    have y:=Aa (IP g x);have P:=Aa x;clear g x;go_enter func85,ntmps85;go_wp2_with (first|(go_at_call 59; refine(II _ _ M).mono ?_; rintro e w' ⟨rfl,rfl⟩; rw[I.o])|(go_at_call 103; refine(OK _ _ _ _ _ (LV.of_own (ab.o.alloc _))).mono ?_; rintro e w' ⟨rfl,rfl⟩; rw[P.o]));go_loopw [0,25] (λf i wr=>∃k:Nat,k<=l.length/\i=zA k/\DN w B q (At (Bl acc s) (Ao (l.take k))) f wr) (λf i wr=>l.length-(intOf i).toNat);case atStart=>exact⟨0,AG _,rfl,by simp only[List.take_zero]; rw[y.o]; simpa [Ao,At] using NX ab.o _⟩
    case round=>
     obtain⟨k,hk,rfl,aa⟩:=hrel;have j:=Aa aa;have hlen:=Ie (Ao (l.take k)) (Bl acc s);rw[GH]at hlen;have m:=Ky acc s;have Y:B<=wr.heap.size:=AY J aa.2.1.size;by_cases d:k<l.length
     ·have z:=De l k d;have A:=Df l (k+1);have n:=hs.grown aa.2.1 (λb hb e=>by have h1:=u b hb; have h2:=(ab.o.lt b e.symm).1; omega);obtain⟨b,o,Z,c',rfl,d0,d1,hx⟩:=n.get (Af wr.heap.size wr) (λ_ _ h=>h) k d;have C:=Aa hx;have D:Hid (At (Bl acc s) (Ao (l.take (k+1)))=At (At (Bl acc s) (Ao (l.take k))) (Ao [l[k]])):=Aa (by rw[JJ l k d,IQ]);have E:Hid ((At (Bl acc s) (Ao (l.take k))).length+Ab [l[k]]<=2000000):=Aa (by omega);clear aa n hx hlen m z A;go_wp2_with fail;refine(L.o _ (AN d) _ _ _ _ X B (by exact C.o.alloc _) u (by simp; omega) (by exact j.o.1.alloc _) (NW N.o k d) E.o).mono ?_;rintro e w5 ⟨q5,rfl,r⟩;have F:=Aa ((j.o.below ((Af _ _).alloc (Ai _) _)).step r);clear r;go_wp2_with fail;go_roundw
      case rel=>exact⟨k+1,by omega,by go_num,by rw[D.o]; exact F.o⟩
      case measure=>simp[intOf]; omega
     ·have G:l.take k=l:=AX (by omega);rw[G]at aa;have H:=Aa aa;clear aa hlen m;go_wp2_with fail;go_ret;exact⟨_,rfl,by rw[O.o]; exact H.o⟩
   |false=>
    have y:=Aa (Jx g x);have P:=Aa x;clear g x;obtain⟨q2,w3,a8,R⟩:=jQ (w:=w.alloc (.cells #[.string s,.slice a l.length c] 33)) (B:=B) s (ab.o.alloc _) (by simp; omega) (by omega) (w.heap.size+1) (by simp);have HR:=Aa a8;have aw:Ac w3 w.heap.size #[.string s,.slice a l.length c] 33:=(Ac.new w _ _).grown R.2.1 (λe=>by have:=(ab.o.lt _ e.symm).2; omega);have aB:=aw.c1;have a1:=Aa (jR ab.o R);clear a8 R aw;go_enter func85,ntmps85;go_wp2_with (first|(go_at_call 59; refine(II _ _ M).mono ?_; rintro e w' ⟨rfl,rfl⟩; rw[I.o])|(go_at_call 103; refine(OK _ _ _ _ _ (LV.of_own (ab.o.alloc _))).mono ?_; rintro e w' ⟨rfl,rfl⟩; rw[P.o])|(at_builtin; refine DD rfl _ _ _ _ rfl rfl rfl HR.o ?_));go_loopw [0,25] (λf i wr=>∃k:Nat,k<=l.length/\i=zA k/\DN w B q (At (Bl acc s) (Ao (l.take k))) f wr) (λf i wr=>l.length-(intOf i).toNat);case atStart=>exact⟨0,AG _,rfl,by simp only[List.take_zero]; rw[y.o]; simpa [Ao,At] using a1.o⟩
    case round=>
     obtain⟨k,hk,rfl,aa⟩:=hrel;have j:=Aa aa;have hlen:=Ie (Ao (l.take k)) (Bl acc s);rw[GH]at hlen;have m:=Ky acc s;have Y:B<=wr.heap.size:=AY J aa.2.1.size;by_cases d:k<l.length
     ·have z:=De l k d;have A:=Df l (k+1);have n:=hs.grown aa.2.1 (λb hb e=>by have h1:=u b hb; have h2:=(ab.o.lt b e.symm).1; omega);obtain⟨b,o,Z,c',rfl,d0,d1,hx⟩:=n.get (Af wr.heap.size wr) (λ_ _ h=>h) k d;have C:=Aa hx;have D:Hid (At (Bl acc s) (Ao (l.take (k+1)))=At (At (Bl acc s) (Ao (l.take k))) (Ao [l[k]])):=Aa (by rw[JJ l k d,IQ]);have E:Hid ((At (Bl acc s) (Ao (l.take k))).length+Ab [l[k]]<=2000000):=Aa (by omega);clear aa n hx hlen m z A;go_wp2_with fail;refine(L.o _ (AN d) _ _ _ _ X B (by exact C.o.alloc _) u (by simp; omega) (by exact j.o.1.alloc _) (NW N.o k d) E.o).mono ?_;rintro e w5 ⟨q5,rfl,r⟩;have F:=Aa ((j.o.below ((Af _ _).alloc (Ai _) _)).step r);clear r;go_wp2_with fail;go_roundw
      case rel=>exact⟨k+1,by omega,by go_num,by rw[D.o]; exact F.o⟩
      case measure=>simp[intOf]; omega
     ·have G:l.take k=l:=AX (by omega);rw[G]at aa;have H:=Aa aa;clear aa hlen m;go_wp2_with fail;go_ret;exact⟨_,rfl,by rw[O.o]; exact H.o⟩
theorem jT (t:Tm) (v:Value) (w:World) (X:Nat->Prop) (hv:TV w X v t):
  Calls prog 60 #[v] w λe w'=>∃i,e=.returned (.tuple #[i,zA (AA t)])/\(AA t=0->LV Value.string w' (λb=>w.heap.size<=b) i (At [] (Ao [t])))/\(AA t≠0->i=zB)/\Below w.heap.size w w':=by
 obtain⟨d,q,r⟩:∃d:Nat->Prop,(∀b,d b->b<w.heap.size)/\TV w d v t:=⟨λb=>X b/\b<w.heap.size,λ_ h=>h.2,hv.mono λb h1 h2=>⟨h1,h2⟩⟩;clear hv;obtain⟨a,c,rfl,hs⟩:=r;have l:=Aa (show TV w d (.agg (zF t a c)) t from ⟨a,c,rfl,hs⟩);clear hs;go_enter func60,ntmps60;go_wp2_with fail;refine(Kw t _ _ d (by exact l.o.alloc _)).mono ?_;rintro e w1 ⟨rfl,ab⟩;have j:=(Ac.new w (zF t a c) 33).below ab (by simp);have c0:=j.c0;have c1:=j.c1;have f:=Aa (((Af w.heap.size w).alloc (Ai _) (.cells (zF t a c) 33)).trans (ab.mono (by simp)));clear ab j;by_cases h:AA t=0
 ·have g:=Aa h;have m:Hid (Ah [t]=0/\Ab [t]<=200):=by
   unfold AA at h;split at h
   ·exact absurd h (by decide)
   ·exact⟨h,by omega⟩
  rw[h];clear h;go_wp2_with fail;refine(jS t _ _ [] _ d w1.heap.size (by exact l.o.later f.o) (λb hb=>by have:=q b hb; have:=f.o.size; omega) (Ai _) (Gy _ _ _ _) m.o.1 (by have:=m.o.2; simp; omega)).mono ?_;rintro e w2 ⟨s,rfl,n⟩;have aa:=Aa n;clear n;go_wp2_with fail;go_ret2
  refine⟨s,by rw[g.o]; rfl,λ_=>?_,λh=>absurd g.o h,?_⟩
  ·exact aa.o.lv.mono λb hb _=>AY f.o.size hb
  ·exact f.o.trans ⟨aa.o.2.1.os,aa.o.2.1.tape,aa.o.2.1.output,aa.o.2.1.size,λk hk=>aa.o.2.1.block k (Cn hk f.o.size) (by simp[Value.ownBlock])⟩
 ·have h':(AA t==0)=false:=by simpa using h
  have g:=Aa h;clear h;go_wp2_with fail;go_ret2
  exact⟨_,rfl,λh=>absurd h g.o,λ_=>rfl,f.o⟩
theorem jU {n s:ByteArray} {acc:List ByteArray} (hn:Al n=true):AJ n (Bl acc s)=(AJ n acc||(s.toList==n.toList)):=by
 cases hs:Al s with
 |false=>
  rw[GJ hs];have:(s.toList==n.toList)=false:=by
   rw[Jw];intro h;have e:s=n:=Eu (by simpa using h);rw[e,hn]at hs;cases hs
  rw[this,Bool.or_false]
 |true=>
  cases hi:AJ s acc with
  |true=>
   rw[IP hs hi];cases he:(s.toList==n.toList) with
   |false=>rw[Bool.or_false]
   |true=>have e:s=n:=Eu (by simpa using he);rw[<-e,hi]; rfl
  |false=>rw[Jx hs hi];unfold AJ;rw[HH];simp
theorem Un {n:ByteArray} (hn:Al n=true):∀(ks:List Tm) (acc:List ByteArray),AJ n (At acc ks)=(AJ n acc||ks.any λk=>k.name.toList==n.toList)
 | [],acc=>by simp[At]
 |k::ks,acc=>by
  have h:=Un hn ks (Bl acc k.name);show AJ n (At (Bl acc k.name) ks)=_;rw[h,jU hn,List.any_cons,Bool.or_assoc]
theorem Uo:∀(ks:List Tm) (acc:List ByteArray),(∀n∈acc,Al n=true)->∀n∈At acc ks,Al n=true
 | [],acc,h=>h
 |k::ks,acc,h=>Uo ks (Bl acc k.name) λn hn=>by
  unfold Bl at hn;split at hn
  ·rename_i hc;rcases Bg.1 hn with h1|h1
   ·exact h n h1
   ·rw[GE.1 h1];simp at hc;exact hc.1
  ·exact h n hn
theorem jV {n:ByteArray} (hn:Al n=true) (t:Tm):AJ n (At [] (Ao [t]))=Bt n [t]:=by
 rw[Un hn];simp[AJ,Bt]
theorem Up (l:Tm):∀ns:List ByteArray,(∀n∈ns,Al n=true)->(ns.any λn=>!Bt n [l])=!(ns.all λn=>AJ n (At [] (Ao [l])))
 | [],_=>by simp
 |n::ns,h=>by
  rw[List.any_cons,List.all_cons,Up l ns (λm hm=>h m (by simp[hm])),jV (h n (by simp)),Bool.not_and]
theorem jW {l:List ByteArray} {f:ByteArray->Bool} {k:Nat} (h:k<l.length):(l.take (k+1)).any f=((l.take k).any f||f l[k]):=by
 rw[Bo h,HH];simp
theorem jX {l:List ByteArray} {f:ByteArray->Bool} {k:Nat} (h:k<l.length) (h0:f l[k]=true):l.any f=true:=Ei.2 ⟨_,AN h,h0⟩
def NY (P:Nat) (p:Pr) (a1 a2:Option Addr) (c1 c2:Nat) (w:World):Prop:=Ac w P #[.string p.l.name,.slice a1 p.l.args.length c1,.string p.r.name,.slice a2 p.r.args.length c2] 38/\Sl w (λ_=>True) a1 p.l.args
theorem jY (P:Nat) (p:Pr) (a1 a2:Option Addr) (c1 c2:Nat) (n:ByteArray) (w:World) (h:NY P p a1 a2 c1 c2 w):
  Calls prog 62 #[.string n,zC P] w λe w'=>e=.returned (.bool (!Bt n [p.l]))/\Below w.heap.size w w':=by
 have H:=Aa h;have d0:=h.1.c0;have d1:=h.1.c1;clear h;go_enter func62,ntmps62;go_wp2_with fail;refine(RE n p.l _ _ (λ_=>True) ⟨_,_,rfl,H.o.2⟩).mono ?_;rintro e w1 ⟨rfl,aa⟩;have ab:=Aa aa;clear aa;go_wp2_with fail;go_ret;exact⟨rfl,ab.o⟩
def jZ (f:ByteArray->Bool) (l:List ByteArray) (w:World) (v:Value) (wr:World):Prop:=∃k:Nat,k<=l.length/\v=zA k/\(l.take k).any f=false/\Below w.heap.size w wr
theorem kA (P:Nat) (p:Pr) (a1 a2:Option Addr) (c1 c2:Nat) (l:List ByteArray) (v:Value) (w:World) (X:Nat->Prop) (hv:LV Value.string w X v l) (hp:NY P p a1 a2 c1 c2 w):
  Calls prog 86 #[v,.func (.func 62) #[] #[zC P]] w λe w'=>(∃i:Int,e=.returned (zA i)/\decide (0<=i)=l.any λn=>!Bt n [p.l])/\Below w.heap.size w w':=by
 have u:=Aa hv;have g:=Aa hp;obtain⟨a,c,rfl,⟨hl,_⟩,_⟩:=hv;clear hp;go_enter func86,ntmps86;go_wp2_with fail;go_loopw [8] (λv wr=>jZ (λn=>!Bt n [p.l]) l w v wr) (λv wr=>l.length-(intOf v).toNat);case atStart=>exact⟨0,AG _,rfl,by simp,Af _ _⟩
 case round=>
  obtain⟨k,hk,rfl,q,hb⟩:=hrel;have r:=Aa q;have j:=Aa hb;clear q;by_cases d:k<l.length
  ·have ae:(k:Int)<(l.length:Int):=(by omega);obtain⟨a',c',s,_,h1⟩:=u.o.later hb;simp at s;obtain⟨rfl,rfl⟩:=s;obtain⟨b,o,rfl,_,hc⟩:=h1.resolve_left (λh=>by rw[h] at d; simp at d);have d0:=hc k d;have x:=Aa (jY P p a1 a2 c1 c2 l[k] wr ⟨g.o.1.below hb g.o.1.lt,g.o.2.later hb⟩);have z:=Aa (jW (f:=λn=>!Bt n [p.l]) d);have A:=Aa (jX (f:=λn=>!Bt n [p.l]) d);clear hc h1 hb;generalize l[k]=y at *;go_wp2_with fail;refine x.o.mono ?_;rintro e w1 ⟨rfl,ab⟩;have t:=Aa (j.o.trans (ab.mono j.o.size));clear ab;cases hm:Bt y [p.l] with
   |false=>have m:=Aa (A.o (by rw[hm]; rfl));go_wp2_with fail;go_ret;exact⟨⟨_,rfl,by rw[m.o]; simp⟩,t.o⟩
   |true=>
    have aa:Hid ((l.take (k+1)).any (λn=>!Bt n [p.l])=false):=(by have h:=z.o;rw[hm,r.o]at h;exact h);go_wp2_with fail;go_roundw
    case rel=>exact⟨k+1,by omega,by go_num,aa.o,t.o⟩
    case measure=>simp[intOf]; omega
  ·have m:Hid (false=l.any λn=>!Bt n [p.l]):=Aa (by rw[<-r.o,AX (by omega)]);go_wp2_with fail;go_ret;exact⟨⟨-1,rfl,by rw[<-m.o]; decide⟩,j.o⟩
theorem kB (P:Nat) (p:Pr) (a1 a2:Option Addr) (c1 c2:Nat) (l:List ByteArray) (v:Value) (w:World) (X:Nat->Prop) (hv:LV Value.string w X v l) (hp:NY P p a1 a2 c1 c2 w):
  Calls prog 61 #[v,.func (.func 62) #[] #[zC P]] w λe w'=>e=.returned (.bool (l.any λn=>!Bt n [p.l]))/\Below w.heap.size w w':=by
 have a:=Aa (kA P p a1 a2 c1 c2 l v w X hv hp);clear hv hp;go_enter func61,ntmps61;go_wp2_with fail;refine a.o.mono ?_;rintro e w1 ⟨⟨i,rfl,hi⟩,aa⟩;have b:=Aa hi;have ab:=Aa aa;clear hi aa;go_wp2_with fail;go_ret;exact⟨BJ (by rw[<-b.o]),ab.o⟩
def Es:List Tm->Int
 | []=>0
 |t::r=>if AA t=0 then Es r else AA t
theorem kC {l:List Tm} {k:Nat} (h:k<l.length) (h0:Es (l.take k)=0):Es (l.take (k+1))=AA l[k]/\(AA l[k]≠0->Es l=AA l[k]):=by
 induction l generalizing k with
 |nil=>simp at h
 |cons t r b=>
  cases k with
  |zero=>
   refine⟨?_,λa=>?_⟩
   ·simp only[Ff,List.take_zero,Es,EI];split
    ·rename_i e; exact e.symm
    ·rfl
   ·simp only[EI] at a ⊢;rw[Es,Aj a]
  |succ k=>
   have ht:AA t=0:=by
    rw[Ff,Es]at h0;split at h0
    ·assumption
    ·rename_i e; exact absurd h0 e
   rw[Ff,Es,Ar ht]at h0;obtain⟨h1,h2⟩:=b (by simpa using h) h0;simp only[Gw];refine⟨by rw[Ff,Es,Ar ht]; exact h1,λa=>by rw[Es,Ar ht]; exact h2 a⟩
def kD (l:List Tm) (w:World) (v:Value) (wr:World):Prop:=∃k:Nat,k<=l.length/\v=zA k/\Es (l.take k)=0/\Below w.heap.size w wr
theorem kE (l:List Tm) (a:Option Addr) (c:Nat) (w:World) (X:Nat->Prop) (hs:Sl w X a l):
  Calls prog 58 #[.slice a l.length c] w λe w'=>e=.returned (zA (Es l))/\Below w.heap.size w w':=by
 have n:=Aa hs;have hl:=hs.1;clear hs;go_enter func58,ntmps58;go_wp2_with fail;go_loopw [8] (λv wr=>kD l w v wr) (λv wr=>l.length-(intOf v).toNat);case atStart=>exact⟨0,AG _,rfl,by simp[Es],Af _ _⟩
 case round=>
  obtain⟨k,hk,rfl,g,hb⟩:=hrel;have i:=Aa g;have d:=Aa hb;clear g;by_cases j:k<l.length
  ·have ae:(k:Int)<(l.length:Int):=(by omega);obtain⟨b,o,q,c',rfl,d0,d1,hx⟩:=n.o.get hb (λ_ _ h=>h) k j;have r:=Aa hx;have aa:=Aa (kC j i.o);clear hx hb;generalize l[k]=y at *;go_wp2_with fail;refine(Kw y _ _ X (by exact r.o.later ((Af _ _).alloc (Ai _) _))).mono ?_;rintro e w1 ⟨rfl,ab⟩;have m:=Aa ((d.o.alloc d.o.size (.cells (zF y q c') 33)).trans (ab.mono (by have:=d.o.size; simp; omega)));clear ab;by_cases hm:AA y=0
   ·have s:Hid (Es (l.take (k+1))=0):=Aa (by rw[aa.o.1,hm]);rw[hm];clear hm;go_wp2_with fail;go_roundw
    case rel=>exact⟨k+1,by omega,by go_num,s.o,m.o⟩
    case measure=>simp[intOf]; omega
   ·have af:(AA y==0)=false:=(by simpa using hm);have f:=Aa (aa.o.2 hm);clear hm;go_wp2_with fail;go_ret;exact⟨BI f.o.symm,m.o⟩
  ·have f:Hid (0=Es l):=Aa (by rw[<-i.o,AX (by omega)]);go_wp2_with fail;go_ret;exact⟨BI f.o,d.o⟩
theorem kG (a b:Tm):Es [a,b]=CH a b:=by
 simp only[Es,CH];by_cases h1:AA a=0
 ·rw[Ar h1,Ar h1];by_cases h2:AA b=0
  ·rw[Ar h2,h2]
  ·rw[Aj h2]
 ·rw[Aj h1,Aj h1]
theorem Uq {w:World} {B:Nat} {t5 t6:Tm} {a5 a:Option Addr} {c5 b T:Nat} (hb:Ac w B #[.string t5.name,.slice a5 t5.args.length c5,.string t6.name,.slice a t6.args.length b] T) (c:Sl w (λ_=>True) a5 t5.args) (h6:Sl w (λ_=>True) a t6.args):Sl w (λ_=>True) (some (zD B 0)) [t5,t6]:=by
 refine⟨by simp,Ae ⟨B,0,rfl,Mc _ _ _ λi hi=>?_⟩⟩;have aa:i=0∨i=1:=by simp at hi; omega
 rcases aa with rfl|rfl
 ·exact⟨trivial,hb.cell 0,a5,c5,hb.cell 1,c⟩
 ·exact⟨trivial,hb.cell 2,a,b,hb.cell 3,h6⟩
theorem kH (p:Pr) (a1 a2:Option Addr) (c1 c2:Nat) (w:World) (X:Nat->Prop) (i:Sl w X a1 p.l.args) (j:Sl w X a2 p.r.args):
  Calls prog 44 #[.agg #[.string p.l.name,.slice a1 p.l.args.length c1,.string p.r.name,.slice a2 p.r.args.length c2]] w λe w'=>e=.returned (zA (Bv p))/\Below w.heap.size w w':=by
 have k:=Aa (i.mono (Y:=λ_=>True) λ_ _ _=>trivial);have m:=Aa (j.mono (Y:=λ_=>True) λ_ _ _=>trivial);clear i j;have al:=@hmq prog;have a:Hid (Ac ((w.alloc (.cells #[.string p.l.name,.slice a1 p.l.args.length c1,.string p.r.name,.slice a2 p.r.args.length c2] 38)).alloc (.cells #[.string p.l.name,.slice a1 p.l.args.length c1,.string p.r.name,.slice a2 p.r.args.length c2] 33)) w.heap.size #[.string p.l.name,.slice a1 p.l.args.length c1,.string p.r.name,.slice a2 p.r.args.length c2] 38/\Ac ((w.alloc (.cells #[.string p.l.name,.slice a1 p.l.args.length c1,.string p.r.name,.slice a2 p.r.args.length c2] 38)).alloc (.cells #[.string p.l.name,.slice a1 p.l.args.length c1,.string p.r.name,.slice a2 p.r.args.length c2] 33)) (w.heap.size+1) #[.string p.l.name,.slice a1 p.l.args.length c1,.string p.r.name,.slice a2 p.r.args.length c2] 33/\Below w.heap.size w ((w.alloc (.cells #[.string p.l.name,.slice a1 p.l.args.length c1,.string p.r.name,.slice a2 p.r.args.length c2] 38)).alloc (.cells #[.string p.l.name,.slice a1 p.l.args.length c1,.string p.r.name,.slice a2 p.r.args.length c2] 33))):=(by have q:=Ac.new (w.alloc (.cells #[.string p.l.name,.slice a1 p.l.args.length c1,.string p.r.name,.slice a2 p.r.args.length c2] 38)) #[.string p.l.name,.slice a1 p.l.args.length c1,.string p.r.name,.slice a2 p.r.args.length c2] 33;rw[CW]at q;exact⟨(Ac.new w _ _).alloc _,q,((Af _ _).alloc (Ai _) _).alloc (by simp) _⟩);go_enter func44,ntmps44;go_wp2_with fail;generalize ((w.alloc (.cells #[.string p.l.name,.slice a1 p.l.args.length c1,.string p.r.name,.slice a2 p.r.args.length c2] 38)).alloc (.cells #[.string p.l.name,.slice a1 p.l.args.length c1,.string p.r.name,.slice a2 p.r.args.length c2] 33))=w2 at *;refine(kE [p.l,p.r] _ _ _ (λ_=>True) (Uq a.o.2.1 (k.o.later a.o.2.2) (m.o.later a.o.2.2))).mono ?_;rintro e w3 ⟨rfl,aa⟩;have B3:=Aa (a.o.2.2.trans (aa.mono a.o.2.2.size));have c:=Aa (a.o.1.below aa a.o.1.lt);clear aa a;rw[kG];by_cases hm:CH p.l p.r=0
 ·have s:Hid (AA p.r=0):=by
   unfold CH at hm;split at hm
   ·exact hm
   ·rename_i h; exact absurd hm h
  have ab:Hid (Bv p=if Al p.l.name=true then 2 else if (At [] (Ao [p.r])).all (λn=>AJ n (At [] (Ao [p.l])))=true then 0 else 15):=Aa (by unfold Bv;rw[Ar hm]);rw[hm];clear hm;have d0:=c.o.c0;have d2:=c.o.c2;have d3:=c.o.c3;go_wp2_with fail;refine(CG _ _).mono ?_;rintro e z ⟨rfl,t⟩;rw[t];clear t z;cases hv:Al p.l.name with
  |true=>have b:Hid (2=Bv p):=Aa (by rw[ab.o,Ar hv]);clear hv;go_wp2_with fail;go_ret;exact⟨BI b.o,B3.o⟩
  |false=>
   have u:Hid (Bv p=if (At [] (Ao [p.r])).all (λn=>AJ n (At [] (Ao [p.l])))=true then 0 else 15):=(by have h:=ab.o;rw[Aj (by rw[hv]; decide)]at h;exact h);clear hv ab;go_wp2_with fail;refine(jT p.r _ _ (λ_=>True) ⟨_,_,rfl,m.o.later B3.o⟩).mono ?_;rintro e w5 ⟨v5,rfl,v,_,f⟩;have A:=Aa (v s.o);have g:=Aa (B3.o.trans (f.mono B3.o.size));have B:=Aa (c.o.below f c.o.lt);rw[s.o];clear v f d0 d2 d3;have C:=Aa (Up p.l (At [] (Ao [p.r])) (Uo _ _ (by simp)));go_wp2_with fail;refine(kB w.heap.size p a1 a2 c1 c2 (At [] (Ao [p.r])) _ _ _ (by exact A.o) ⟨B.o,k.o.later g.o⟩).mono ?_;rintro e w6 ⟨rfl,x⟩;have y:=Aa (g.o.trans (x.mono g.o.size));clear x;rw[C.o];cases d:(At [] (Ao [p.r])).all (λn=>AJ n (At [] (Ao [p.l]))) with
   |true=>have b:Hid (0=Bv p):=Aa (by rw[u.o,Ar d]);clear d;go_wp2_with fail;go_ret;exact⟨BI b.o,y.o⟩
   |false=>have b:Hid (15=Bv p):=Aa (by rw[u.o,Aj (by rw[d]; decide)]);clear d;go_wp2_with fail;go_ret;exact⟨BI b.o,y.o⟩
 ·have an:(CH p.l p.r==0)=false:=by simpa using hm
  have b:Hid (CH p.l p.r=Bv p):=Aa (by unfold Bv;rw[Aj hm]);clear hm;go_wp2_with fail;go_ret;exact⟨BI b.o,B3.o⟩
theorem kI (ls:List Pr) (u:Value) (w:World) (X:Nat->Prop) (hu:QV w X u ls):
  Calls prog 26 #[u] w λe w'=>e=.returned (zA (Ck ls))/\Below w.heap.size w w':=by
 have s:=Aa (hu.mono (Y:=λb=>X b/\b<w.heap.size) λb h1 h2=>⟨h1,h2⟩);obtain⟨a,c,rfl,hl,t⟩:=hu;clear t;go_enter func26,ntmps26;by_cases ab:40<ls.length
 ·go_wp2_with fail;go_ret;exact⟨BI (by unfold Ck; rw[Ar ab]),Af _ _⟩
 go_wp2_with fail;go_loopw [11] (λv wr=>PQ ls w v wr) (λv wr=>ls.length-(intOf v).toNat);case atStart=>exact⟨0,rfl,AG _,rfl,Af _ _⟩
 case round=>
  obtain⟨k,rfl,hk,i,hb⟩:=hrel;have f:=Aa hb;have g:=Aa i;clear i;by_cases h:k<ls.length
  ·obtain⟨b,o,a1,c1,a2,c2,rfl,d0,d1,d2,d3,j,m⟩:=(s.o.later hb).get k h;have ai:(k:Int)<(ls.length:Int):=(by omega);have x:=Aa j;have y:=Aa m;have z:=Aa (Pz h ab g.o);have A:=Aa (KW h g.o);clear j m hb;generalize ls[k]=d at *;go_wp2_with fail;have aa:Below wr.heap.size wr (wr.alloc (.cells #[.string d.l.name,.slice a1 d.l.args.length c1,.string d.r.name,.slice a2 d.r.args.length c2] 38)):=(Af _ _).alloc (Ai _) _;refine(kH d a1 a2 c1 c2 _ _ (by exact x.o.later aa) (by exact y.o.later aa)).mono ?_;rintro e w5 ⟨rfl,n⟩;have q:=Aa (f.o.trans ((aa.trans (n.mono (by simp))).mono f.o.size));clear n aa;by_cases hm:Bv d=0
   ·have B:Hid (EC ls (k+1)=0):=Aa (by rw[A.o,hm]);rw[hm];clear hm;go_wp2_with fail;go_roundw
    case rel=>exact⟨k+1,by go_num,by omega,B.o,q.o⟩
    case measure=>simp[intOf]; omega
   ·have an:(Bv d==0)=false:=(by simpa using hm);have C:=Aa (z.o hm);clear hm;go_wp2_with fail;go_ret;exact⟨BI C.o.symm,q.o⟩
  ·have D:k=ls.length:=(by omega);go_wp2_with fail;go_ret;exact⟨BI (by unfold Ck; rw[Aj ab,<-D]; exact g.o.symm),f.o⟩
def LR (w:World) (r:Rd) (e:Ending) (w':World):Prop:=
 Below w.heap.size w w'/\∃(n:ByteArray) (a:Option Addr) (l c:Nat) (y z:Int),e=.returned (.tuple #[.agg #[.string n,.slice a l c],zA y,zA z,zA r.err])/\(r.err=0->n=r.t.name/\l=r.t.args.length/\y=r.pos/\z=r.k/\Sl w' (λb=>w.heap.size<=b) a r.t.args)
theorem Gt {w w':World} {r:Rd} {z x y:Int} {n:ByteArray} {a:Option Addr} {l c:Nat} (h:r=BP z) (hz:z≠0) (hb:Below w.heap.size w w'):LR w r (.returned (.tuple #[.agg #[.string n,.slice a l c],zA x,zA y,zA z])) w':=by
 subst h;exact⟨hb,n,a,l,c,x,y,rfl,λh=>absurd h hz⟩
theorem Ur {w w':World} {r:Rd} {p k c:Nat} {nm:ByteArray} {a:Option Addr} {args:List Tm} (h:r=⟨0,⟨nm,args⟩,p,k⟩) (hs:Sl w' (λb=>w.heap.size<=b) a args) (hb:Below w.heap.size w w'):LR w r (.returned (.tuple #[.agg #[.string nm,.slice a args.length c],zA p,zA k,zA 0])) w':=by
 subst h;exact⟨hb,nm,a,args.length,c,p,k,rfl,λ_=>⟨rfl,rfl,rfl,rfl,hs⟩⟩
def kJ (w:World) (T F:Nat) (s nm:ByteArray) (r:Rd) (v1 v2:Value) (wr:World):Prop:=
 ∃(f':Nat) (acc:List Tm) (j k':Nat) (u:Value) (xs:List Value),v1=zA j/\v2=zA k'/\f'+1<F/\2*(s.size-j)+1<=f'/\j<s.size/\acc.length<=j/\k'<=200/\r=rd s (f'+1) (some (nm,acc)) j k'/\AK wr (T+1) 33 (λ_=>False) u acc xs/\Below w.heap.size w wr/\Ac wr w.heap.size #[.string ⟨#[]⟩,zB] 33/\Ac wr T #[.string nm,u] 33/\T<wr.heap.size
theorem LS {w wr w1 w3:World} {T a:Nat} {u:Value} {acc:List Tm} {xs:List Value} {c:Obj} {s' nm:ByteArray} {a1:Option Addr} {i c1 g cap:Nat} {j:Array Value} {t:Tm} (ai:w.heap.size<T) (aj:T<wr.heap.size)
  (aa:AK wr (T+1) a (λ_=>False) u acc xs) (hx:Below w.heap.size w wr) (n:Ac wr w.heap.size j a) (o:Ac wr T #[.string nm,u] a)
  (ab:Below wr.heap.size wr w1) (ht:TV w1 (λb=>wr.heap.size<=b) (.agg #[.string s',.slice a1 i c1]) t)
  (q:w3.ownsRow (T+1) a 2 (.slice (some (zD g 0)) (acc.length+1) cap) (acc.length+1) (xs++[.string s',.slice a1 i c1])) (f:(w1.alloc c).grownBy w3 u.ownBlock) (r:u.ownBlock=some g∨g=(w1.alloc c).heap.size):
  let d:=w3.setCell (zD T 1) (.slice (some (zD g 0)) (acc.length+1) cap)
  AK d (T+1) a (λ_=>False) (.slice (some (zD g 0)) (acc.length+1) cap) (acc++[t]) (xs++[.string s',.slice a1 i c1])/\Below w.heap.size w d/\Ac d w.heap.size j a/\Ac d T #[.string nm,.slice (some (zD g 0)) (acc.length+1) cap] a/\T<d.heap.size:=by
 intro d;have l:=aa.own.lt;have hp:=aa.push (w1:=w1) (w2:=w1.alloc c) (w3:=w3) (by omega) (λ_ h=>h.elim) ab (ht.mono λb h _=>Ae h) c rfl q f r;have m:∀b,b<T+1->some b≠u.ownBlock:=λb hb e=>by have:=(l b e.symm).1; omega
 have ak:=ab.size;have al:=hx.size;have s:Below w.heap.size w w3:=((hx.trans (ab.mono (by omega))).alloc (by omega) c).grown f (by simp; omega) (λk hk=>by have:=(l k hk).1; omega);have v:=f.size;simp at v;refine⟨hp.setCell (by omega) (λh=>h) _,s.setCell (p:=(zD T 1)) (by simp; omega) _,?_,?_,by simp[d,World.setCell]; omega⟩
 ·exact(((n.below ab (by omega)).alloc c).grown f (m _ (by omega))).setOther _ _ (by omega)
 ·exact(((o.below ab (by omega)).alloc c).grown f (m _ (by omega))).set 1 _
theorem kK (a:World) (A:Obj) (v0 v1:Value) (T:Nat):∀j u,[v0,v1][j]? = some u->((a.alloc A).alloc (.cells #[v0,v1] T)).cell? (((zD (a.heap.size+1) 0):Addr).add j)=some u:=by
 have h:=cell_two_new (a.alloc A) v0 v1 T;have e:(a.alloc A).heap.size=a.heap.size+1:=by simp
 rw[e]at h;exact h
theorem kL {w d:World} {r:Rd} {T f p k c:Nat} {nm:ByteArray} {a:Option Addr} {acc:List Tm} {t:Tm} {xs:List Value} {v0 v1:Value} (h:r=⟨0,⟨nm,acc++[t]⟩,p+1,k⟩) (g:w.heap.size<T) (i:AK d (T+1) f (λ_=>False) (.slice a (acc.length+1) c) (acc++[t]) xs) (hb:Below w.heap.size w d):
  LR w r (.returned (.tuple #[.agg #[.string nm,.slice a (acc.length+1) c],zA ((p:Int)+1),zA k,zA 0])) ((d.setCell (zD w.heap.size 0) v0).setCell (zD w.heap.size 1) v1):=by
 obtain⟨a',c',e,hs⟩:=i.sl;simp at e;obtain⟨rfl,rfl⟩:=e;subst h;exact⟨(hb.setCell (by simp) _).setCell (by simp) _,nm,a,acc.length+1,c,(p:Int)+1,k,rfl,λ_=>⟨rfl,by simp,rfl,rfl,fX (hs.mono λb hb _=>hb.elim False.elim id) g⟩⟩
theorem kM (s:ByteArray) (hs:s.size<=4000):∀(F i k:Nat) (w:World),i<=s.size->k<=200->2*(s.size-i)+1<=F->
  Calls prog 18 #[.string s,zA i,zA k] w λe w'=>LR w (rd s F none i k) e w':=by
 intro F;induction F using Nat.strongRecOn with
 |ind F ih=>
  intro i k w hi hk hF;have IH:=Aa ih;clear ih;obtain⟨f,rfl⟩:∃f,F=f+1:=⟨F-1,by omega⟩;obtain⟨i0,aG,aH,aI,aJ⟩:=CE Tryz.infoTerm;have H:Hid (rd s (f+1) none i k=if CS s i=i then BP (if i=s.size then 13 else 12)
   else if AW (s.extract i (CS s i))=false then BP 1
   else if 200<k+1 then BP 3
   else if CS s i<s.size/\CA s (CS s i)=40 then
    if Al (s.extract i (CS s i))=true then BP 2 else rd s f (some (s.extract i (CS s i),[])) (CS s i) (k+1)
   else ⟨0,⟨s.extract i (CS s i),[]⟩,CS s i,k+1⟩):=by unfold Hid; rw[rd]
  generalize rd s (f+1) none i k=r at *;go_enter func18,ntmps18;go_wp2_with fail;have C:=Aa (Ac.new w #[.string ⟨#[]⟩,zB] 33);have L:=Aa ((Af w.heap.size w).alloc (Ai _) (.cells #[.string ⟨#[]⟩,zB] 33));generalize w.alloc (.cells #[.string ⟨#[]⟩,zB] 33)=w0 at *;have aX:w.heap.size<w0.heap.size:=C.o.lt;go_loopw [1] (λv wr=>∃j:Nat,v=zA j/\i<=j/\j<=s.size/\CS s i=CS s j/\wr=w0) (λv wr=>s.size-(intOf v).toNat);case atStart=>exact⟨i,rfl,Ai _,hi,rfl,rfl⟩
  case round=>
   obtain⟨j,rfl,bw,bx,aY,rfl⟩:=hrel;have HS:=Aa aY;clear aY;by_cases Y:j<s.size
   ·have hb:=Aa (G8 Y);cases ha:Ek (CA s j) with
    |true=>
     have Z:=Aa ha;clear ha;go_wp2_with (go_at_call 32; refine(JI _ _).mono ?_; rintro e wz ⟨rfl,rfl⟩; rw[hb.o,Z.o]);go_roundw
     case rel=>exact⟨j+1,by go_num,by omega,by omega,by rw[HS.o,VS Y Z.o],by trivial⟩
     case measure=>simp[intOf]; omega
    |false=>
     have Z:=Aa ha;have D:Hid (CS s i=j):=HS.o.trans (OV (λh=>by have h1:=h.2; rw[Z.o] at h1; cases h1));clear ha;by_cases E:j=i
     ·have c:=Aa E;have hne:((j:Int)==(i:Int))=true:=(by simp[E]);have aK:((j:Int)==(s.size:Int))=false:=by simp; omega
      clear E;have d:=C.o.c0;have l:=C.o.c1;have rf:=C.o.frozen;go_wp2_with (go_at_call 32; refine(JI _ _).mono ?_; rintro e wz ⟨rfl,rfl⟩; rw[hb.o,Z.o]);refine An (v:=.tuple #[.agg #[.string ⟨#[]⟩,zB],zA j,zA k,zA 12]) (by simp[results,results18,go_sem,Ay,Aw,d,l]) rfl ?_;exact Gt (by rw[H.o,D.o,Ar c.o,Aj (by have:=c.o; omega)]) (by decide) ((L.o.setCell (by simp) _).setCell (by simp) _)
     ·have c:=Aa E;have hne:((j:Int)==(i:Int))=false:=by simp; omega
      have aQ:(i:Int)<=(j:Int):=(by omega);have aZ:(j:Int)<=(s.size:Int):=(by omega);clear E;go_wp2_with (go_at_call 32; refine(JI _ _).mono ?_; rintro e wz ⟨rfl,rfl⟩; rw[hb.o,Z.o]);refine(IJ _ _).mono ?_;rintro e w9 ⟨rfl,rfl⟩;have M:=Aa (C.o.alloc (.cells #[.string (s.extract i j),zB] 33));have R:=Aa (Ac.new wz #[.string (s.extract i j),zB] 33);have I:=Aa (L.o.alloc L.o.size (.cells #[.string (s.extract i j),zB] 33));have a6:=aX;generalize wz.alloc (.cells #[.string (s.extract i j),zB] 33)=w1 at *;clear C L;generalize wz.heap.size=T at *;generalize al:s.extract i j=nm at *;have J:=Aa al;clear al;have t0:=R.o.c0;have t1:=R.o.c1;have d:=M.o.c0;have l:=M.o.c1;have rf:=M.o.frozen;cases hn:AW nm with
      |false=>have G:=Aa hn;clear hn;go_wp2_with fail;refine An (v:=.tuple #[.agg #[.string nm,zB],zA j,zA k,zA 1]) (by simp[results,results18,go_sem,Ay,Aw,d,l]) rfl ?_;exact Gt (by rw[H.o,D.o,Aj c.o,J.o,Ar G.o]) (by decide) ((I.o.setCell (by simp) _).setCell (by simp) _)
      |true=>
       have G:Hid (¬AW nm=false):=Aa (by rw[hn];simp);clear hn;by_cases h3:200<k+1
       ·go_wp2_with fail;refine An (v:=.tuple #[.agg #[.string nm,zB],zA j,zA ((k:Int)+1),zA 3]) (by simp[results,results18,go_sem,Ay,Aw,d,l]) rfl ?_;exact Gt (by rw[H.o,D.o,Aj c.o,J.o,Aj G.o,Ar h3]) (by decide) ((I.o.setCell (by simp) _).setCell (by simp) _)
       ·have aK:((j:Int)==(s.size:Int))=false:=by simp; omega
        by_cases h4:CA s j=40
        ·have hc:((s[j].toNat:Int) !=40)=false:=by rw[hb.o,h4]; rfl
         go_wp2_with fail;refine(Dy _ _).mono ?_;rintro e w9 ⟨rfl,rfl⟩;cases hv:Al nm with
         |true=>have HV:=Aa hv;clear hv;go_wp2_with fail;refine An (v:=.tuple #[.agg #[.string nm,zB],zA j,zA ((k:Int)+1),zA 2]) (by simp[results,results18,go_sem,Ay,Aw,d,l]) rfl ?_;exact Gt (by rw[H.o,D.o,Aj c.o,J.o,Aj G.o,Aj h3,Ar ⟨Y,h4⟩,Ar HV.o]) (by decide) ((I.o.setCell (by simp) _).setCell (by simp) _)
         |false=>
          have HV:Hid (¬Al nm=true):=Aa (by rw[hv];simp);have bf:Hid (r=rd s f (some (nm,[])) j (k+1)):=Aa (by rw[H.o,D.o,Aj c.o,J.o,Aj G.o,Aj h3,Ar ⟨Y,h4⟩,Aj HV.o]);clear hv;go_wp2_with fail;have bg:i<j:=by have:=c.o; omega
          obtain⟨f0,rfl⟩:∃f0,f=f0+1:=⟨f-1,by omega⟩;have bh:=Aa R.o.lt;clear t0 t1 d l rf hc aK hne;go_loopw [1,2] (λv1 v2 wr=>kJ w T (f0+1+1) s nm r v1 v2 wr) (λv1 v2 wr=>s.size-(intOf v1).toNat);case atStart=>exact⟨f0,[],j,k+1,zB,[],rfl,by go_num,by omega,by omega,Y,by simp,by omega,bf.o,AK.start _ _ _ _,I.o,M.o,R.o,bh.o⟩
          case round=>
           obtain⟨a,acc,m,n,u,xs,rfl,rfl,bz,b0,aZ,b1,ba,hr,aw,bb,hR,hT,aF⟩:=hrel;have bj:=Aa (IH.o a (by omega) (m+1) n);have HQ:Hid (r=if (rd s a none (m+1) n).err≠0 then BP (rd s a none (m+1) n).err
  else if (rd s a none (m+1) n).pos=s.size then BP 13
  else if CA s (rd s a none (m+1) n).pos=41 then ⟨0,⟨nm,acc++[(rd s a none (m+1) n).t]⟩,(rd s a none (m+1) n).pos+1,(rd s a none (m+1) n).k⟩
  else if CA s (rd s a none (m+1) n).pos=44 then rd s a (some (nm,acc++[(rd s a none (m+1) n).t])) (rd s a none (m+1) n).pos (rd s a none (m+1) n).k
  else BP 12):=by unfold Hid; rw[hr,rd]
           have aR:=Aa (OW s a none (m+1) n);have bk:=Aa (fW s a none (m+1) n);generalize rd s a none (m+1) n=q at *;obtain⟨ua,uc,hu,_⟩:=aw.sl;subst hu;have U:=Aa bb;have XR:=Aa hR;have XT:=Aa hT;have B:=Aa aw;clear bb hR hT aw hr;go_wp2_with fail;refine(bj.o _ (by omega) ba (by omega)).mono ?_;intro e y hp;obtain⟨a7,n5,a5,l5,c5,y5,z5,rfl,ax⟩:=hp;have B5:=Aa a7;have bl:w.heap.size<wr.heap.size:=by have:=U.o.size; omega
           have bm:T<y.heap.size:=by have:=a7.size; omega
           have aS:w.heap.size<y.heap.size:=(by omega);have BE:=Aa (U.o.trans (a7.mono U.o.size));have R5:=Aa (XR.o.below a7 bl);have T5:=Aa (XT.o.below a7 aF);clear a7;have t0:∀o,(y.alloc o).cell? (zD T 0)=some (.string nm):=λo=>(T5.o.alloc o).cell 0;have t1:∀o,(y.alloc o).cell? (zD T 1)=some (.slice ua acc.length uc):=λo=>(T5.o.alloc o).cell 1;have d:=R5.o.c0;have l:=R5.o.c1;have rf:=R5.o.frozen;have b2:∀o,(y.alloc o).cell? (zD w.heap.size 0)=some (.string ⟨#[]⟩):=λo=>(R5.o.alloc o).cell 0;have b3:∀o,(y.alloc o).cell? (zD w.heap.size 1)=some (zB):=λo=>(R5.o.alloc o).cell 1;have b4:=λo=>(R5.o.alloc o).frozen;by_cases hq:q.err=0
           ·have V:=Aa hq;have aT:=Aa (aR.o hq (by omega) (λh=>by cases h));have bn:=Aa (bk.o hq ba);obtain⟨rfl,rfl,rfl,rfl,bc⟩:=ax hq;have S5:=Aa bc;rw[hq];clear hq ax bc;have aq:=Aa (((B.o.below B5.o).own.alloc (.cells (zF q.t a5 c5) 33)).alloc (.cells (zF q.t a5 c5) 33));have ar:=Aa (kK y (.cells (zF q.t a5 c5) 33) (.string q.t.name) (.slice a5 q.t.args.length c5) 33);have aL:Hid (∀x∈[Value.string q.t.name,Value.slice a5 q.t.args.length c5],x.oneCell'=true):=λx hx=>by simp at hx; rcases hx with rfl|rfl<;>rfl
            have N:Hid (acc.length+1<=maxLen/\(acc.length+1)*40<=140737488355328):=⟨by unfold maxLen; omega,by omega⟩;have aM:Hid (T+1<=((y.alloc (.cells (zF q.t a5 c5) 33)).alloc (.cells (zF q.t a5 c5) 33)).heap.size):=Aa (by simp;omega);have aN:=Aa (B5.o.alloc B5.o.size (.cells (zF q.t a5 c5) 33));have aO:Hid (TV (y.alloc (.cells (zF q.t a5 c5) 33)) (λb=>wr.heap.size<=b) (.agg (zF q.t a5 c5)) q.t):=⟨a5,c5,rfl,S5.o.later ((Af y.heap.size y).alloc (Ai _) _)⟩;have b5:=aT.o.2;have az:¬w.heap.size=T:=(by omega);have an:¬T=w.heap.size:=(by omega);by_cases a8:q.pos=s.size
            ·have bo:((q.pos:Int)==(s.size:Int))=true:=(by simp[a8]);have bp:=Aa a8;clear a8;go_wp2_with (at_builtin; refine wpList_append_lies _ rfl _ _ 31 rfl (T+1) 33 i0 _ 2 40 underlying31 aG aH aI aJ rfl (by decide) (.slice ua acc.length uc) acc.length xs rfl aq.o (zD (y.heap.size+1) 0) 1 1 [.string q.t.name,.slice a5 q.t.args.length c5] rfl rfl ar.o aL.o (by decide) N.o.1 N.o.2 aM.o _ rfl ?_; intro g cap w3 ab aa W a1; have z:=Aa (((T5.o.alloc _).alloc _).grown aa (B.o.ne (D8 _))); have A:=Aa (((R5.o.alloc _).alloc _).grown aa (B.o.ne (by omega))); have aA:w3.cell? (zD T 0)=some (.string nm):=z.o.cell 0; have aB:w3.cell? (zD T 1)=some (.slice ua acc.length uc):=z.o.cell 1; have aU:=z.o.frozen 1; have aC:w3.cell? (zD w.heap.size 0)=some (.string ⟨#[]⟩):=A.o.cell 0; have aD:w3.cell? (zD w.heap.size 1)=some (zB):=A.o.cell 1; have aV:=A.o.frozen; have O:=Aa (LS a6 aF B.o U.o XR.o XT.o aN.o aO.o ab aa W));refine An (v:=.tuple #[.agg #[.string nm,.slice (some (zD g 0)) (acc.length+1) cap],zA (q.pos:Int),zA (q.k:Int),zA 13]) (by simp[results,results18,go_sem,Ay,Aw,aC,aD,aA,aB,az,an]) rfl ?_;exact Gt (by rw[HQ.o,Aj (by rw[V.o]; simp),Ar bp.o]) (by decide) ((O.o.2.1.setCell (by simp) _).setCell (by simp) _)
            ·have bo:((q.pos:Int)==(s.size:Int))=false:=by simp; omega
             have bd:q.pos<s.size:=(by omega);have aP:=Aa (G8 bd);have bq:(q.pos:Int)<(s.size:Int):=(by omega);by_cases P:CA s q.pos=41
             ·have br:((s[q.pos].toNat:Int)==41)=true:=by rw[aP.o,P]; rfl
              have bs:=Aa P;clear P;go_wp2_with (at_builtin; refine wpList_append_lies _ rfl _ _ 31 rfl (T+1) 33 i0 _ 2 40 underlying31 aG aH aI aJ rfl (by decide) (.slice ua acc.length uc) acc.length xs rfl aq.o (zD (y.heap.size+1) 0) 1 1 [.string q.t.name,.slice a5 q.t.args.length c5] rfl rfl ar.o aL.o (by decide) N.o.1 N.o.2 aM.o _ rfl ?_; intro g cap w3 ab aa W a1; have z:=Aa (((T5.o.alloc _).alloc _).grown aa (B.o.ne (D8 _))); have A:=Aa (((R5.o.alloc _).alloc _).grown aa (B.o.ne (by omega))); have aA:w3.cell? (zD T 0)=some (.string nm):=z.o.cell 0; have aB:w3.cell? (zD T 1)=some (.slice ua acc.length uc):=z.o.cell 1; have aU:=z.o.frozen 1; have aC:w3.cell? (zD w.heap.size 0)=some (.string ⟨#[]⟩):=A.o.cell 0; have aD:w3.cell? (zD w.heap.size 1)=some (zB):=A.o.cell 1; have aV:=A.o.frozen; have O:=Aa (LS a6 aF B.o U.o XR.o XT.o aN.o aO.o ab aa W));refine An (v:=.tuple #[.agg #[.string nm,.slice (some (zD g 0)) (acc.length+1) cap],zA ((q.pos:Int)+1),zA (q.k:Int),zA 0]) (by simp[results,results18,go_sem,Ay,Aw,aC,aD,aA,aB,az,an]) rfl ?_;exact kL (by rw[HQ.o,Aj (by rw[V.o]; simp),Aj a8,Ar bs.o]) a6 O.o.1 O.o.2.1
             ·have br:((s[q.pos].toNat:Int)==41)=false:=by rw[aP.o]; simpa using P
              by_cases aE:CA s q.pos=44
              ·have bt:((s[q.pos].toNat:Int) !=44)=false:=by rw[aP.o,aE]; rfl
               obtain⟨f2,rfl⟩:∃f2,a=f2+1:=⟨a-1,by omega⟩;have aW:Hid (r=rd s (f2+1) (some (nm,acc++[q.t])) q.pos q.k):=Aa (by rw[HQ.o,Aj (by rw[V.o]; simp),Aj a8,Aj P,Ar aE]);clear aE P;go_wp2_with (at_builtin; refine wpList_append_lies _ rfl _ _ 31 rfl (T+1) 33 i0 _ 2 40 underlying31 aG aH aI aJ rfl (by decide) (.slice ua acc.length uc) acc.length xs rfl aq.o (zD (y.heap.size+1) 0) 1 1 [.string q.t.name,.slice a5 q.t.args.length c5] rfl rfl ar.o aL.o (by decide) N.o.1 N.o.2 aM.o _ rfl ?_; intro g cap w3 ab aa W a1; have z:=Aa (((T5.o.alloc _).alloc _).grown aa (B.o.ne (D8 _))); have A:=Aa (((R5.o.alloc _).alloc _).grown aa (B.o.ne (by omega))); have aA:w3.cell? (zD T 0)=some (.string nm):=z.o.cell 0; have aB:w3.cell? (zD T 1)=some (.slice ua acc.length uc):=z.o.cell 1; have aU:=z.o.frozen 1; have aC:w3.cell? (zD w.heap.size 0)=some (.string ⟨#[]⟩):=A.o.cell 0; have aD:w3.cell? (zD w.heap.size 1)=some (zB):=A.o.cell 1; have aV:=A.o.frozen; have O:=Aa (LS a6 aF B.o U.o XR.o XT.o aN.o aO.o ab aa W));go_roundw
               case rel=>obtain⟨g1,g2,g3,g4,g5⟩:=O.o;have bu:=aT.o;exact⟨f2,acc++[q.t],q.pos,q.k,_,_,rfl,rfl,by omega,by omega,bd,by simp; omega,bn.o,aW.o,g1,g2,g3,g4,g5⟩
               case measure=>have bu:=aT.o;simp[intOf]; omega
              ·have bt:((s[q.pos].toNat:Int) !=44)=true:=by rw[aP.o]; simpa using aE
               have aW:Hid (r=BP 12):=Aa (by rw[HQ.o,Aj (by rw[V.o]; simp),Aj a8,Aj P,Aj aE]);clear aE P;go_wp2_with (at_builtin; refine wpList_append_lies _ rfl _ _ 31 rfl (T+1) 33 i0 _ 2 40 underlying31 aG aH aI aJ rfl (by decide) (.slice ua acc.length uc) acc.length xs rfl aq.o (zD (y.heap.size+1) 0) 1 1 [.string q.t.name,.slice a5 q.t.args.length c5] rfl rfl ar.o aL.o (by decide) N.o.1 N.o.2 aM.o _ rfl ?_; intro g cap w3 ab aa W a1; have z:=Aa (((T5.o.alloc _).alloc _).grown aa (B.o.ne (D8 _))); have A:=Aa (((R5.o.alloc _).alloc _).grown aa (B.o.ne (by omega))); have aA:w3.cell? (zD T 0)=some (.string nm):=z.o.cell 0; have aB:w3.cell? (zD T 1)=some (.slice ua acc.length uc):=z.o.cell 1; have aU:=z.o.frozen 1; have aC:w3.cell? (zD w.heap.size 0)=some (.string ⟨#[]⟩):=A.o.cell 0; have aD:w3.cell? (zD w.heap.size 1)=some (zB):=A.o.cell 1; have aV:=A.o.frozen; have O:=Aa (LS a6 aF B.o U.o XR.o XT.o aN.o aO.o ab aa W));refine An (v:=.tuple #[.agg #[.string nm,.slice (some (zD g 0)) (acc.length+1) cap],zA (q.pos:Int),zA (q.k:Int),zA 12]) (by simp[results,results18,go_sem,Ay,Aw,aC,aD,aA,aB,az,an]) rfl ?_;exact Gt aW.o (by decide) ((O.o.2.1.setCell (by simp) _).setCell (by simp) _)
           ·have V:=Aa hq;have b6:(q.err==0)=false:=(by simpa using hq);clear hq ax;go_wp2_with fail;refine An (v:=.tuple #[.agg #[.string nm,.slice ua acc.length uc],zA y5,zA z5,zA q.err]) (by simp[results,results18,go_sem,Ay,Aw,d,l,aS,Da]) rfl ?_;exact Gt (by rw[HQ.o,Ar V.o]) V.o (((BE.o.setCell (by simp) _).setCell (by simp) _).alloc (by have:=BE.o.size; simpa [World.setCell] using this) _)
        ·have hc:((s[j].toNat:Int) !=40)=true:=by rw[hb.o]; simpa using h4
         have H4:Hid (¬(j<s.size/\CA s j=40)):=λh=>h4 h.2;go_wp2_with fail;refine An (v:=.tuple #[.agg #[.string nm,zB],zA j,zA ((k:Int)+1),zA 0]) (by simp[results,results18,go_sem,Ay,Aw,d,l]) rfl ?_;exact Ur (args:=[]) (k:=k+1) (by rw[H.o,D.o,Aj c.o,J.o,Aj G.o,Aj h3,Aj H4.o]) ⟨by simp,Ad rfl⟩ ((I.o.setCell (by simp) _).setCell (by simp) _)
   ·have D:Hid (CS s i=j):=HS.o.trans (OV (λh=>Y h.1));by_cases E:j=i
    ·have c:=Aa E;have hne:((j:Int)==(i:Int))=true:=(by simp[E]);have aK:((j:Int)==(s.size:Int))=true:=by simp; omega
     clear E;have d:=C.o.c0;have l:=C.o.c1;have rf:=C.o.frozen;go_wp2_with fail;refine An (v:=.tuple #[.agg #[.string ⟨#[]⟩,zB],zA j,zA k,zA 13]) (by simp[results,results18,go_sem,Ay,Aw,d,l]) rfl ?_;exact Gt (by rw[H.o,D.o,Ar c.o,Ar (by have:=c.o; omega)]) (by decide) ((L.o.setCell (by simp) _).setCell (by simp) _)
    ·have c:=Aa E;have hne:((j:Int)==(i:Int))=false:=by simp; omega
     have aQ:(i:Int)<=(j:Int):=(by omega);have aZ:(j:Int)<=(s.size:Int):=(by omega);clear E;go_wp2_with fail;refine(IJ _ _).mono ?_;rintro e w9 ⟨rfl,rfl⟩;have M:=Aa (C.o.alloc (.cells #[.string (s.extract i j),zB] 33));have R:=Aa (Ac.new wr #[.string (s.extract i j),zB] 33);have I:=Aa (L.o.alloc L.o.size (.cells #[.string (s.extract i j),zB] 33));have a6:=aX;generalize wr.alloc (.cells #[.string (s.extract i j),zB] 33)=w1 at *;clear C L;generalize wr.heap.size=T at *;generalize al:s.extract i j=nm at *;have J:=Aa al;clear al;have t0:=R.o.c0;have t1:=R.o.c1;have d:=M.o.c0;have l:=M.o.c1;have rf:=M.o.frozen;cases hn:AW nm with
     |false=>have G:=Aa hn;clear hn;go_wp2_with fail;refine An (v:=.tuple #[.agg #[.string nm,zB],zA j,zA k,zA 1]) (by simp[results,results18,go_sem,Ay,Aw,d,l]) rfl ?_;exact Gt (by rw[H.o,D.o,Aj c.o,J.o,Ar G.o]) (by decide) ((I.o.setCell (by simp) _).setCell (by simp) _)
     |true=>
      have G:Hid (¬AW nm=false):=Aa (by rw[hn];simp);clear hn;by_cases h3:200<k+1
      ·go_wp2_with fail;refine An (v:=.tuple #[.agg #[.string nm,zB],zA j,zA ((k:Int)+1),zA 3]) (by simp[results,results18,go_sem,Ay,Aw,d,l]) rfl ?_;exact Gt (by rw[H.o,D.o,Aj c.o,J.o,Aj G.o,Ar h3]) (by decide) ((I.o.setCell (by simp) _).setCell (by simp) _)
      ·have H4:Hid (¬(j<s.size/\CA s j=40)):=λh=>by omega
       have aK:((j:Int)==(s.size:Int))=true:=by simp; omega
       go_wp2_with fail;refine An (v:=.tuple #[.agg #[.string nm,zB],zA j,zA ((k:Int)+1),zA 0]) (by simp[results,results18,go_sem,Ay,Aw,d,l]) rfl ?_;exact Ur (args:=[]) (k:=k+1) (by rw[H.o,D.o,Aj c.o,J.o,Aj G.o,Aj h3,Aj H4.o]) ⟨by simp,Ad rfl⟩ ((I.o.setCell (by simp) _).setCell (by simp) _)
theorem kN {w c:World} {d e:Obj} {a:Option Addr} {l:List Tm} {v0 v1:Value} (hs:Sl c (λb=>(w.alloc d).heap.size<=b) a l):Sl (((c.setCell (zD w.heap.size 0) v0).setCell (zD w.heap.size 1) v1).alloc e) (λb=>w.heap.size<=b) a l:=by
 refine((hs.mono (Y:=λb=>w.heap.size<b/\b<c.heap.size) λb h1 h2=>⟨by simp at h1; omega,h2⟩).kept λb hb=>?_).mono λb hb _=>by omega
 rw[AL _ _ _ (by simp[World.setCell]; omega),Aq _ _ _ _ (by simp; omega),Aq _ _ _ _ (by simp; omega)]
theorem Us (s:ByteArray) (w:World):
  Calls prog 8 #[.string s] w λe w'=>Te w (F5 s) e w':=by
 generalize c:F5 s=r at *;by_cases hs:4000<s.size
 ·have b:Hid (r=BP 3):=Aa (by rw[<-c];unfold F5;rw[Ar hs]);clear c;go_enter func8,ntmps8;go_wp2_with fail;have m:=(Ac.new w #[.string ⟨#[]⟩,zB] 33).cell 0;have n:=(Ac.new w #[.string ⟨#[]⟩,zB] 33).cell 1;simp at m n;refine An (v:=.tuple #[.agg #[.string ⟨#[]⟩,zB],zA 3]) (by simp[results,results8,go_sem,m,n]) rfl ?_;exact NG b.o (by decide) ((Af _ _).alloc (Ai _) _)
 ·have b:Hid (r=if (rd s (2*s.size+1) none 0 0).err≠0 then BP (rd s (2*s.size+1) none 0 0).err else if (rd s (2*s.size+1) none 0 0).pos=s.size then rd s (2*s.size+1) none 0 0 else BP 12):=Aa (by rw[<-c];unfold F5;rw[Aj hs]);have x:=Aa (λw'=>kM s (by omega) (2*s.size+1) 0 0 w' (by omega) (by omega) (by omega));have y:=Aa (OW s (2*s.size+1) none 0 0);generalize rd s (2*s.size+1) none 0 0=q at *;clear c;go_enter func8,ntmps8;go_wp2_with fail;refine(x.o _).mono ?_;intro e g hp;obtain⟨i,n5,a5,l5,c5,y5,z5,rfl,ab⟩:=hp;have R5:=Aa ((Ac.new w #[.string ⟨#[]⟩,zB] 33).below i (by simp));have a:=Aa (((Af w.heap.size w).alloc (Ai _) (.cells #[.string ⟨#[]⟩,zB] 33)).trans (i.mono (by simp)));have j:w.heap.size<g.heap.size:=R5.o.lt;clear i;have k:=R5.o.c0;have l:=R5.o.c1;have rf:=R5.o.frozen;have ao:∀o,(g.alloc o).cell? (zD w.heap.size 0)=some (.string ⟨#[]⟩):=λo=>(R5.o.alloc o).cell 0;have aq:∀o,(g.alloc o).cell? (zD w.heap.size 1)=some (zB):=λo=>(R5.o.alloc o).cell 1;have ar:=λo=>(R5.o.alloc o).frozen;by_cases hq:q.err=0
  ·obtain⟨rfl,rfl,rfl,rfl,u⟩:=ab hq;have d:=Aa hq;have z:=Aa (y.o hq (by omega) (λh=>by cases h));have A:=Aa u;have au:=z.o.2;rw[hq];clear hq ab u;by_cases f:q.pos=s.size
   ·have B:¬(q.pos:Int)<(s.size:Int):=(by omega);have aa:Hid (r=q):=Aa (by rw[b.o,Aj (by rw[d.o]; simp),Ar f]);clear f;go_wp2_with fail;refine An (v:=.tuple #[.agg (zF q.t a5 c5),zA 0]) (by simp[results,results8,go_sem,Ay,Aw,k,l,j,Da]) rfl ?_;refine⟨.agg (zF q.t a5 c5),by rw[aa.o,d.o],λ_=>?_,λh=>absurd (by rw[aa.o]; exact d.o) h,(((a.o.setCell (by simp) _).setCell (by simp) _).alloc (by have:=a.o.size; simpa [World.setCell] using this) _)⟩;rw[aa.o];exact⟨a5,c5,rfl,kN A.o⟩
   ·have B:(q.pos:Int)<(s.size:Int):=(by omega);have aa:Hid (r=BP 12):=Aa (by rw[b.o,Aj (by rw[d.o]; simp),Aj f]);clear f;go_wp2_with fail;refine An (v:=.tuple #[.agg #[.string ⟨#[]⟩,zB],zA 12]) (by simp[results,results8,go_sem,Ay,Aw,k,l,j,Da]) rfl ?_;exact NG aa.o (by decide) (((a.o.setCell (by simp) _).setCell (by simp) _).alloc (by have:=a.o.size; simpa [World.setCell] using this) _)
  ·have av:(q.err==0)=false:=(by simpa using hq);have aa:Hid (r=BP q.err/\q.err≠0):=⟨by rw[b.o,Ar hq],hq⟩;clear hq ab;go_wp2_with fail;refine An (v:=.tuple #[.agg #[.string ⟨#[]⟩,zB],zA q.err]) (by simp[results,results8,go_sem,Ay,Aw,k,l,j,Da]) rfl ?_;exact NG aa.o.1 aa.o.2 (((a.o.setCell (by simp) _).setCell (by simp) _).alloc (by have:=a.o.size; simpa [World.setCell] using this) _)
def Fm:List (List ByteArray):=[[⟨#[102,40,97,44,88,41]⟩,⟨#[88]⟩,⟨#[102,40,104,40,88,41,44,89,41]⟩,⟨#[104,40,102,40,88,44,89,41,41]⟩],[⟨#[102,40,88,44,97,41]⟩,⟨#[88]⟩,⟨#[102,40,88,44,104,40,89,41,41]⟩,⟨#[104,40,102,40,88,44,89,41,41]⟩,⟨#[102,40,97,44,88,41]⟩,⟨#[88]⟩],[⟨#[102,40,102,40,88,44,89,41,44,90,41]⟩,⟨#[102,40,88,44,102,40,89,44,90,41,41]⟩],[⟨#[107,40,107,40,88,41,41]⟩,⟨#[88]⟩,⟨#[107,40,97,41]⟩,⟨#[97]⟩,⟨#[107,40,102,40,88,44,89,41,41]⟩,⟨#[102,40,107,40,89,41,44,107,40,88,41,41]⟩],[⟨#[102,40,88,44,88,41]⟩,⟨#[88]⟩],[⟨#[104,40,107,40,88,41,41]⟩,⟨#[107,40,104,40,88,41,41]⟩,⟨#[104,40,104,40,88,41,41]⟩,⟨#[104,40,88,41]⟩],[⟨#[102,40,97,44,98,41]⟩,⟨#[99]⟩,⟨#[97]⟩,⟨#[98]⟩],[⟨#[103,40,88,44,89,41]⟩,⟨#[102,40,89,44,88,41]⟩],[⟨#[104,40,97,41]⟩,⟨#[98]⟩,⟨#[104,40,97,41]⟩,⟨#[99]⟩],[⟨#[102,40,88,44,103,40,89,44,90,41,41]⟩,⟨#[103,40,102,40,88,44,89,41,44,102,40,88,44,90,41,41]⟩]]
def Gu:List ByteArray->List Pr
 |a::b::r=>⟨(F5 a).t,(F5 b).t⟩::Gu r
 |_=>[]
theorem Ut:∀(k:Nat) (l:List ByteArray) (h:2*k+1<l.length),Gu (l.take (2*k+2))=Gu (l.take (2*k))++[⟨(F5 (l[2*k]'(by omega))).t,(F5 l[2*k+1]).t⟩]
 |_,[],h=>by simp at h
 |_,[a],h=>by simp at h
 |0,a::b::r,h=>by simp[Gu]
 |k+1,a::b::r,h=>by
  have c:=Ut k r (by simp at h; omega);have d:(a::b::r).take (2*(k+1)+2)=a::b::r.take (2*k+2):=by rw[show 2*(k+1)+2=(2*k+2)+1+1 by omega,Ff,Ff]
  have e:(a::b::r).take (2*(k+1))=a::b::r.take (2*k):=by rw[show 2*(k+1)=(2*k)+1+1 by omega,Ff,Ff]
  rw[d,e,Gu,Gu,c];simp[show 2*(k+1)=2*k+1+1 by omega]
theorem Uu:∀l∈Fm,(∀s∈l,(F5 s).err=0)/\l.length % 2=0/\l.length<=6:=by decide +kernel
def kO (l:List ByteArray) (w:World) (u v:Value) (wr:World):Prop:=
 ∃(k:Nat) (cs:List Pc),2*k<=l.length/\v=zA ((2*k:Nat):Int)/\cs.map (λx=>x.1)=Gu (l.take (2*k))/\cs.length=k/\Cm wr w.heap.size (λ_=>False) u cs/\Below w.heap.size w wr
def LT (B:Nat) (l:List ByteArray) (w w':World):Prop:=Ac w' B (l.map Value.string).toArray 9/\Below w.heap.size w w'
theorem LT.later {B:Nat} {l:List ByteArray} {w w1 w2:World} (h:LT B l w w1) (hb:Below w1.heap.size w1 w2):LT B l w w2:=⟨h.1.below hb h.1.lt,h.2.trans (hb.mono h.2.size)⟩
def kP (w:World) (e:Ending) (w':World):Prop:=
 ∃l v cs N,e=.returned v/\l∈Fm/\w.heap.size<=N/\N<=w'.heap.size/\Cm w' N (λ_=>False) v cs/\cs.map (λx=>x.1)=Gu l/\cs.length<=3/\Below w.heap.size w w'
theorem Uv (z:Int) (hz:-9223372036854775808<=z/\z<=9223372036854775807) (w:World):
  Calls prog 4 #[zA z] w (kP w):=by
 obtain⟨i0,aQ,aR,aS,aT⟩:=CE Tryz.infoPair;have J:Hid (∃W,W=(((((((((((w.alloc (.cells #[.string ⟨#[102,40,97,44,88,41]⟩,.string ⟨#[88]⟩,.string ⟨#[102,40,104,40,88,41,44,89,41]⟩,.string ⟨#[104,40,102,40,88,44,89,41,41]⟩] 9)).alloc (.cells #[.string ⟨#[102,40,88,44,97,41]⟩,.string ⟨#[88]⟩,.string ⟨#[102,40,88,44,104,40,89,41,41]⟩,.string ⟨#[104,40,102,40,88,44,89,41,41]⟩,.string ⟨#[102,40,97,44,88,41]⟩,.string ⟨#[88]⟩] 9)).alloc (.cells #[.string ⟨#[102,40,102,40,88,44,89,41,44,90,41]⟩,.string ⟨#[102,40,88,44,102,40,89,44,90,41,41]⟩] 9)).alloc (.cells #[.string ⟨#[107,40,107,40,88,41,41]⟩,.string ⟨#[88]⟩,.string ⟨#[107,40,97,41]⟩,.string ⟨#[97]⟩,.string ⟨#[107,40,102,40,88,44,89,41,41]⟩,.string ⟨#[102,40,107,40,89,41,44,107,40,88,41,41]⟩] 9)).alloc (.cells #[.string ⟨#[102,40,88,44,88,41]⟩,.string ⟨#[88]⟩] 9)).alloc (.cells #[.string ⟨#[104,40,107,40,88,41,41]⟩,.string ⟨#[107,40,104,40,88,41,41]⟩,.string ⟨#[104,40,104,40,88,41,41]⟩,.string ⟨#[104,40,88,41]⟩] 9)).alloc (.cells #[.string ⟨#[102,40,97,44,98,41]⟩,.string ⟨#[99]⟩,.string ⟨#[97]⟩,.string ⟨#[98]⟩] 9)).alloc (.cells #[.string ⟨#[103,40,88,44,89,41]⟩,.string ⟨#[102,40,89,44,88,41]⟩] 9)).alloc (.cells #[.string ⟨#[104,40,97,41]⟩,.string ⟨#[98]⟩,.string ⟨#[104,40,97,41]⟩,.string ⟨#[99]⟩] 9)).alloc (.cells #[.string ⟨#[102,40,88,44,103,40,89,44,90,41,41]⟩,.string ⟨#[103,40,102,40,88,44,89,41,44,102,40,88,44,90,41,41]⟩] 9)).alloc (.cells #[.slice (some (zD w.heap.size 0)) 4 4,.slice (some (zD (w.heap.size+1) 0)) 6 6,.slice (some (zD (w.heap.size+1+1) 0)) 2 2,.slice (some (zD (w.heap.size+1+1+1) 0)) 6 6,.slice (some (zD (w.heap.size+1+1+1+1) 0)) 2 2,.slice (some (zD (w.heap.size+1+1+1+1+1) 0)) 4 4,.slice (some (zD (w.heap.size+1+1+1+1+1+1) 0)) 4 4,.slice (some (zD (w.heap.size+1+1+1+1+1+1+1) 0)) 2 2,.slice (some (zD (w.heap.size+1+1+1+1+1+1+1+1) 0)) 4 4,.slice (some (zD (w.heap.size+1+1+1+1+1+1+1+1+1) 0)) 2 2] 29))/\(Ac W (w.heap.size) #[.string ⟨#[102,40,97,44,88,41]⟩,.string ⟨#[88]⟩,.string ⟨#[102,40,104,40,88,41,44,89,41]⟩,.string ⟨#[104,40,102,40,88,44,89,41,41]⟩] 9/\Ac W (w.heap.size+1) #[.string ⟨#[102,40,88,44,97,41]⟩,.string ⟨#[88]⟩,.string ⟨#[102,40,88,44,104,40,89,41,41]⟩,.string ⟨#[104,40,102,40,88,44,89,41,41]⟩,.string ⟨#[102,40,97,44,88,41]⟩,.string ⟨#[88]⟩] 9/\Ac W (w.heap.size+1+1) #[.string ⟨#[102,40,102,40,88,44,89,41,44,90,41]⟩,.string ⟨#[102,40,88,44,102,40,89,44,90,41,41]⟩] 9/\Ac W (w.heap.size+1+1+1) #[.string ⟨#[107,40,107,40,88,41,41]⟩,.string ⟨#[88]⟩,.string ⟨#[107,40,97,41]⟩,.string ⟨#[97]⟩,.string ⟨#[107,40,102,40,88,44,89,41,41]⟩,.string ⟨#[102,40,107,40,89,41,44,107,40,88,41,41]⟩] 9/\Ac W (w.heap.size+1+1+1+1) #[.string ⟨#[102,40,88,44,88,41]⟩,.string ⟨#[88]⟩] 9/\Ac W (w.heap.size+1+1+1+1+1) #[.string ⟨#[104,40,107,40,88,41,41]⟩,.string ⟨#[107,40,104,40,88,41,41]⟩,.string ⟨#[104,40,104,40,88,41,41]⟩,.string ⟨#[104,40,88,41]⟩] 9/\Ac W (w.heap.size+1+1+1+1+1+1) #[.string ⟨#[102,40,97,44,98,41]⟩,.string ⟨#[99]⟩,.string ⟨#[97]⟩,.string ⟨#[98]⟩] 9/\Ac W (w.heap.size+1+1+1+1+1+1+1) #[.string ⟨#[103,40,88,44,89,41]⟩,.string ⟨#[102,40,89,44,88,41]⟩] 9/\Ac W (w.heap.size+1+1+1+1+1+1+1+1) #[.string ⟨#[104,40,97,41]⟩,.string ⟨#[98]⟩,.string ⟨#[104,40,97,41]⟩,.string ⟨#[99]⟩] 9/\Ac W (w.heap.size+1+1+1+1+1+1+1+1+1) #[.string ⟨#[102,40,88,44,103,40,89,44,90,41,41]⟩,.string ⟨#[103,40,102,40,88,44,89,41,44,102,40,88,44,90,41,41]⟩] 9)/\Ac W (w.heap.size+1+1+1+1+1+1+1+1+1+1) #[.slice (some (zD w.heap.size 0)) 4 4,.slice (some (zD (w.heap.size+1) 0)) 6 6,.slice (some (zD (w.heap.size+1+1) 0)) 2 2,.slice (some (zD (w.heap.size+1+1+1) 0)) 6 6,.slice (some (zD (w.heap.size+1+1+1+1) 0)) 2 2,.slice (some (zD (w.heap.size+1+1+1+1+1) 0)) 4 4,.slice (some (zD (w.heap.size+1+1+1+1+1+1) 0)) 4 4,.slice (some (zD (w.heap.size+1+1+1+1+1+1+1) 0)) 2 2,.slice (some (zD (w.heap.size+1+1+1+1+1+1+1+1) 0)) 4 4,.slice (some (zD (w.heap.size+1+1+1+1+1+1+1+1+1) 0)) 2 2] 29/\Below w.heap.size w W):=by
  obtain⟨h1,h2,h3⟩:=Gj [(.cells #[.string ⟨#[102,40,97,44,88,41]⟩,.string ⟨#[88]⟩,.string ⟨#[102,40,104,40,88,41,44,89,41]⟩,.string ⟨#[104,40,102,40,88,44,89,41,41]⟩] 9:Obj),(.cells #[.string ⟨#[102,40,88,44,97,41]⟩,.string ⟨#[88]⟩,.string ⟨#[102,40,88,44,104,40,89,41,41]⟩,.string ⟨#[104,40,102,40,88,44,89,41,41]⟩,.string ⟨#[102,40,97,44,88,41]⟩,.string ⟨#[88]⟩] 9:Obj),(.cells #[.string ⟨#[102,40,102,40,88,44,89,41,44,90,41]⟩,.string ⟨#[102,40,88,44,102,40,89,44,90,41,41]⟩] 9:Obj),(.cells #[.string ⟨#[107,40,107,40,88,41,41]⟩,.string ⟨#[88]⟩,.string ⟨#[107,40,97,41]⟩,.string ⟨#[97]⟩,.string ⟨#[107,40,102,40,88,44,89,41,41]⟩,.string ⟨#[102,40,107,40,89,41,44,107,40,88,41,41]⟩] 9:Obj),(.cells #[.string ⟨#[102,40,88,44,88,41]⟩,.string ⟨#[88]⟩] 9:Obj),(.cells #[.string ⟨#[104,40,107,40,88,41,41]⟩,.string ⟨#[107,40,104,40,88,41,41]⟩,.string ⟨#[104,40,104,40,88,41,41]⟩,.string ⟨#[104,40,88,41]⟩] 9:Obj),(.cells #[.string ⟨#[102,40,97,44,98,41]⟩,.string ⟨#[99]⟩,.string ⟨#[97]⟩,.string ⟨#[98]⟩] 9:Obj),(.cells #[.string ⟨#[103,40,88,44,89,41]⟩,.string ⟨#[102,40,89,44,88,41]⟩] 9:Obj),(.cells #[.string ⟨#[104,40,97,41]⟩,.string ⟨#[98]⟩,.string ⟨#[104,40,97,41]⟩,.string ⟨#[99]⟩] 9:Obj),(.cells #[.string ⟨#[102,40,88,44,103,40,89,44,90,41,41]⟩,.string ⟨#[103,40,102,40,88,44,89,41,44,102,40,88,44,90,41,41]⟩] 9:Obj),(.cells #[.slice (some (zD w.heap.size 0)) 4 4,.slice (some (zD (w.heap.size+1) 0)) 6 6,.slice (some (zD (w.heap.size+1+1) 0)) 2 2,.slice (some (zD (w.heap.size+1+1+1) 0)) 6 6,.slice (some (zD (w.heap.size+1+1+1+1) 0)) 2 2,.slice (some (zD (w.heap.size+1+1+1+1+1) 0)) 4 4,.slice (some (zD (w.heap.size+1+1+1+1+1+1) 0)) 4 4,.slice (some (zD (w.heap.size+1+1+1+1+1+1+1) 0)) 2 2,.slice (some (zD (w.heap.size+1+1+1+1+1+1+1+1) 0)) 4 4,.slice (some (zD (w.heap.size+1+1+1+1+1+1+1+1+1) 0)) 2 2] 29:Obj)] w;exact⟨_,rfl,⟨h3 0 _ rfl,h3 1 _ rfl,h3 2 _ rfl,h3 3 _ rfl,h3 4 _ rfl,h3 5 _ rfl,h3 6 _ rfl,h3 7 _ rfl,h3 8 _ rfl,h3 9 _ rfl⟩,h3 10 _ rfl,h1⟩
 go_enter func4,ntmps4;go_upto_region 2 with fail;obtain⟨w0,L,M,hk,N⟩:=J.o;rw[<-L];have O:=Aa M;have P:=Aa hk;have aa:=Aa N;clear L J M hk N;go_cut [4] (λv wc=>∃l B,l∈Fm/\v=.slice (some (zD B 0)) l.length l.length/\LT B l w wc);case first=>
  have a:=Aa (λi=>P.o.cell i);go_wp2_with fail;refine(FP z 10 (by decide) (by decide) hz _).mono ?_;rintro e w1 ⟨k,rfl,hk,rfl⟩;obtain⟨b0,b1,b2,b3,b4,b5,b6,b7,b8,b9⟩:=O.o;match k,hk with
  |0,_=>have q:w1.cell? (zD (w.heap.size+1+1+1+1+1+1+1+1+1+1) 0)=some (.slice (some (zD w.heap.size 0)) 4 4):=a.o 0;go_wp2_with fail;go_meet;exact⟨[⟨#[102,40,97,44,88,41]⟩,⟨#[88]⟩,⟨#[102,40,104,40,88,41,44,89,41]⟩,⟨#[104,40,102,40,88,44,89,41,41]⟩],w.heap.size,by simp[Fm],rfl,b0,aa.o⟩
  |1,_=>have q:w1.cell? (zD (w.heap.size+1+1+1+1+1+1+1+1+1+1) 1)=some (.slice (some (zD (w.heap.size+1) 0)) 6 6):=a.o 1;go_wp2_with fail;go_meet;exact⟨[⟨#[102,40,88,44,97,41]⟩,⟨#[88]⟩,⟨#[102,40,88,44,104,40,89,41,41]⟩,⟨#[104,40,102,40,88,44,89,41,41]⟩,⟨#[102,40,97,44,88,41]⟩,⟨#[88]⟩],w.heap.size+1,by simp[Fm],rfl,b1,aa.o⟩
  |2,_=>have q:w1.cell? (zD (w.heap.size+1+1+1+1+1+1+1+1+1+1) 2)=some (.slice (some (zD (w.heap.size+1+1) 0)) 2 2):=a.o 2;go_wp2_with fail;go_meet;exact⟨[⟨#[102,40,102,40,88,44,89,41,44,90,41]⟩,⟨#[102,40,88,44,102,40,89,44,90,41,41]⟩],w.heap.size+1+1,by simp[Fm],rfl,b2,aa.o⟩
  |3,_=>have q:w1.cell? (zD (w.heap.size+1+1+1+1+1+1+1+1+1+1) 3)=some (.slice (some (zD (w.heap.size+1+1+1) 0)) 6 6):=a.o 3;go_wp2_with fail;go_meet;exact⟨[⟨#[107,40,107,40,88,41,41]⟩,⟨#[88]⟩,⟨#[107,40,97,41]⟩,⟨#[97]⟩,⟨#[107,40,102,40,88,44,89,41,41]⟩,⟨#[102,40,107,40,89,41,44,107,40,88,41,41]⟩],w.heap.size+1+1+1,by simp[Fm],rfl,b3,aa.o⟩
  |4,_=>have q:w1.cell? (zD (w.heap.size+1+1+1+1+1+1+1+1+1+1) 4)=some (.slice (some (zD (w.heap.size+1+1+1+1) 0)) 2 2):=a.o 4;go_wp2_with fail;go_meet;exact⟨[⟨#[102,40,88,44,88,41]⟩,⟨#[88]⟩],w.heap.size+1+1+1+1,by simp[Fm],rfl,b4,aa.o⟩
  |5,_=>have q:w1.cell? (zD (w.heap.size+1+1+1+1+1+1+1+1+1+1) 5)=some (.slice (some (zD (w.heap.size+1+1+1+1+1) 0)) 4 4):=a.o 5;go_wp2_with fail;go_meet;exact⟨[⟨#[104,40,107,40,88,41,41]⟩,⟨#[107,40,104,40,88,41,41]⟩,⟨#[104,40,104,40,88,41,41]⟩,⟨#[104,40,88,41]⟩],w.heap.size+1+1+1+1+1,by simp[Fm],rfl,b5,aa.o⟩
  |6,_=>have q:w1.cell? (zD (w.heap.size+1+1+1+1+1+1+1+1+1+1) 6)=some (.slice (some (zD (w.heap.size+1+1+1+1+1+1) 0)) 4 4):=a.o 6;go_wp2_with fail;go_meet;exact⟨[⟨#[102,40,97,44,98,41]⟩,⟨#[99]⟩,⟨#[97]⟩,⟨#[98]⟩],w.heap.size+1+1+1+1+1+1,by simp[Fm],rfl,b6,aa.o⟩
  |7,_=>have q:w1.cell? (zD (w.heap.size+1+1+1+1+1+1+1+1+1+1) 7)=some (.slice (some (zD (w.heap.size+1+1+1+1+1+1+1) 0)) 2 2):=a.o 7;go_wp2_with fail;go_meet;exact⟨[⟨#[103,40,88,44,89,41]⟩,⟨#[102,40,89,44,88,41]⟩],w.heap.size+1+1+1+1+1+1+1,by simp[Fm],rfl,b7,aa.o⟩
  |8,_=>have q:w1.cell? (zD (w.heap.size+1+1+1+1+1+1+1+1+1+1) 8)=some (.slice (some (zD (w.heap.size+1+1+1+1+1+1+1+1) 0)) 4 4):=a.o 8;go_wp2_with fail;go_meet;exact⟨[⟨#[104,40,97,41]⟩,⟨#[98]⟩,⟨#[104,40,97,41]⟩,⟨#[99]⟩],w.heap.size+1+1+1+1+1+1+1+1,by simp[Fm],rfl,b8,aa.o⟩
  |9,_=>have q:w1.cell? (zD (w.heap.size+1+1+1+1+1+1+1+1+1+1) 9)=some (.slice (some (zD (w.heap.size+1+1+1+1+1+1+1+1+1) 0)) 2 2):=a.o 9;go_wp2_with fail;go_meet;exact⟨[⟨#[102,40,88,44,103,40,89,44,90,41,41]⟩,⟨#[103,40,102,40,88,44,89,41,44,102,40,88,44,90,41,41]⟩],w.heap.size+1+1+1+1+1+1+1+1+1,by simp[Fm],rfl,b9,aa.o⟩
 obtain⟨l,B,g,rfl,R⟩:=hcut;have n:=Aa R;have r:=Aa (Uu l g);have h6:=(Uu l g).2.2;have HL:=Aa g;clear R g O P aa;go_wp2_with fail;go_loopw [5,6] (λu v wr=>kO l wc u v wr) (λu v wr=>l.length-(intOf v).toNat);case atStart=>exact⟨0,[],by omega,rfl,by simp[Gu],rfl,Cm.start _ _ _,Af _ _⟩
 case round=>
  obtain⟨k,cs,hk,rfl,hcs,hlen,T,hb⟩:=hrel;have U:=Aa hcs;have s:=Aa T;have d:=Aa hb;have V:=Aa (n.o.later hb);clear hcs T;by_cases hlt:2*k+1<l.length
  ·have aL:=Aa (Ut k l hlt);have aw:((2*k:Nat):Int)+1<(l.length:Int):=(by omega);have aM:((2*k:Nat):Int)<(l.length:Int):=(by omega);have d1:wr.cell? ⟨B,2*k,none⟩=some (.string (l[2*k]'(by omega))):=by rw[V.o.1.cell]; simp
   have y:=Aa (r.o.1 (l[2*k]'(by omega)) (AN _));have C:=Aa (r.o.1 l[2*k+1] (AN _));have D2:=Aa (show ∀D,Below wr.heap.size wr D->D.cell? ⟨B,2*k+1,none⟩=some (.string l[2*k+1]) from λD hx=>by rw[(V.o.later hx).1.cell]; simp);generalize l[2*k]=s1 at *;generalize l[2*k+1]=s2 at *;clear hb;go_wp2_with fail;refine(Us s1 wr).mono ?_;rintro e w1 ⟨v1,rfl,ab,_,E⟩;obtain⟨a1,c1,rfl,Z⟩:=ab y.o;rw[y.o];clear ab y;generalize (F5 s1).t=t1 at *;have c:Below w1.heap.size w1 (w1.alloc (.cells (zF t1 a1 c1) 33)):=(Af _ _).alloc (Ai _) _;have hb2:=E.trans (c.mono E.size);have F:=Aa (Ac.new w1 (zF t1 a1 c1) 33);have S2:=Aa (Z.later c);have m:=Aa hb2;have G:=Aa (d.o.trans (hb2.mono d.o.size));have d2:(w1.alloc (.cells (zF t1 a1 c1) 33)).cell? ⟨B,2*k+1,none⟩=some (.string s2):=D2.o _ hb2;clear c E Z hb2 d1;go_wp2_with fail;clear d2;generalize w1.alloc (.cells (zF t1 a1 c1) 33)=w2 at *;generalize w1.heap.size=A at *;refine(Us s2 w2).mono ?_;rintro e w3 ⟨v3,rfl,ab,_,H⟩;obtain⟨a3,c3,rfl,aI⟩:=ab C.o;rw[C.o];clear ab C;generalize (F5 s2).t=t3 at *;have c:Below w3.heap.size w3 (w3.alloc (.cells (zF t3 a3 c3) 33)):=(Af _ _).alloc (Ai _) _;have f:=H.trans (c.mono H.size);have B4:=Aa (Ac.new w3 (zF t3 a3 c3) 33);have A4:=Aa (F.o.below f F.o.lt);have S4:=Aa (S2.o.later f);have T4:=Aa ((aI.later c).mono (Y:=λb=>wr.heap.size<=b) λb hb _=>by have:=m.o.size; omega);have D4:=Aa (m.o.trans (f.mono m.o.size));have I:=Aa (G.o.trans (f.mono G.o.size));clear c H aI f F S2 m G;have p0:=A4.o.cell 0;have p1:=A4.o.cell 1;have q0:=B4.o.cell 0;have q1:=B4.o.cell 1;have ao:cs.length<=1000000:=(by omega);have aA:(w3.alloc (.cells (zF t3 a3 c3) 33)).heap.size=w3.heap.size+1:=(by simp);obtain⟨v5,w5,aq,ad,aJ,_⟩:=J7 s.o d.o.size (λ_ h=>h.elim) D4.o (⟨t1,t3⟩,(a1,c1),(a3,c3)) ⟨S4.o.mono λb hb _=>Ae hb,T4.o.mono λb hb _=>Ae hb⟩ ao (w3.heap.size+1) aA;have aB:=Aa aq;have ar:=Aa ad;have au:=s.o.own.lt;have aN:Hid (Below wc.heap.size wc w5):=(I.o.alloc I.o.size _).grown aJ (by have:=I.o.size; simp at *; omega) (λj hj=>(au j hj).1);have aC:Hid ((cs++[((⟨t1,t3⟩,(a1,c1),(a3,c3)):Pc)]).map (λx=>x.1)=Gu (l.take (2*(k+1)))):=Aa (by rw[Cr,U.o,show 2*(k+1)=2*k+2 by omega,aL.o];rfl);clear aq ad aJ au;go_wp2_with (at_builtin; refine DD rfl _ _ _ _ rfl rfl rfl aB.o ?_);go_roundw
   case rel=>exact⟨k+1,_,by omega,by simp; omega,aC.o,by simp; omega,ar.o,aN.o⟩
   case measure=>simp[intOf]; omega
  ·have aO:=r.o.2.1;have aP:Hid (l.take (2*k)=l):=AX (by omega);have aw:¬((2*k:Nat):Int)+1<(l.length:Int):=(by omega);clear aO;go_wp2_with fail;go_ret;have aK:=n.o.2.size;have h8:=U.o;rw[aP.o]at h8;exact⟨l,_,cs,wc.heap.size,rfl,HL.o,aK,d.o.size,s.o,h8,by omega,n.o.2.trans (d.o.mono aK)⟩
theorem LU {p:Pr} (h:Bv p=0):AA p.l=0/\AA p.r=0:=by
 unfold Bv at h;split at h
 ·rename_i h1;unfold CH at h1;split at h1
  ·rename_i h2;exact⟨h2,h1⟩
  ·rename_i h2;exact absurd h1 h2
 ·rename_i h1;exact absurd h h1
theorem Uw (U:List Pr->Int×List Bd) {o n:Pr} (same:Bool) (ho:AA o.l=0/\AA o.r=0) (hn:AA n.l=0/\AA n.r=0):(Jk U o n same).length<=200:=by
 have h1:=List.length_filterMap_le (Ep U (Av o n) same) (AQ [] [] (Av o n).1.l);have h2:(AQ [] [] (Av o n).1.l).length<=Ab [(Av o n).1.l]:=by
  obtain⟨s,l⟩:=(Av o n).1.l;unfold AQ;have:=Qw l [] 0 (Cl []) ([]:List Int).tail;have e:Ab [(⟨s,l⟩:Tm)]=1+Ab l:=by simp[Ab]
  rw[e,Bu];simp only;omega
 have h3:=CM (Jj ho hn).1.1;unfold Jk;omega
def LW (U:List Pr->Int×List Bd) (rs:List Pr) (w:World) (i j:Nat) (v:Value) (wr:World):Prop:=
 ∃cs,Cm wr w.heap.size (λ_=>False) v cs/\cs.length<=400/\Below w.heap.size w wr/\DL U (DS rs.zipIdx i j) (cs.map (·.1))=Ds U rs
def LX (U:List Pr->Int×List Bd) (rs:List Pr) (w:World) (e:Ending) (w':World):Prop:=
 Below w.heap.size w w'/\((Ck rs≠0/\e=.returned (.tuple #[zB,zA (Ck rs)]))∨(Ck rs=0/\(Ds U rs).1≠0/\e=.returned (.tuple #[zB,zA (Ds U rs).1]))∨
  (Ck rs=0/\(Ds U rs).1=0/\∃v cs,e=.returned (.tuple #[v,zA 0])/\Cm w' w.heap.size (λ_=>False) v cs/\cs.length<=400/\cs.map (·.1)=(Ds U rs).2))
theorem Ux (A:Nat) (U:List Pr->Int×List Bd) (N:∀ls,Co ls=0->∃g,AU false g [] ls=some (U ls)) (a1:∀ls,Co ls=0->(U ls).1=0->Ii (U ls).2) (rs:List Pr) (u:Value) (w:World) (X:Nat->Prop) (hu:QV w X u rs) (O:Tb A w) (aM:A<=w.heap.size):
  Calls prog 14 #[u] w λe w'=>LX U rs w e w':=by
 have P:=Aa hu;have HT:=Aa O;have aN:=Aa N;have aO:=Aa a1;obtain⟨ua,uc,rfl,aY,-⟩:=id hu;clear hu O N a1;go_enter func14,ntmps14;go_wp2_with fail;refine(kI rs _ w X P.o).mono ?_;rintro e w1 ⟨rfl,R⟩;have T:=Aa R;clear R;by_cases a:Ck rs=0
 ·have c:=Aa a;rw[a];clear a;go_wp2_with fail;go_loopw [5,17] (λl f wr=>∃i,i<=rs.length/\f=zA i/\LW U rs w i 0 l wr) (λl f wr=>rs.length-(intOf f).toNat);case atStart=>exact⟨0,AG _,rfl,[],Cm.start _ _ _,by simp,T.o,rfl⟩
  case round=>
   obtain⟨i,hi,rfl,cs,B,V,W,hc⟩:=hrel;obtain⟨va,vc,rfl⟩:=DX B.own;have Y:=Aa B;have Z:=Aa W;have HC:=Aa hc;have HL:=Aa V;clear B W hc V;by_cases m:i<rs.length
   ·have aP:(i:Int)<(rs.length:Int):=(by omega);go_wp2_with fail;go_loopw [5,22] (λl f wr=>∃j,j<=rs.length/\f=zA j/\LW U rs w i j l wr) (λl f wr=>rs.length-(intOf f).toNat);case atStart=>exact⟨0,AG _,rfl,cs,Y.o,HL.o,Z.o,HC.o⟩
    case round=>
     obtain⟨j,hj,rfl,aa,C,n,BH,a8⟩:=hrel;obtain⟨aZ,ba,rfl⟩:=DX C.own;have D:=Aa C;have ab:=Aa BH;have E:=Aa a8;have aA:=Aa n;clear C BH a8 n;by_cases r:j<rs.length
     ·have aQ:(j:Int)<(rs.length:Int):=(by omega);have aB:=Aa (LU (Hh c.o rs[i] (AN m)));have aC:=Aa (LU (Hh c.o rs[j] (AN r)));have aD:Hid (DS rs.zipIdx i j=((rs[i],i),(rs[j],j))::DS rs.zipIdx i (j+1)):=Aa (by rw[Uk _ i j (by simpa using m) (by simpa using r),LQ rs i m,LQ rs j r]);go_wp2_with fail;refine(gA A U aN.o aO.o rs i j m r _ _ X (P.o.later ab.o) aB.o aC.o (HT.o.on (ab.o.mono aM)) (by have:=ab.o.size; omega)).mono ?_;rintro e w3 ⟨s,ae⟩;have t:=Aa (ab.o.trans (s.mono ab.o.size));have aE:=Aa (D.o.below s);have aR:=s.size;clear s;rcases ae with ⟨aF,v',x,rfl,F,G⟩|⟨y,rfl⟩
      ·have aS:x.length<=200:=(by have h1:=Bx List.length G;rw[Ea]at h1;rw[h1];exact Uw U _ aB.o aC.o);have aG:=ab.o.size;have n:=aA.o;obtain⟨v2,w4,af,H,aH⟩:=NV aE.o t.o.size (λ_ h=>h.elim) F aG (λb hb=>(D.o.own.lt b hb).2) (by omega);have ag:=aE.o.own.lt;have aI:Hid (Below w.heap.size w w4):=t.o.grown aH t.o.size (λq hq=>(ag q hq).1);have aT:=Aa H;obtain⟨a3,c3,rfl⟩:=DX F.own;obtain⟨a4,c4,aJ⟩:=DX H.own;obtain⟨nl,I⟩:∃nl,nl=(aa++x).length:=⟨_,rfl⟩;rw[<-I]at aJ;subst aJ;have ah:=Aa af;have J:=Aa I;have aK:Hid (¬Ix U ((rs[i],i),(rs[j],j))):=λh=>by
        obtain⟨d,hd,y⟩:=h;exact aF d hd y
       have L:Hid ((aa++x).map (·.1)=aa.map (·.1)++Hv U ((rs[i],i),(rs[j],j))):=Aa (by rw[Cr,G];rfl);clear af H aH ag F G aF I n aG aS aR;have z:Hid (DL U (((rs[i],i),(rs[j],j))::DS rs.zipIdx i (j+1)) (aa.map (·.1))=Ds U rs):=Aa (by rw[<-aD.o];exact E.o);by_cases aL:400<nl
       ·have aU:(400:Int)<(nl:Int):=(by omega);go_wp2_with (at_builtin; refine DD rfl _ _ _ _ rfl rfl rfl ah.o ?_);refine An (v:=.tuple #[zB,zA 3]) (by simp[results,results14,go_sem]) rfl ?_;have h:=z.o;rw[Ui aK.o (by rw[<-L.o,Ea,<-J.o]; exact aL)]at h;exact⟨aI.o,Ae (Ad ⟨c.o,by rw[<-h]; decide,by rw[<-h]⟩)⟩
       ·have aU:¬(400:Int)<(nl:Int):=(by omega);have aV:(nl:Int)<=400:=(by omega);go_wp2_with (at_builtin; refine DD rfl _ _ _ _ rfl rfl rfl ah.o ?_);go_roundw
        case rel=>have h:=z.o;rw[Uj aK.o (by rw[<-L.o,Ea,<-J.o]; exact aL),<-L.o]at h;exact⟨j+1,by omega,by simp,aa++x,aT.o,by rw[<-J.o]; omega,aI.o,h⟩
        case measure=>simp[intOf]; omega
      ·have z:Hid ((8,[])=Ds U rs):=(by have h:=E.o;rw[aD.o,Uh (by obtain⟨d,hd,h⟩:=y; exact⟨d,hd,h⟩)]at h;exact h);clear y;go_wp2_with fail;refine An (v:=.tuple #[zB,zA 8]) (by simp[results,results14,go_sem]) rfl ?_;have h:=z.o;exact⟨t.o,Ae (Ad ⟨c.o,by rw[<-h]; decide,by rw[<-h]⟩)⟩
     ·have aQ:¬(j:Int)<(rs.length:Int):=(by omega);have ej:j=rs.length:=(by omega);have aW:Hid (DL U (DS rs.zipIdx (i+1) 0) (aa.map (·.1))=Ds U rs):=Aa (by rw[<-Ul _ i (by simpa using m),LP,<-ej];exact E.o);clear ej;go_wp2_with fail;go_roundw
      case rel=>exact⟨i+1,by omega,by simp,aa,D.o,aA.o,ab.o,aW.o⟩
      case measure=>simp[intOf]; omega
   ·have aP:¬(i:Int)<(rs.length:Int):=(by omega);have ei:i=rs.length:=(by omega);have aX:Hid ((0,cs.map (·.1))=Ds U rs):=by
     have h:DL U (DS rs.zipIdx rs.zipIdx.length 0) (cs.map (·.1))=Ds U rs:=by rw[LP,<-ei]; exact HC.o
     rw[Um,Ug]at h;exact h
    clear ei;go_wp2_with fail;refine An (v:=.tuple #[.slice va cs.length vc,zA 0]) (by simp[results,results14,go_sem]) rfl ?_;have h:=aX.o;exact⟨Z.o,Ae (Ae ⟨c.o,by rw[<-h],_,cs,rfl,Y.o,HL.o,by rw[<-h]⟩)⟩
 ·obtain⟨k,M⟩:∃k,k=Ck rs:=⟨_,rfl⟩;rw[<-M]at a ⊢;have c:Hid (k=Ck rs/\k≠0):=⟨M,a⟩;have bb:(k !=0)=true:=by simp[a]
  clear M a;go_wp2_with fail;refine An (v:=.tuple #[zB,zA k]) (by simp[results,results14,go_sem]) rfl ?_;have h:=c.o;exact⟨T.o,Ad ⟨λq=>h.2 (h.1.trans q),by rw[h.1]⟩⟩
open Go.RowKit Go.Shelf
attribute [local go_sem] G7
theorem kQ (w:World) (a:Addr) (v:Value):(w.setCell a v).os=w.os:=rfl
theorem kR (w:World) (a:Addr) (v:Value):(w.setCell a v).tape=w.tape:=rfl
theorem kS (w:World) (a:Addr) (v:Value):(w.setCell a v).output=w.output:=rfl
def Iy (W:World) (b:Nat):Prop:=(∀r,W.heap[b]? ≠ some (.loop r))/\∀d,W.heap[b]? ≠ some (.deferred d)
theorem Uy {W:World} {b i:Nat} {v:Value} (h:W.cell? (zD b i)=some v):Iy W b:=
 ⟨(λr e=>by simp[World.cell?,e] at h),(λd e=>by simp[World.cell?,e] at h)⟩
theorem kT {w:World} {X:Nat->Prop} (l:List Tm):∀b o,Dd w X b o l->Dd w (λb=>X b/\Iy w b) b o l:=by
 induction l using Tm.indL with
 |h0=>intro b o _; simp[Dd]
 |h s l r aa ab=>
  intro b o d;simp only[Dd] at d ⊢;obtain⟨hx,h1,⟨a,c,h2,e,h3⟩,f⟩:=d;refine⟨⟨hx,Uy h1⟩,h1,⟨a,c,h2,e,?_⟩,ab _ _ f⟩;rcases h3 with h3|⟨b',o',h3,g⟩
  ·exact Ad h3
  ·exact Ae ⟨b',o',h3,aa _ _ g⟩
theorem Sl.solid {w:World} {X:Nat->Prop} {a:Option Addr} {l:List Tm} (h:Sl w X a l):Sl w (λb=>X b/\Iy w b) a l:=by
 obtain⟨c,h⟩:=h;refine⟨c,?_⟩;rcases h with h|⟨b,o,e,h⟩
 ·exact Ad h
 ·exact Ae ⟨b,o,e,kT _ _ _ h⟩
theorem PV.solid {w:World} {X:Nat->Prop} {v:Value} {d:List Int} (h:PV w X v d):PV w (λb=>X b/\Iy w b) v d:=by
 obtain⟨a,c,e,f,h⟩:=h;refine⟨a,c,e,f,?_⟩;rcases h with h|⟨b,o,e,hx,h⟩
 ·exact Ad h
 ·by_cases hz:d=[]
  ·exact Ad hz
  ·exact Ae ⟨b,o,e,⟨hx,Uy (h 0 (Fp.2 hz))⟩,h⟩
theorem kU {x:Ft} {args:Array Value} {W:World} {Z:Nat->Prop} (h:Gi x args W Z):Gi x args W (λb=>Z b/\Iy W b):=by
 obtain⟨ra,rc,q,Lm,rfl,ab,hq,aa⟩:=h;refine⟨ra,rc,q,Lm,rfl,ab.solid,⟨hq,?_⟩,aa.1,aa.2.imp λa l hs=>hs.solid⟩;obtain⟨es,ad,h1,_⟩:=aa.1;exact⟨(λr e=>by rw[h1] at e; cases e),(λd e=>by rw[h1] at e; cases e)⟩
theorem kW {x:Ft} {args:Array Value} {W W':World} {Z:Nat->Prop} (h:Gi x args W Z) (c:∀b,Z b->W'.heap[b]? = W.heap[b]?):Gi x args W' Z:=by
 obtain⟨ra,rc,q,Lm,rfl,ab,hq,aa⟩:=h;exact⟨ra,rc,q,Lm,rfl,ab.kept c,hq,aa.1.kept (c q hq),aa.2.imp λa l hs=>hs.kept c⟩
def kY {α:Type} (Lp:α->Array Value->World->(Nat->Prop)->Prop) (A B TA:Nat) (G:Nat->Prop) (all:List α) (W:World):Prop:=
 ∃(y:α) (cs:Array Value) (Z:Nat->Prop),[y] <+: all/\Ac W A cs TA/\Ac W B #[.bool true] 4/\Lp y #[.agg cs] W Z/\∀b,Z b->b<W.heap.size/\¬G b
def JF {α:Type} (A B L TA:Nat) (zs:Array Value) (G:Nat->Prop) (r rd:Loop) (W0:World):Tk α:=λpre s f W=>
 (∀b,f b↔b=L∨b=A∨b=B∨G b)/\(∀b,G b->b<W0.heap.size)/\W0.heap.size<=W.heap.size/\(∀b,G b->W.heap[b]? = W0.heap[b]?)/\W.heap[L]? = some (.loop (if s=true then r else rd))/\A<W.heap.size/\B<W.heap.size/\(s=true->pre=[]/\Ac W A zs TA/\Ac W B #[.bool false] 4)
theorem JF.ok {α:Type} {A B L j:Nat} {k:Array Value} {G:Nat->Prop} {r rd:Loop} {W0:World}:FT (JF (α:=α) A B L j k G r rd W0) (λ_=>False) where
 inside:=by
  rintro pre s f W ⟨a,c,hz,e,d,g,i,hs⟩ b hb;rcases hb with hb|hb
  ·rcases(a b).1 hb with h|h|h|h
   ·subst h; exact(DV.1 d).1
   ·subst h; exact g
   ·subst h; exact i
   ·have:=c b h; omega
  ·exact hb.elim
 apart:=by
  rintro pre s f W hj b hb;exact hb.elim
 abide:=by
  rintro pre s f W W' ⟨a,c,hz,e,d,g,i,hs⟩ aa hk;refine⟨a,c,by omega,λb hb=>(hk b (Ad ((a b).2 (Ae (Ae (Ae hb)))))).trans (e b hb),(hk L (Ad ((a L).2 (Ad rfl)))).trans d,by omega,by omega,λh=>⟨(hs h).1,(hk A (Ad ((a A).2 (Ae (Ad rfl))))).trans (hs h).2.1,(hk B (Ad ((a B).2 (Ae (Ae (Ad rfl)))))).trans (hs h).2.2⟩⟩
def kZ {α:Type} (Lp:α->Array Value->World->(Nat->Prop)->Prop) (zs:Array Value) (G:Nat->Prop) (all:List α) (w:World) (e:Ending) (w':World):Prop:=
 Below w.heap.size w w'/\((all=[]/\e=.returned (.tuple #[.agg zs,.bool false]))∨∃(y:α) (cs:Array Value) (Z:Nat->Prop),[y] <+: all/\e=.returned (.tuple #[.agg cs,.bool true])/\Lp y #[.agg cs] w' Z/\∀b,Z b->b<w'.heap.size/\¬G b)
theorem lC (rs:List Pr) (B:Tm) (R T:Nat) (uv:Value) (aa:Option Addr) (ca:Nat) (w:World) (X G:Nat->Prop) (hR:Ac w R #[uv] 23) (hu:QV w X uv rs) (hT:Ac w T (zF B aa ca) 33) (hs:Sl w X aa B.args) (hX:∀b,X b->b<w.heap.size/\¬G b) (hG:∀b,G b->b<w.heap.size/\b≠R/\b≠T):
  Calls prog 114 #[.func (.func 133) #[] #[zC R,zC T]] w λe w'=>kZ Gi #[.string ⟨#[]⟩,zB,.map none] G (Cq rs B) w e w':=by
 have HX:=Aa hX;have H:=Aa hG;have HU:=Aa hu;have HS:=Aa hs;have HR:=Aa hR;have HT:=Aa hT;clear hX hG hu hs hR hT;refine(DW (n:=3)).1 ?_;refine callsIn_of_wp_marks func114 rfl trivial ?_ rfl;simp only[ntmps114,List.size_toArray,Bu,E4,Nat.reduceAdd,Nat.reduceSub,L9,Ma,List.push_toArray,Mb,D9,Cj];gi_wp2
 refine P5 (gf:=133) (lb:=#[zC R,zC T]) rfl (enters_of func133 (by kernel_rfl) rfl) ?_;intro r au av aw ax ay az;have a6:((w.alloc (.cells #[.string ⟨#[]⟩,zB,.map none] 160)).alloc (.cells #[.bool false] 4)).heap.size=w.heap.size+2:=by simp
 rw[a6];have aL:w.heap.size+2+1=w.heap.size+3:=rfl;rw[aL];clear aL;have aM:((((w.alloc (.cells #[.string ⟨#[]⟩,zB,.map none] 160)).alloc (.cells #[.bool false] 4)).alloc (.deferred (some []))).alloc (.loop r))=Hm w [(.cells #[.string ⟨#[]⟩,zB,.map none] 160:Obj),(.cells #[.bool false] 4:Obj),(.deferred (some []):Obj),(.loop r:Obj)]:=rfl;have u:=Aa (Gj [(.cells #[.string ⟨#[]⟩,zB,.map none] 160:Obj),(.cells #[.bool false] 4:Obj),(.deferred (some []):Obj),(.loop r:Obj)] w);rw[<-aM]at u;clear aM;generalize ((((w.alloc (.cells #[.string ⟨#[]⟩,zB,.map none] 160)).alloc (.cells #[.bool false] 4)).alloc (.deferred (some []))).alloc (.loop r))=j at *;have bA:j.heap.size=w.heap.size+4:=u.o.2.1;have k:Hid (Below w.heap.size w j):=u.o.1;have H0:Hid (Ac j w.heap.size #[.string ⟨#[]⟩,zB,.map none] 160):=u.o.2.2 0 _ rfl;have H1:Hid (Ac j (w.heap.size+1) #[.bool false] 4):=u.o.2.2 1 _ rfl;have H2:Hid (j.heap[w.heap.size+2]? = some (.deferred (some []))):=u.o.2.2 2 _ rfl;have H3:Hid (j.heap[w.heap.size+3]? = some (.loop r)):=u.o.2.2 3 _ rfl;clear u;obtain⟨rd,a7⟩:∃rd:Loop,rd={ r with state:=.done,pending:=some .ret}:=⟨_,rfl⟩;obtain⟨rb,aN⟩:∃rb:Loop,rb={ r with state:=.busy}:=⟨_,rfl⟩;have RH:JT (w.heap.size+3) Gi (JF (α:=Ft) w.heap.size (w.heap.size+1) (w.heap.size+3) 160 #[.string ⟨#[]⟩,zB,.map none] G r rd j) (Cq rs B) (kY Gi w.heap.size (w.heap.size+1) 160 G (Cq rs B)):=by
  have bc:=Aa au;have bd:=Aa av;have bg:=Aa aw;have bh:=Aa ax;have bj:=Aa ay;have bk:=Aa az;clear au av aw ax ay az a6;intro n pre x args Z f W ah hj O I;obtain⟨hf,aO,bB,hC,P,z,A,aP⟩:=hj;obtain⟨rfl,aQ,aR⟩:=aP rfl;rw[D9]at ah;simp only[if_true] at P;obtain⟨ra,rc,q,Lm,rfl,aS,hq,a8⟩:=O;have J:Hid (∀W',(∀b,Z b->W'.heap[b]? = W.heap[b]?)->Gi x #[.agg #[.string x.1.r.name,.slice ra x.1.r.args.length rc,.map (some q)]] W' Z):=λW' k9=>⟨ra,rc,q,Lm,rfl,aS.kept k9,hq,a8.1.kept (k9 q hq),a8.2.imp λa l hs=>hs.kept k9⟩;have aA:=Aa ah;have v:=Aa hf;have bl:=Aa aO;have HC:=Aa hC;have U:=Aa I;have HA:=Aa aQ;have HB:=Aa aR;have bm:w.heap.size+3<W.heap.size:=(DV.1 P).1;clear ah hf aO hC I aQ aR aS a8 hq aP;refine P4 aN a7 bj.o bk.o bh.o bg.o P bc.o bd.o rfl ?_;have aT:(W.alloc (.cells #[.string x.1.r.name,.slice ra x.1.r.args.length rc,.map (some q)] 160)).heap[w.heap.size+3]? = some (.loop r):=(AL _ _ _ bm).trans P;have Y:∀b,b<W.heap.size->b≠w.heap.size+3->((W.alloc (.cells #[.string x.1.r.name,.slice ra x.1.r.args.length rc,.map (some q)] 160)).putObj (w.heap.size+3) (.loop rb)).heap[b]? = W.heap[b]? := λb hb hne=>(World.putObj_heap_other hne).trans (AL _ _ _ hb);have bC:((W.alloc (.cells #[.string x.1.r.name,.slice ra x.1.r.args.length rc,.map (some q)] 160)).putObj (w.heap.size+3) (.loop rb)).heap.size=W.heap.size+1:=by simp
  have L:Ac ((W.alloc (.cells #[.string x.1.r.name,.slice ra x.1.r.args.length rc,.map (some q)] 160)).putObj (w.heap.size+3) (.loop rb)) W.heap.size #[.string x.1.r.name,.slice ra x.1.r.args.length rc,.map (some q)] 160:=(World.putObj_heap_other (by omega)).trans (Ac.new W _ _);have aU:((W.alloc (.cells #[.string x.1.r.name,.slice ra x.1.r.args.length rc,.map (some q)] 160)).putObj (w.heap.size+3) (.loop rb)).heap[w.heap.size+3]? = some (.loop rb):=World.putObj_heap_same (by simp; omega);have C:Ac ((W.alloc (.cells #[.string x.1.r.name,.slice ra x.1.r.args.length rc,.map (some q)] 160)).putObj (w.heap.size+3) (.loop rb)) w.heap.size #[.string ⟨#[]⟩,zB,.map none] 160:=(Y _ z (by omega)).trans HA.o;have aq:Ac ((W.alloc (.cells #[.string x.1.r.name,.slice ra x.1.r.args.length rc,.map (some q)] 160)).putObj (w.heap.size+3) (.loop rb)) (w.heap.size+1) #[.bool false] 4:=(Y _ A (by omega)).trans HB.o;have c0:((W.alloc (.cells #[.string x.1.r.name,.slice ra x.1.r.args.length rc,.map (some q)] 160)).putObj (w.heap.size+3) (.loop rb)).cell? (zD W.heap.size 0)=some (.string x.1.r.name):=L.cell 0;have c1:((W.alloc (.cells #[.string x.1.r.name,.slice ra x.1.r.args.length rc,.map (some q)] 160)).putObj (w.heap.size+3) (.loop rb)).cell? (zD W.heap.size 1)=some (.slice ra x.1.r.args.length rc):=L.cell 1;have c2:((W.alloc (.cells #[.string x.1.r.name,.slice ra x.1.r.args.length rc,.map (some q)] 160)).putObj (w.heap.size+3) (.loop rb)).cell? (zD W.heap.size 2)=some (.map (some q)):=L.cell 2;have a0:((W.alloc (.cells #[.string x.1.r.name,.slice ra x.1.r.args.length rc,.map (some q)] 160)).putObj (w.heap.size+3) (.loop rb)).cell? (zD w.heap.size 0)=some (.string ⟨#[]⟩):=C.cell 0;have a1:((W.alloc (.cells #[.string x.1.r.name,.slice ra x.1.r.args.length rc,.map (some q)] 160)).putObj (w.heap.size+3) (.loop rb)).cell? (zD w.heap.size 1)=some (zB):=C.cell 1;have a2:((W.alloc (.cells #[.string x.1.r.name,.slice ra x.1.r.args.length rc,.map (some q)] 160)).putObj (w.heap.size+3) (.loop rb)).cell? (zD w.heap.size 2)=some (.map none):=C.cell 2;have af:=C.frozen;have bf:=aq.frozen;have b0:((W.alloc (.cells #[.string x.1.r.name,.slice ra x.1.r.args.length rc,.map (some q)] 160)).putObj (w.heap.size+3) (.loop rb)).cell? (zD (w.heap.size+1) 0)=some (.bool false):=aq.cell 0;have aB:Hid (((W.alloc (.cells #[.string x.1.r.name,.slice ra x.1.r.args.length rc,.map (some q)] 160)).putObj (w.heap.size+3) (.loop rb)).os=W.os/\((W.alloc (.cells #[.string x.1.r.name,.slice ra x.1.r.args.length rc,.map (some q)] 160)).putObj (w.heap.size+3) (.loop rb)).tape=W.tape/\((W.alloc (.cells #[.string x.1.r.name,.slice ra x.1.r.args.length rc,.map (some q)] 160)).putObj (w.heap.size+3) (.loop rb)).output=W.output):=⟨rfl,rfl,rfl⟩;have bn:=Aa aU;have bo:=Aa Y;have bp:=Aa C;have bq:=Aa aq;have bD:=Aa L;clear aN a7 L aU Y C aq;gi_wp2
  refine⟨(DV.1 aT).2,?_⟩;clear aT;generalize ((W.alloc (.cells #[.string x.1.r.name,.slice ra x.1.r.args.length rc,.map (some q)] 160)).putObj (w.heap.size+3) (.loop rb))=V at *;have br:w.heap.size<V.heap.size:=by omega
  have bs:w.heap.size+1<V.heap.size:=by omega
  gi_wp2
  clear c0 c1 c2 a0 a1 a2 af bf b0;have aV:Hid (∀b,Z b->b<W.heap.size/\b≠w.heap.size+3/\b≠w.heap.size/\b≠w.heap.size+1/\¬G b):=λb hb=>by
   have h:=U.o b hb;exact⟨h.1,λe=>h.2 ((v.o b).2 (Ad e)),λe=>h.2 ((v.o b).2 (Ae (Ad e))),λe=>h.2 ((v.o b).2 (Ae (Ae (Ad e)))),λe=>h.2 ((v.o b).2 (Ae (Ae (Ae e))))⟩
  have k3:∀b,b≠w.heap.size->b≠w.heap.size+1->((((V.setCell (zD w.heap.size 0) (.string x.1.r.name)).setCell (zD w.heap.size 1) (.slice ra x.1.r.args.length rc)).setCell (zD w.heap.size 2) (.map (some q))).setCell (zD (w.heap.size+1) 0) (.bool true)).heap[b]? = V.heap[b]? := λb h0 h1=>by
   rw[Aq _ _ _ _ (by simpa using h1)];rw[Aq _ _ _ _ (by simpa using h0)]; rw[Aq _ _ _ _ (by simpa using h0)]; rw[Aq _ _ _ _ (by simpa using h0)]
  have bt:Ac ((((V.setCell (zD w.heap.size 0) (.string x.1.r.name)).setCell (zD w.heap.size 1) (.slice ra x.1.r.args.length rc)).setCell (zD w.heap.size 2) (.map (some q))).setCell (zD (w.heap.size+1) 0) (.bool true)) w.heap.size #[.string x.1.r.name,.slice ra x.1.r.args.length rc,.map (some q)] 160:=(by refine Ac.setOther ?_ _ _ (by omega);exact((bp.o.set 0 (.string x.1.r.name)).set 1 (.slice ra x.1.r.args.length rc)).set 2 (.map (some q)));have bu:Ac ((((V.setCell (zD w.heap.size 0) (.string x.1.r.name)).setCell (zD w.heap.size 1) (.slice ra x.1.r.args.length rc)).setCell (zD w.heap.size 2) (.map (some q))).setCell (zD (w.heap.size+1) 0) (.bool true)) (w.heap.size+1) #[.bool true] 4:=Ac.set1R (Ac.setOther (Ac.setOther (Ac.setOther bq.o 0 _ (by omega)) 1 _ (by omega)) 2 _ (by omega));have bE:((((V.setCell (zD w.heap.size 0) (.string x.1.r.name)).setCell (zD w.heap.size 1) (.slice ra x.1.r.args.length rc)).setCell (zD w.heap.size 2) (.map (some q))).setCell (zD (w.heap.size+1) 0) (.bool true)).heap.size=W.heap.size+1:=by simp[World.setCell]; omega
  have aC:((((V.setCell (zD w.heap.size 0) (.string x.1.r.name)).setCell (zD w.heap.size 1) (.slice ra x.1.r.args.length rc)).setCell (zD w.heap.size 2) (.map (some q))).setCell (zD (w.heap.size+1) 0) (.bool true)).os=W.os/\((((V.setCell (zD w.heap.size 0) (.string x.1.r.name)).setCell (zD w.heap.size 1) (.slice ra x.1.r.args.length rc)).setCell (zD w.heap.size 2) (.map (some q))).setCell (zD (w.heap.size+1) 0) (.bool true)).tape=W.tape/\((((V.setCell (zD w.heap.size 0) (.string x.1.r.name)).setCell (zD w.heap.size 1) (.slice ra x.1.r.args.length rc)).setCell (zD w.heap.size 2) (.map (some q))).setCell (zD (w.heap.size+1) 0) (.bool true)).output=W.output:=(by simp only[kQ,kR,kS];exact aB.o);generalize ((((V.setCell (zD w.heap.size 0) (.string x.1.r.name)).setCell (zD w.heap.size 1) (.slice ra x.1.r.args.length rc)).setCell (zD w.heap.size 2) (.map (some q))).setCell (zD (w.heap.size+1) 0) (.bool true))=W3 at *;have kF:∀b,b<W.heap.size->b≠w.heap.size+3->b≠w.heap.size->b≠w.heap.size+1->(W3.putObj (w.heap.size+3) (.loop rd)).heap[b]? = W.heap[b]? := λb h0 h1 h2 h3=>(World.putObj_heap_other h1).trans ((k3 b h2 h3).trans (bo.o b h0 h1));have ar:∀b,G b->b<W.heap.size/\b≠w.heap.size+3/\b≠w.heap.size/\b≠w.heap.size+1:=λb hb=>by have:=(H.o b hb).1; omega
  refine⟨(k3 _ (by omega) (by omega)).trans bn.o,f,⟨v.o,bl.o,by simp; omega,λb hb=>(kF b (ar b hb).1 (ar b hb).2.1 (ar b hb).2.2.1 (ar b hb).2.2.2).trans (HC.o b hb),World.putObj_heap_same (by omega),by simp; omega,by simp; omega,λh=>by cases h⟩,⟨aC.1,aC.2.1,aC.2.2,by simp; omega,λb hb hn=>kF b hb (λe=>hn ((v.o b).2 (Ad e))) (λe=>hn ((v.o b).2 (Ae (Ad e)))) (λe=>hn ((v.o b).2 (Ae (Ae (Ad e)))))⟩,(λb hb=>Ad hb),λ_=>?_⟩;refine⟨x,#[.string x.1.r.name,.slice ra x.1.r.args.length rc,.map (some q)],Z,aA.o,(World.putObj_heap_other (by omega)).trans bt,(World.putObj_heap_other (by omega)).trans bu,J.o _ λb hb=>?_,λb hb=>?_⟩
  ·have h:=aV.o b hb;exact kF b h.1 h.2.1 h.2.2.1 h.2.2.2.1
  ·have h:=aV.o b hb;exact⟨by simp; omega,h.2.2.2.2⟩
 have aW:(JF (α:=Ft) w.heap.size (w.heap.size+1) (w.heap.size+3) 160 #[.string ⟨#[]⟩,zB,.map none] G r rd j) [] true (λb=>b=w.heap.size+3∨b=w.heap.size∨b=w.heap.size+1∨G b) j:=⟨λb=>Iff.rfl,λb hb=>by have:=(H.o b hb).1; omega,Ai _,λb _=>rfl,H3.o,by omega,by omega,λ_=>⟨rfl,H0.o,H1.o⟩⟩;have aX:∀b,X b->b<j.heap.size/\¬(b=w.heap.size+3∨b=w.heap.size∨b=w.heap.size+1∨G b):=λb hb=>by
  have h:=HX.o b hb;refine⟨by omega,λh2=>?_⟩;rcases h2 with h2|h2|h2|h2
  ·omega
  ·omega
  ·omega
  ·exact h.2 h2
 refine(XI JF.ok (w.heap.size+3) RH rs B R T uv aa ca [] _ j X (HR.o.below k.o HR.o.lt) (HU.o.later k.o) (HT.o.below k.o HT.o.lt) (HS.o.later k.o) aX (λh=>by
  have hlt:=HR.o.lt;rcases h with h|h|h|h
  ·omega
  ·omega
  ·omega
  ·exact(H.o _ h).2.1 rfl) (λh=>by
  have hlt:=HT.o.lt;rcases h with h|h|h|h
  ·omega
  ·omega
  ·omega
  ·exact(H.o _ h).2.2 rfl) aW (by simp)).mono ?_
 rintro e c ⟨al,s,⟨m,f',hm,aD,hj,he,bw⟩,hS⟩;rw[D9]at hj;obtain⟨bx,bz,bF,aY,b1,bG,bH,aE⟩:=hj;have aF : Hid (c.heap[w.heap.size + 2]? = some (.deferred (some []))) := (he.block _ (by omega) (λh => by
  rcases h with (h|h|h|h)|h
  ·omega
  ·omega
  ·omega
  ·have:=(H.o _ h).1; omega
  ·exact h)).trans H2.o
 have aZ:Hid (∀b,b<w.heap.size->c.heap[b]? = w.heap[b]?):=λb hb=>by
  by_cases hg:G b
  ·exact(aY b hg).trans (k.o.block b hb)
  ·exact (he.block b (by omega) (λh => by
    rcases h with (h|h|h|h)|h
    ·omega
    ·omega
    ·omega
    ·exact hg h
    ·exact h)).trans (k.o.block b hb)
 have ab:Hid (c.os=w.os/\c.tape=w.tape/\c.output=w.output):=⟨he.os.trans k.o.os,he.tape.trans k.o.tape,he.output.trans k.o.output⟩;have aG:=Aa b1;have aH:=Aa al;clear he bw aW aX RH al au av aw ax ay az a6 bx bz aY;refine⟨aH.o,?_⟩;cases s with
 |true=>
  left;refine⟨aG.o,?_⟩;obtain⟨aI,z,A⟩:=aE rfl;have em:=aD rfl;subst em;rw[E5]at aI;have b2:=Aa aI;clear aI aD hm hS aE;have g:∀b,b≠w.heap.size+3->(c.putObj (w.heap.size+3) (.loop { r with state:=.exhausted})).heap[b]? = c.heap[b]? := λb h=>World.putObj_heap_other h;have zg:(c.putObj (w.heap.size+3) (.loop { r with state:=.exhausted})).heap.size=c.heap.size:=by simp
  have t:(c.putObj (w.heap.size+3) (.loop { r with state:=.exhausted})).os=c.os/\(c.putObj (w.heap.size+3) (.loop { r with state:=.exhausted})).tape=c.tape/\(c.putObj (w.heap.size+3) (.loop { r with state:=.exhausted})).output=c.output:=⟨rfl,rfl,rfl⟩;generalize (c.putObj (w.heap.size+3) (.loop { r with state:=.exhausted}))=d at *;have D:Ac d w.heap.size #[.string ⟨#[]⟩,zB,.map none] 160:=(g _ (by omega)).trans z;have q1:Ac d (w.heap.size+1) #[.bool false] 4:=(g _ (by omega)).trans A;have M:d.heap[w.heap.size+2]? = some (.deferred (some [])):=(g _ (by omega)).trans aF.o;have qb:Below w.heap.size w d:=⟨t.1.trans ab.o.1,t.2.1.trans ab.o.2.1,t.2.2.trans ab.o.2.2,by omega,λb hb=>(g b (by omega)).trans (aZ.o b hb)⟩;clear g t z A;have a0:=D.c0;have a1:=D.c1;have a2:=D.c2;have af:=D.frozen;have b0:=q1.c0;have bf:=q1.frozen;have Q0:Ac ((((d.setCell (zD w.heap.size 0) (.string ⟨#[]⟩)).setCell (zD w.heap.size 1) zB).setCell (zD w.heap.size 2) (.map none)).setCell (zD (w.heap.size+1) 0) (.bool false)) w.heap.size #[.string ⟨#[]⟩,zB,.map none] 160:=(by refine Ac.setOther ?_ _ _ (by omega);exact((D.set 0 (.string ⟨#[]⟩)).set 1 zB).set 2 (.map none));have Q1:Ac ((((d.setCell (zD w.heap.size 0) (.string ⟨#[]⟩)).setCell (zD w.heap.size 1) zB).setCell (zD w.heap.size 2) (.map none)).setCell (zD (w.heap.size+1) 0) (.bool false)) (w.heap.size+1) #[.bool false] 4:=Ac.set1R (Ac.setOther (Ac.setOther (Ac.setOther q1 0 _ (by omega)) 1 _ (by omega)) 2 _ (by omega));have QD:((((d.setCell (zD w.heap.size 0) (.string ⟨#[]⟩)).setCell (zD w.heap.size 1) zB).setCell (zD w.heap.size 2) (.map none)).setCell (zD (w.heap.size+1) 0) (.bool false)).heap[w.heap.size+2]? = some (.deferred (some [])):=(by rw[Aq _ _ _ _ (by simp)];rw[Aq _ _ _ _ (by simp)]; rw[Aq _ _ _ _ (by simp)]; rw[Aq _ _ _ _ (by simp)];exact M);have QB:Below w.heap.size w ((((d.setCell (zD w.heap.size 0) (.string ⟨#[]⟩)).setCell (zD w.heap.size 1) zB).setCell (zD w.heap.size 2) (.map none)).setCell (zD (w.heap.size+1) 0) (.bool false)):=((((qb.setCell (by simp) _).setCell (by simp) _).setCell (by simp) _).setCell (by simp) _);have b3:=Aa Q0;have b4:=Aa Q1;have aJ:=Aa QD;have N:=Aa QB;have br:w.heap.size<d.heap.size:=by omega
  have bs:w.heap.size+1<d.heap.size:=by omega
  clear Q0 Q1 QD QB D q1 M qb;gi_wp2
  clear a0 a1 a2 af bf b0;generalize ((((d.setCell (zD w.heap.size 0) (.string ⟨#[]⟩)).setCell (zD w.heap.size 1) zB).setCell (zD w.heap.size 2) (.map none)).setCell (zD (w.heap.size+1) 0) (.bool false))=Wh at *;have E:Ac (Wh.putObj (w.heap.size+2) (.deferred none)) w.heap.size #[.string ⟨#[]⟩,zB,.map none] 160:=(World.putObj_heap_other (by omega)).trans b3.o;have E1:Ac (Wh.putObj (w.heap.size+2) (.deferred none)) (w.heap.size+1) #[.bool false] 4:=(World.putObj_heap_other (by omega)).trans b4.o;have EB:Below w.heap.size w (Wh.putObj (w.heap.size+2) (.deferred none)):=⟨N.o.os,N.o.tape,N.o.output,by simp; exact N.o.size,λb hb=>(World.putObj_heap_other (by omega)).trans (N.o.block b hb)⟩;refine⟨by simp,.inl ⟨_,_,rfl,run_takeDeferred aJ.o,?_⟩⟩;refine⟨.tuple #[.agg #[.string ⟨#[]⟩,zB,.map none],.bool false],?_,EB,Ad ⟨b2.o,rfl⟩⟩;have e0:=E.cell 0;have F:=E.cell 1;have e2:=E.cell 2;have h2:=E1.cell 0;simp[results,results114,go_sem,e0,F,e2,h2]
 |false=>
  right;refine⟨by rw[<-a7]; exact aG.o,?_⟩;obtain⟨y,cs,Z,ba,z,A,O,I⟩:=hS rfl;have aA:=Aa ba;have J:=Aa O;have U:=Aa I;have HA:=Aa z;have HB:=Aa A;clear ba O I aD hm hS aE z A;have ao:Hid (∃ra rc q,cs=#[.string y.1.r.name,.slice ra y.1.r.args.length rc,.map (some q)]/\Gi y #[.agg cs] c Z):=by
   have h0:=J.o;obtain⟨ra,rc,q,Lm,F,_⟩:=J.o;simp at F;exact⟨ra,rc,q,F,h0⟩
  obtain⟨ra,rc,q,rfl,b5⟩:=ao.o;clear b5 ao;have g:∀b,b≠w.heap.size+3->(c.putObj (w.heap.size+3) (.loop { r with state:=.exhausted,pending:=some .ret})).heap[b]? = c.heap[b]? := λb h=>World.putObj_heap_other h;have zg:(c.putObj (w.heap.size+3) (.loop { r with state:=.exhausted,pending:=some .ret})).heap.size=c.heap.size:=by simp
  have t:(c.putObj (w.heap.size+3) (.loop { r with state:=.exhausted,pending:=some .ret})).os=c.os/\(c.putObj (w.heap.size+3) (.loop { r with state:=.exhausted,pending:=some .ret})).tape=c.tape/\(c.putObj (w.heap.size+3) (.loop { r with state:=.exhausted,pending:=some .ret})).output=c.output:=⟨rfl,rfl,rfl⟩;generalize (c.putObj (w.heap.size+3) (.loop { r with state:=.exhausted,pending:=some .ret}))=d at *;have M:d.heap[w.heap.size+2]? = some (.deferred (some [])):=(g _ (by omega)).trans aF.o;have bb:=kU J.o;have kb:∀b,Z b/\Iy c b->(d.putObj (w.heap.size+2) (.deferred none)).heap[b]? = c.heap[b]? := λb hb=>(World.putObj_heap_other (λe=>hb.2.2 _ ((Bx (λi=>c.heap[i]?) e).trans aF.o))).trans (g b (λe=>hb.2.1 _ ((Bx (λi=>c.heap[i]?) e).trans aG.o)));have b6:=Aa (kW bb kb);have b7:Hid (∀b,Z b/\Iy c b->b<(d.putObj (w.heap.size+2) (.deferred none)).heap.size/\¬G b):=λb hb=>⟨by have:=(U.o b hb.1).1; simp; omega,(U.o b hb.1).2⟩;have E:Ac (d.putObj (w.heap.size+2) (.deferred none)) w.heap.size #[.string y.1.r.name,.slice ra y.1.r.args.length rc,.map (some q)] 160:=(World.putObj_heap_other (by omega)).trans ((g _ (by omega)).trans HA.o);have E1:Ac (d.putObj (w.heap.size+2) (.deferred none)) (w.heap.size+1) #[.bool true] 4:=(World.putObj_heap_other (by omega)).trans ((g _ (by omega)).trans HB.o);have EB:Below w.heap.size w (d.putObj (w.heap.size+2) (.deferred none)):=⟨t.1.trans ab.o.1,t.2.1.trans ab.o.2.1,t.2.2.trans ab.o.2.2,by simp; omega,λb hb=>(World.putObj_heap_other (by omega)).trans ((g b (by omega)).trans (aZ.o b hb))⟩;have aK:=Aa E;have b8:=Aa E1;have b9:=Aa EB;have aJ:=Aa M;clear E E1 EB M kb bb g t;gi_wp2
  refine⟨by simp,.inl ⟨_,_,rfl,run_takeDeferred aJ.o,?_⟩⟩;refine⟨.tuple #[.agg #[.string y.1.r.name,.slice ra y.1.r.args.length rc,.map (some q)],.bool true],?_,b9.o,Ae ⟨y,_,_,aA.o,rfl,b6.o,b7.o⟩⟩;have e0:=aK.o.cell 0;have F:=aK.o.cell 1;have e2:=aK.o.cell 2;have h2:=b8.o.cell 0;simp[results,results114,go_sem,e0,F,e2,h2]
def LY (k s:Nat):Prop:=k<=4001/\(s<=2000->k=s)/\(2000<s->2000<k)
def lD (n:Nat) (x:Tm) (w:World) (e:Ending) (w':World):Prop:=∃k:Nat,e=.returned (zA k)/\LY k (n+Ab [x])/\Below w.heap.size w w'
def lE (n:Nat) (ls:List Bd) (l:List Tm) (w:World) (m i:Value) (wr:World):Prop:=∃k j:Nat,k<=l.length/\i=zA k/\m=zA j/\LY j (n+1+Ab (gL ls (l.take k)))/\(2000<j->k=l.length∨True)/\Below w.heap.size w wr
theorem Uz (ls:List Bd) (L:List (ByteArray×Value)) (f:ByteArray) (ra:Option Addr) (g rc q:Nat) (t:Tm):∀(a:Option Addr) (c n:Nat) (w:World) (X:Nat->Prop),Sl w X a t.args->Fv w q X ls L->n<=2000->
  Calls prog 116 #[.agg #[.string f,.slice ra g rc,.map (some q)],.agg (zF t a c),zA n] w λe w'=>lD n (gT ls t) w e w':=by
 induction t using Tm.ind with
 |h s l J=>
  intro a c n w X hs u hn;have U:=Aa J;clear J;have hz:∀w',(zeroValue 33).run prog w'=.ok (.agg #[.string ⟨#[]⟩,zB]) w':=λw'=>zeroValue33 w';have v:=u.1;have hP:=u.2;have B:=λo o':Obj=>(v.kept (AL w o _ v.lt)).kept (AL (w.alloc o) o' _ (by have:=v.lt; simp; omega));cases r:As ls s with
  |some x=>
   obtain⟨a1,c1,y,M⟩:=(hP.get s).2 x r;have ab:∀o o',(Instr.lookup 110 (.map (some q)) (.string s) true).run prog ((w.alloc o).alloc o')=.ok (.tuple #[.agg (zF x a1 c1),.bool true]) ((w.alloc o).alloc o'):=λo o'=>by
    rw[E9 (P:=prog) underlying110 underlying9 (hz _) (B o o') s,y]; rfl
   have G:Hid (gT ls ⟨s,l⟩=x):=Q6 r;have V:=Aa M;clear r y M B hP v u hs;rw[G.o];go_enter func116,ntmps116;go_wp2_with fail;refine(IK 2000 (by omega) (by omega) x _ _ X ⟨a1,c1,rfl,V.o.later (Fr _ _ _)⟩).mono ?_;rintro e w1 ⟨rfl,A⟩;have C:=Aa A;clear A;obtain⟨z,D⟩:∃z:Nat,min (Ab [x]:Int) (2000+1)=(z:Int)/\z=min (Ab [x]) 2001:=⟨min (Ab [x]) 2001,by omega,rfl⟩;rw[D.1];have N:=Aa D.2;have a7:z<=2001:=by rw[D.2]; omega
   clear D;go_wp2_with fail;go_ret;exact⟨n+z,BI (by omega),⟨by omega,λh=>by have:=N.o; omega,λh=>by have:=N.o; omega⟩,(Fr _ _ _).trans (C.o.mono (by simp; omega))⟩
  |none=>
   have y:=(hP.get s).1 r;have ab:∀o o',(Instr.lookup 110 (.map (some q)) (.string s) true).run prog ((w.alloc o).alloc o')=.ok (.tuple #[.agg #[.string ⟨#[]⟩,zB],.bool false]) ((w.alloc o).alloc o'):=λo o'=>by
    rw[E9 (P:=prog) underlying110 underlying9 (hz _) (B o o') s,y]; rfl
   have G:Hid (gT ls ⟨s,l⟩=⟨s,gL ls l⟩):=Q7 r;have O:Hid (Ab [(⟨s,gL ls l⟩:Tm)]=1+Ab (gL ls l)):=(by simp[Hid,Ab]);have W:=Aa hs;have Y:=Aa u;have hl:=hs.1;clear r y B hP v u hs;rw[G.o];go_enter func116,ntmps116;go_wp2_with fail;have Z:=Aa (Fr (w:=w) (.cells #[.string f,.slice ra g rc,.map (some q)] 160) (.cells #[.string s,.slice a l.length c] 33) (.cells #[.string ⟨#[]⟩,zB] 33));have ar:Hid (Ac (((w.alloc (.cells #[.string f,.slice ra g rc,.map (some q)] 160)).alloc (.cells #[.string s,.slice a l.length c] 33)).alloc (.cells #[.string ⟨#[]⟩,zB] 33)) w.heap.size #[.string f,.slice ra g rc,.map (some q)] 160):=((Ac.new w _ _).alloc _).alloc _;generalize (((w.alloc (.cells #[.string f,.slice ra g rc,.map (some q)] 160)).alloc (.cells #[.string s,.slice a l.length c] 33)).alloc (.cells #[.string ⟨#[]⟩,zB] 33))=w0 at *;go_loopw [9,30] (λm i wr=>lE n ls l w m i wr/\Ac wr w.heap.size #[.string f,.slice ra g rc,.map (some q)] 160) (λm i wr=>l.length-(intOf i).toNat);case atStart=>exact⟨⟨0,n+1,AG _,rfl,by go_num,⟨by omega,λh=>by simp[gL,Ab],λh=>by simp[gL,Ab] at h; omega⟩,λ_=>Ae trivial,Z.o⟩,ar.o⟩
   case round=>
    obtain⟨⟨k,j,hk,rfl,rfl,H,_,hb⟩,aa⟩:=hrel;have d:=Aa hb;have E:=Aa H;have au:=Aa aa;have hj:j<=4001:=H.1;clear H;by_cases I:k<l.length
    ·obtain⟨b,o,a',c',rfl,d0,d1,hx⟩:=W.o.get hb (λ_ _ h=>h) k I;have HX:=Aa hx;have av:=Aa (YD ls l k I);have aw:=Aa (YE ls l k);have ax:=Aa (AN I);have ay:(k:Int)<(l.length:Int):=(by omega);have f0:=aa.c0;have f1:=aa.c1;have f2:=aa.c2;have a8:=aa.lt;clear hx hb aa;by_cases hle:j<=2000
     ·have ak:¬((2000:Int)<(j:Int)):=(by omega);go_wp2_with fail;refine(U.o _ ax.o _ _ j _ X (by obtain⟨a2,c2,e2,h2⟩:=HX.o.alloc _; cases e2; exact h2) ((Y.o.later d.o).later ((Af _ _).alloc (Ai _) _)) hle).mono ?_;rintro e w1 ⟨k2,rfl,R,A⟩;have C:=Aa A;have az:=Aa R;clear A R d0 d1 f0 f1 f2;go_wp2_with fail;go_roundw
      case rel=>
       refine⟨⟨k+1,k2,by omega,by go_num,rfl,?_,λ_=>Ae trivial,(d.o.alloc d.o.size _).trans (C.o.mono (by simp; have:=d.o.size; omega))⟩,(au.o.alloc _).below C.o (by simp; omega)⟩;obtain⟨x1,x2,x3⟩:=az.o;obtain⟨T,F,y3⟩:=E.o;rw[av.o];refine⟨x1,λh=>?_,λh=>?_⟩
       ·have:=F (by omega); subst this; rw[x2 (by omega)]; omega
       ·by_cases h4:n+1+Ab (gL ls (l.take k))<=2000
        ·have:=F h4; subst this; exact x3 (by omega)
        ·have:=y3 (by omega); omega
      case measure=>simp[intOf]; omega
     ·have ak:(2000:Int)<(j:Int):=(by omega);go_wp2_with fail;go_ret;refine⟨j,rfl,?_,d.o.alloc d.o.size _⟩;obtain⟨T,F,y3⟩:=E.o;rw[O.o];have h5:=aw.o;refine⟨T,λh=>?_,λh=>by omega⟩;have:=F (by omega);omega
    ·have a6:l.take k=l:=AX (by omega);rw[a6]at E;clear aa;go_wp2_with fail;go_ret;refine⟨j,rfl,?_,d.o⟩;rw[O.o,<-Jy];exact E.o
