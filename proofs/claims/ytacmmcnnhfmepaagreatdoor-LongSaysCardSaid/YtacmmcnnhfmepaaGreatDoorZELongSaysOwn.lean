/- Several texts in one. -/
import Derived.Test.YtacmmcnnhfmepaaGreatDoorZDLongSaysOwn
import Derived.Deep.AppendSrc
import Derived.Deep.AppendLies
import Derived.Laws.EntriesVeiled
namespace Go.Proofs.YtacmmcnnhfmepaaGreatDoor
set_option linter.all false
set_option maxRecDepth 20000
set_option maxHeartbeats 8000000
open Go.RowKit Go.Proofs.Tryz
theorem Sl.grown {w w':World} {X:Nat->Prop} {a:Option Addr} {l:List Tm} {r:Option Nat} (h:Sl w X a l) (c:w.grownBy w' r) (d:∀b,X b->some b≠r):Sl w' X a l:=by
 have h1:Sl w (λb=>X b/\b<w.heap.size) a l:=h.mono λb h1 h2=>⟨h1,h2⟩;have h2:Sl w' (λb=>X b/\b<w.heap.size) a l:=h1.kept λb hx=>c.block b hx.2 (d b hx.1);exact h2.mono λb hx _=>hx.1
theorem Gc.lv {d w1:World} {B:Nat} {e a:Value} {c:List ByteArray} (h:Gc d B e c a w1):LV Value.string w1 (λb=>B<=b) a c:=LV.of_own h.1
theorem Gc.refl {w:World} {B:Nat} {q:Value} {acc:List ByteArray} (h:w.ownsRow B 9 1 q acc.length (acc.map Value.string)):Gc w B q acc q w:=
 ⟨h,Lp (Ac _ _) _,λ_ h=>Ad h⟩
theorem WR {P:Program} {w:World} {T a b:TypeId} {r:Nat} {L:List (ByteArray×Value)} (hm:P.underlying T=some (.map a b)) (h:BC w r L) (ty:TypeId):(Builtin.len_ #[T] ty #[.map (some r)]).run P w=.ok (zA (L.length:Int)) w:=by
 obtain⟨es,aa,hb,he,_⟩:=h;have c:es.size=L.length:=by have:=Dl List.length he; simpa using this
 simp[Builtin.len_,Fj hm,Gp hb,goInt,Result.andThen,c]
def DU:Nat->List ByteArray->List (ByteArray×Value)
 |_,[]=>[]
 |k,n::r=>(n,zA k)::DU (k+1) r
theorem Rb:∀(k:Nat) (a:List ByteArray),(DU k a).length=a.length
 |_,[]=>rfl
 |k,n::r=>by simp[DU,Rb (k+1) r]
theorem Rc {s:ByteArray}:∀ {l:List ByteArray},Bz s l<l.length->s∈l
 | [],h=>by simp[Bz] at h
 |n::r,h=>by
  rw[Bz]at h;split at h
  ·rename_i e; simp[e]
  ·exact List.mem_cons_of_mem _ (Rc (by simp at h; omega))
theorem Rd (s:ByteArray):∀(k:Nat) (a:List ByteArray),BG (DU k a) s=if Bz s a<a.length then some (zA ((k+Bz s a:Nat):Int)) else none
 |_,[]=>by simp[DU,BG]
 |k,n::r=>by
  have b:=Rd s (k+1) r;by_cases h:n=s
  ·have e:Bz s (n::r)=0:=(by simp[Bz,h]);rw[Aq (show Bz s (n::r)<(n::r).length by rw[e]; simp),e];simp[DU,BG,h]
  ·have e:Bz s (n::r)=Bz s r+1:=(by simp[Bz,h]);have e2:BG (DU k (n::r)) s=BG (DU (k+1) r) s:=(by simp[DU,BG,h]);rw[e2,b];by_cases h2:Bz s r<r.length
   ·rw[Aq h2,Aq (show Bz s (n::r)<(n::r).length by rw[e]; simp; omega),e];rw[show k+1+Bz s r=k+(Bz s r+1) by omega]
   ·rw[Am h2,Am (show ¬Bz s (n::r)<(n::r).length by rw[e]; simp; omega)]
theorem Re (s:ByteArray):∀(k:Nat) (a:List ByteArray),DU k (a++[s])=DU k a++[(s,zA ((k+a.length:Nat):Int))]
 |k,[]=>by simp[DU]
 |k,n::r=>by
  simp only[Di,DU,Re s (k+1) r,Cg];rw[show k+1+r.length=k+(r.length+1) by omega]
theorem WT {a:List ByteArray} (r:List ByteArray) (l:List Tm):(∀k∈Aw l,k.args=[]->k.name∈a)->DT (a++r) l=DT a l:=by
 induction l using Tm.indL with
 |h0=>intro _; simp[DT]
 |h s l q b c=>
  intro h;simp only[DT];rw[b λk hk=>h k (by simp[Aw,hk]),c λk hk=>h k (by simp[Aw,hk])];congr 1
  unfold GT;by_cases h0:l.length=0
  ·rw[Aq h0,Aq h0,Qx r (h ⟨s,l⟩ (by simp[Aw]) (GJ.1 h0))]
  ·rw[Am h0,Am h0]
theorem WU {a:List ByteArray} (r:List ByteArray) {t:Tm} (h:∀k∈Aw [t],k.args=[]->k.name∈a):Ck (a++r) t=Ck a t:=by
 have h1:=WT r [t] h;rw[Gz,Gz,H4,H4]at h1;exact(List.cons.inj h1).1
theorem Rf (l:List Tm):AW l->∀b,∀k∈Aw l,k.args=[]->k.name∈AR b (Aw l):=by
 intro hk b;have key:∀(a:List Tm) (acc:List ByteArray),(∀k∈a,LR k.name k.args)->(∀y∈acc,y∈AR acc a)/\∀k∈a,k.args=[]->k.name∈AR acc a:=by
  intro a;induction a with
  |nil=>intro acc _; exact⟨λy hy=>by simpa [AR] using hy,λk hk=>by simp at hk⟩
  |cons x q d=>
   intro acc hq;have h1:=d (CH acc x.name) λk hk=>hq k (by simp[hk]);rw[show AR acc (x::q)=AR (CH acc x.name) q from rfl];refine⟨λy hy=>h1.1 y (WC hy),λk hk c=>?_⟩;rcases Cn.1 hk with rfl|hk
   ·rcases hq k (by simp) with ⟨e,_⟩|⟨_,e⟩
    ·exact h1.1 _ (WB e)
    ·rw[c]at e; simp at e
   ·exact h1.2 k hk c
 exact(key (Aw l) b hk).2
theorem WV (c:List ByteArray) (a b:Tm):AR c (Aw [Bs a b])=AR (AR c (Aw [a])) (Aw [b]):=by
 have h:Av ⟨#[102]⟩=false:=by decide
 have e:Aw [Bs a b]=⟨⟨#[102]⟩,[a,b]⟩::(Aw [a]++Aw [b]):=(by have h1:Aw [a,b]=Aw [a]++Aw [b]:=(by have:=KW [a] [b];simpa using this);simp only[Bs,Aw,h1,List.append_nil]);rw[e,show AR c (⟨⟨#[102]⟩,[a,b]⟩::(Aw [a]++Aw [b]))=AR (CH c ⟨#[102]⟩) (Aw [a]++Aw [b]) from rfl,Ll h,Pt]
theorem Rg (a:List ByteArray) (s:ByteArray):AR a (Aw [(⟨s,[]⟩:Tm)])=CH a s:=by simp[Aw,AR]
theorem Jh (a:List ByteArray) (s:ByteArray):Ck a ⟨s,[]⟩=⟨(Bz s a:Nat),[]⟩:=by simp[Ck,GT]
theorem Rh (c:List ByteArray) (a b:Tm):Ck c (Bs a b)=⟨0,[Ck c a,Ck c b]⟩:=by simp[Ck,GT,Bs,Gz,H4]
theorem Ri {t:Tm} (h:AW [t]):(Av t.name=true/\t=⟨t.name,[]⟩)∨∃a b,t=Bs a b/\AW [a]/\AW [b]:=by
 obtain⟨s,l⟩:=t;obtain⟨h1,h2⟩:=AW.one.1 h;rcases h1 with ⟨e1,e2⟩|⟨e1,e2⟩
 ·have e3:l=[]:=e2;subst e3;exact Ad ⟨e1,rfl⟩
 ·have e3:s=⟨#[102]⟩:=e1;subst e3;match l,e2,h2 with
  | [a,b],_,h2=>have h3:=AW.all.1 h2;exact Ae ⟨a,b,rfl,h3 a (by simp),h3 b (by simp)⟩
theorem Rj {w:World} {X:Nat->Prop} {a:Option Addr} {p r:Tm} (h:Sl w X a [p,r]):
  ∃b' o' d c1 a2 c2,a=some (zD b' o')/\∀w' Q,Ak Q w w'->(∀b,X b->¬Q b)->(w'.cell? (zD b' o')=some (.string p.name)/\w'.cell? ⟨b',o'+1,none⟩=some (.slice d p.args.length c1)/\w'.cell? ⟨b',o'+2,none⟩=some (.string r.name)/\w'.cell? ⟨b',o'+2+1,none⟩=some (.slice a2 r.args.length c2))/\TV w' X (.agg (zG p d c1)) p/\TV w' X (.agg (zG r a2 c2)) r:=by
 obtain⟨c,i,d,c1,rfl,d0,d1,⟨x1,y1,e1,j⟩⟩:=h.get (Ac w.heap.size w) (λ_ _ h=>h) 0 (by simp);obtain⟨b2,o2,a2,c2,e2,d2,d3,⟨x2,y2,e3,k⟩⟩:=h.get (Ac w.heap.size w) (λ_ _ h=>h) 1 (by simp);cases e2;cases e1;cases e3;have m:X c:=by
  rcases h.2 with h0|⟨b,o,e,g⟩
  ·simp at h0
  ·cases e;obtain⟨s,l⟩:=p;simp only[DN] at g;exact g.1
 have n:c<w.heap.size:=(by apply El;intro hn;have e:w.heap[c]? = none:=Ij (by omega);simp[World.cell?,e]at d0);refine⟨c,i,d,c1,a2,c2,rfl,λw' Q he f=>⟨?_,⟨d,c1,rfl,j.exq he f⟩,⟨a2,c2,rfl,k.exq he f⟩⟩⟩;have e:∀o,w'.cell? (zD c o)=w.cell? (zD c o):=λo=>DC (he.block c n (f c m));rw[e,e,e,e];exact⟨by simpa using d0,by simpa using d1,by simpa using d2,by simpa using d3⟩
theorem Rk {w:World} {Y:Nat->Prop} {g T c c2:Nat} {a a2:Option Addr} {f x:Ty} (b:Ab w g #[zA f.base,.slice a f.subs.length c,zA x.base,.slice a2 x.subs.length c2] T) (d:Y g) (h1:AM w Y a f.subs) (h2:AM w Y a2 x.subs):AM w Y (some (zD g 0)) [f,x]:=by
 obtain⟨s,l⟩:=f;obtain⟨s2,l2⟩:=x;refine⟨by simp,Ae ⟨g,0,rfl,?_⟩⟩;simp only[Dy];exact⟨d,b.cell 0,⟨a,c,b.cell 1,h1⟩,d,b.cell 2,⟨a2,c2,b.cell 3,h2⟩,trivial⟩
theorem AM.exq {w w':World} {Q X:Nat->Prop} {a:Option Addr} {l:List Ty} (h:AM w X a l) (he:Ak Q w w') (c:∀b,X b->¬Q b):AM w' X a l:=
 ((h.mono (Y:=λb=>X b/\b<w.heap.size) λb h1 h2=>⟨h1,h2⟩).kept λb hb=>he.block b hb.2 (c b hb.1)).mono λb hb _=>hb.1
theorem BC.exq {w w':World} {Q:Nat->Prop} {r:Nat} {L:List (ByteArray×Value)} (h:BC w r L) (he:Ak Q w w') (a:¬Q r):BC w' r L:=h.kept (he.block r h.lt a)
def Rl (t:Tm) (ns:List ByteArray) (r:Nat) (w:World) (e:Ending) (w':World):Prop:=
 ∃a c,e=.returned (.agg #[zA (Ck (AR ns (Aw [t])) t).base,.slice a (Ck (AR ns (Aw [t])) t).subs.length c])/\AM w' (λb=>w.heap.size<=b) a (Ck (AR ns (Aw [t])) t).subs/\BC w' r (DU 0 (AR ns (Aw [t])))/\Ak (λb=>b=r) w w'
theorem WX (t:Tm):∀(f:List ByteArray) (v:Value) (r:Nat) (w:World) (X:Nat->Prop),AW [t]->TV w X v t->(∀b,X b->b≠r)->BC w r (DU 0 f)->f.length+Ah [t]<=100000->
  Calls prog 90 #[v,.map (some r)] w λe w'=>Rl t f r w e w':=by
 induction t using Tm.ind with
 |h g L ih=>
  intro f v r w X hk hv hX hM hz;have IH:=Aa ih;clear ih;obtain⟨a,c,rfl,hs⟩:=hv;have aW:=hM.lt;have W:=Aa hX;have H:Hid (Below w.heap.size w ((w.alloc (.cells #[.string g,.slice a L.length c] 61)).alloc (.cells #[zA 0,zB] 27))):=((Ac _ _).alloc (Ag _) _).alloc (by simp) _;have Y:Hid (Ab ((w.alloc (.cells #[.string g,.slice a L.length c] 61)).alloc (.cells #[zA 0,zB] 27)) w.heap.size #[.string g,.slice a L.length c] 61):=(Ab.new _ _ _).alloc _;have A:Hid (Ab ((w.alloc (.cells #[.string g,.slice a L.length c] 61)).alloc (.cells #[zA 0,zB] 27)) (w.heap.size+1) #[zA 0,zB] 27):=by have h:=Ab.new (w.alloc (.cells #[.string g,.slice a L.length c] 61)) #[zA 0,zB] 27; rw[BK] at h; exact h
  have M2:=Aa (hM.below H.o hM.lt);rcases Ri hk with ⟨hvb,ht⟩|⟨p,q,ht,M,aJ⟩
  ·have aK:L=[]:=(by injection ht);subst aK;have ah:Av g=true:=hvb;clear hk hvb ht hs IH;simp only[Ee] at *;go_enter func90,ntmps90;go_upto_region 1 with fail;generalize ((w.alloc (.cells #[.string g,.slice a 0 c] 61)).alloc (.cells #[zA 0,zB] 27))=w2 at *;have x0:=Y.o.c0;have r0:=A.o.c0;have r1:=A.o.c1;have f0:w2.frozen? (zD (w.heap.size+1) 0)=false:=A.o.frozen 0;have f1:w2.frozen? (zD (w.heap.size+1) 1)=false:=A.o.frozen 1;have HV:=Aa (DO g w2);have an:=Aa ah;clear ah;have I:=Rd g 0 f;have ao:=zeroValue3 w2;by_cases C:g∈f
   ·rw[Aq (LU C)]at I;have J:Hid (AR f (Aw [(⟨g,[]⟩:Tm)])=f):=Aa (by rw[Rg,JX an.o (J0.2 C)]);have aL:=LU C;have ab:(Instr.lookup 134 (.map (some r)) (.string g) true).run prog w2=.ok (.tuple #[zA ((Bz g f:Nat):Int),.bool true]) w2:=by rw[Hx (P:=prog) underlying134 underlying9 ao M2.o _,I]; simp
    obtain⟨k,O⟩:∃k,k=Bz g f:=⟨_,rfl⟩;rw[<-O]at ab;have HK:=Aa O;clear O I ao C aL;go_wp2_with fail;refine HV.o.mono ?_;rintro e w3 ⟨rfl,rfl⟩;rw[an.o];go_wp2_with fail;have Z:Hid (Ab ((w3.setCell (zD (w.heap.size+1) 0) (zA k)).setCell (zD (w.heap.size+1) 1) zB) (w.heap.size+1) #[zA k,zB] 27):=(A.o.set 0 _).set 1 _;have M3:Hid (BC ((w3.setCell (zD (w.heap.size+1) 0) (zA k)).setCell (zD (w.heap.size+1) 1) zB) r (DU 0 f)):=M2.o.kept (by rw[Al _ _ _ _ (by simp; omega),Al _ _ _ _ (by simp; omega)]);have E3:Hid (Ak (λb=>b=r) w ((w3.setCell (zD (w.heap.size+1) 0) (zA k)).setCell (zD (w.heap.size+1) 1) zB)):=((Ak.ofBelow H.o).setNew (by omega) 0 _).setNew (by omega) 1 _;generalize ((w3.setCell (zD (w.heap.size+1) 0) (zA k)).setCell (zD (w.heap.size+1) 1) zB)=u at *;have c0:=Z.o.cell 0;have c1:=Z.o.cell 1;simp only[BP,BR,BQ] at c0 c1;refine Ao (v:=.agg #[zA k,zB]) (by simp[results,results90,go_sem,c0,c1]) rfl ?_;refine⟨none,0,?_,?_,?_,E3.o⟩
    ·rw[J.o,Jh,HK.o]; rfl
    ·rw[J.o,Jh]; exact⟨by simp,Ad rfl⟩
    ·rw[J.o]; exact M3.o
   ·rw[Am (λh=>C (Rc h))]at I;have J:Hid (AR f (Aw [(⟨g,[]⟩:Tm)])=f++[g]):=Aa (by rw[Rg,JW an.o (by cases h:Cd g f with|true=>exact absurd (J0.1 h) C|false=>rfl)]);have HK:Hid (f.length=Bz g (f++[g])):=(Qy C).symm;have ab:(Instr.lookup 134 (.map (some r)) (.string g) true).run prog w2=.ok (.tuple #[zA 0,.bool false]) w2:=by rw[Hx (P:=prog) underlying134 underlying9 ao M2.o _,I]; simp
    have hlen:(Builtin.len_ #[134] 3 #[.map (some r)]).run prog w2=.ok (zA (f.length:Int)) w2:=(by rw[WR underlying134 M2.o,Rb]);obtain⟨n,ai,aB,aM,aC,aD,aE,M⟩:=Lj (P:=prog) underlying134 underlying9 M2.o g (zA (f.length:Int)) I;have E4:Hid (Ak (λb=>b=r) w n):=(Ak.ofBelow H.o).trans ⟨aC,aD,aE,by omega,λb _ hn=>M b hn⟩;have M4:Hid (BC n r (DU 0 (f++[g]))):=Aa (by rw[Re,show 0+f.length=f.length by omega];exact aB);have R4:Hid (Ab n (w.heap.size+1) #[zA 0,zB] 27):=(M _ (by omega)).trans A.o;have q0:=R4.o.c0;have q1:=R4.o.c1;have g0:n.frozen? (zD (w.heap.size+1) 0)=false:=R4.o.frozen 0;have g1:n.frozen? (zD (w.heap.size+1) 1)=false:=R4.o.frozen 1;obtain⟨k,O⟩:∃k,k=f.length:=⟨_,rfl⟩;rw[<-O]at hlen ai HK;have aX:r<n.heap.size:=M4.o.lt;clear O I ao C aB aM aC aD aE M;go_wp2_with fail;refine HV.o.mono ?_;rintro e w3 ⟨rfl,aj⟩;rw[aj];rw[an.o];clear aj;go_wp2_with fail;have Z:Hid (Ab ((n.setCell (zD (w.heap.size+1) 0) (zA k)).setCell (zD (w.heap.size+1) 1) zB) (w.heap.size+1) #[zA k,zB] 27):=(R4.o.set 0 _).set 1 _;have M3:Hid (BC ((n.setCell (zD (w.heap.size+1) 0) (zA k)).setCell (zD (w.heap.size+1) 1) zB) r (DU 0 (f++[g]))):=M4.o.kept (by rw[Al _ _ _ _ (by simp; omega),Al _ _ _ _ (by simp; omega)]);have E3:Hid (Ak (λb=>b=r) w ((n.setCell (zD (w.heap.size+1) 0) (zA k)).setCell (zD (w.heap.size+1) 1) zB)):=(E4.o.setNew (by omega) 0 _).setNew (by omega) 1 _;generalize ((n.setCell (zD (w.heap.size+1) 0) (zA k)).setCell (zD (w.heap.size+1) 1) zB)=u at *;have c0:=Z.o.cell 0;have c1:=Z.o.cell 1;simp only[BP,BR,BQ] at c0 c1;refine Ao (v:=.agg #[zA k,zB]) (by simp[results,results90,go_sem,c0,c1]) rfl ?_;refine⟨none,0,?_,?_,?_,E3.o⟩
    ·rw[J.o,Jh,HK.o]; rfl
    ·rw[J.o,Jh]; exact⟨by simp,Ad rfl⟩
    ·rw[J.o]; exact M3.o
  ·injection ht with e1 e2
   subst e1;subst e2;obtain⟨b',o',a1,c1,a2,c2,rfl,aF⟩:=Rj hs;have KP:=Aa aF;clear aF hs hk;have aG:Ah [(⟨⟨#[102]⟩,[p,q]⟩:Tm)]=1+(Ah [p]+Ah [q]):=Nw p q;rw[aG]at hz;clear aG;have IP:=Aa (IH.o p (by simp));have IQ:=Aa (IH.o q (by simp));clear IH;have e2:([p,q]:List Tm).length=2:=rfl;rw[e2]at *;clear e2;have aN:Hid (Av ⟨#[102]⟩=false):=Aa (by decide);have ak:=Aa (WV f p q);have aH:=Aa (λN=>Rh N p q);change Calls prog _ _ _ (λe w'=>Rl (Bs p q) f r w e w');go_enter func90,ntmps90;go_upto_region 1 with fail;generalize ((w.alloc (.cells #[.string ⟨#[102]⟩,.slice (some (zD b' o')) 2 c] 61)).alloc (.cells #[zA 0,zB] 27))=w2 at *;have HV:=Aa (DO ⟨#[102]⟩ w2);have x0:=Y.o.c0;have x1:=Y.o.c1;obtain⟨⟨y0,y1,y2,y3⟩,hp,hq⟩:=KP.o w2 (λb=>b=r) (Ak.ofBelow H.o) W.o;go_wp2_with fail;refine HV.o.mono ?_;rintro e w3 ⟨rfl,aj⟩;rw[aj,aN.o];clear aj;go_wp2_with fail;refine(IP.o f _ r w2 X M hp W.o M2.o (by omega)).mono ?_;rintro e n ⟨a4,j,rfl,aq,av,aI⟩;obtain⟨D,ar⟩:∃D,D=AR f (Aw [p]):=⟨_,rfl⟩;rw[<-ar]at aq av ak ⊢;have aO:Hid (∀k∈Aw [p],k.args=[]->k.name∈D):=by rw[ar]; exact Rf [p] M f
   have aY:D.length<=f.length+Ah [p]:=by rw[ar]; have h:=Ln (Aw [p]) f; rw[JQ] at h; exact h
   clear ar;obtain⟨d,aw⟩:∃d,d=Ck D p:=⟨_,rfl⟩;rw[<-aw]at aq ⊢;have aP:=Aa aw;clear aw;have R:=Aa (And.intro aq (And.intro av aI));clear aq av aI y0 y1 y2 y3 hp hq x0 x1;have O5:Hid (Below n.heap.size n (n.alloc (.cells (zH d a4 j) 27))):=(Ac _ _).alloc (Ag _) _;have V5:Hid (Ab (n.alloc (.cells (zH d a4 j) 27)) n.heap.size (zH d a4 j) 27):=Ab.new _ _ _;have S5:=Aa (R.o.1.later O5.o);have M5:=Aa (R.o.2.1.below O5.o R.o.2.1.lt);have T:Hid (Ak (λb=>b=r) w2 (n.alloc (.cells (zH d a4 j) 27))):=R.o.2.2.trans (Ak.ofBelow O5.o);have A5:=Aa (Y.o.exq T.o (by omega));have R5:=Aa (A.o.exq T.o (by omega));have z:Hid (w.heap.size+1<w2.heap.size):=A.o.lt;have g24:Hid (w2.heap.size<=n.heap.size):=R.o.2.2.size;clear R O5 M2 Y A;go_upto_region 8 with fail;generalize n.heap.size=V at *;generalize n.alloc (.cells (zH d a4 j) 27)=u at *;have aQ:Hid (r<V):=Aa (by have h2:=g24.o;have h3:=z.o;omega);have KS:Hid (∀w',(Ab w' V (zH d a4 j) 27/\Ab w' w.heap.size #[.string ⟨#[102]⟩,.slice (some (zD b' o')) 2 c] 61/\Ak (λb=>b=r∨b=w.heap.size+1) w w')->(w'.cell? (zD V 0)=some (zA d.base)/\w'.cell? (zD V 1)=some (.slice a4 d.subs.length j))/\w'.cell? (zD w.heap.size 1)=some (.slice (some (zD b' o')) 2 c)/\w'.cell? ⟨b',o'+2,none⟩=some (.string q.name)/\w'.cell? ⟨b',o'+2+1,none⟩=some (.slice a2 q.args.length c2)):=λw' h=>by
    have h1:=(KP.o w' (λb=>b=r) (h.2.2.mono λi hi hlt=>hi.elim id (λe=>by omega)) W.o).1;exact⟨⟨h.1.cell 0,h.1.cell 1⟩,h.2.1.cell 1,h1.2.2.1,h1.2.2.2⟩
   have EW:Hid (∀w',Ak (λb=>b=r) w2 w'->Ak (λb=>b=r∨b=w.heap.size+1) w w'):=λw' h=>((Ak.ofBelow H.o).trans h).mono λi hi _=>Ad hi;have kd:Ab u.drew V (zH d a4 j) 27/\Ab u.drew w.heap.size #[.string ⟨#[102]⟩,.slice (some (zD b' o')) 2 c] 61/\Ak (λb=>b=r∨b=w.heap.size+1) w u.drew:=⟨V5.o,A5.o,(EW.o u T.o).drew⟩;refine CC (S:=λw'=>Ab w' V (zH d a4 j) 27/\Ab w' w.heap.size #[.string ⟨#[102]⟩,.slice (some (zD b' o')) 2 c] 61/\Ak (λb=>b=r∨b=w.heap.size+1) w w') (by kernel_rfl) kd λhH=>?_;refine tkz 0 ?_ (hy:=by intro w' al;obtain⟨⟨y0,y1⟩,y2,y3,y4⟩:=KS.o w' al;go_simp<;>with_reducible rfl);refine tkz 1 ?_;refine tkz 2 ?_ (hy:=by intro w' al;obtain⟨⟨y0,y1⟩,y2,y3,y4⟩:=KS.o w' al;go_simp<;>with_reducible rfl);refine tkz 3 ?_;refine tkz 4 ?_ (hy:=by intro w' al;obtain⟨⟨y0,y1⟩,y2,y3,y4⟩:=KS.o w' al;go_simp<;>with_reducible rfl);refine tkz 5 ?_;refine rdq 6 rfl λK E=>?_;go_simp;go_at_call 90;refine(IQ.o D _ r u.drew X aJ (KP.o u.drew (λb=>b=r) (((Ak.ofBelow H.o).trans T.o).drew) W.o).2.2 W.o (M5.o.exq ((Ak.refl (λ_=>False) u).drew) (λh=>h)) (by omega)).mono ?_;rintro e m ⟨B,F,rfl,au,ax,U⟩;obtain⟨N2,ay⟩:∃N2,N2=AR D (Aw [q]):=⟨_,rfl⟩;rw[<-ay]at au ax ak ⊢;obtain⟨rr,az⟩:=WD (Aw [q]) D;rw[<-ay]at az;have a7:Hid (d=Ck N2 p):=Aa (by rw[aP.o,az,WU rr aO.o]);clear ay az;obtain⟨s,a8⟩:∃s,s=Ck N2 q:=⟨_,rfl⟩;rw[<-a8]at au ⊢;have aR:=Aa a8;clear a8;have E6:Hid (Ak (λb=>b=r) w2 m):=(T.o.drew).trans U;have V6:Hid (Ab m V (zH d a4 j) 27):=(show Ab u.drew V (zH d a4 j) 27 from V5.o).exq U (λe=>by have h1:=aQ.o; omega);have A6:Hid (Ab m w.heap.size #[.string ⟨#[102]⟩,.slice (some (zD b' o')) 2 c] 61):=(show Ab u.drew w.heap.size #[.string ⟨#[102]⟩,.slice (some (zD b' o')) 2 c] 61 from A5.o).exq U (by omega);have R6:Hid (Ab m (w.heap.size+1) #[zA 0,zB] 27):=(show Ab u.drew (w.heap.size+1) #[zA 0,zB] 27 from R5.o).exq U (by omega);have aS:Hid (AM m (λb=>w2.heap.size<=b) a4 d.subs):=(S5.o.later ((Ac _ _).drew)).exq U (λb hb e=>by have h1:=z.o; omega);have aT:Hid (AM m (λb=>w2.heap.size<=b) B s.subs):=au.mono λb hb _=>AN T.o.size hb;have M6:=Aa ax;have k6:Ab m V (zH d a4 j) 27/\Ab m w.heap.size #[.string ⟨#[102]⟩,.slice (some (zD b' o')) 2 c] 61/\Ak (λb=>b=r∨b=w.heap.size+1) w m:=⟨V6.o,A6.o,EW.o m E6.o⟩;clear au ax U S5 M5 V5 A5 R5;go_simp;refine E.o _ _ (by exact k6) λhH=>?_;clear E K;(try simp only[Act.put,sq]);have k7:Ab (m.alloc (.cells #[zA d.base,.slice a4 d.subs.length j,zA s.base,.slice B s.subs.length F] 27)) V (zH d a4 j) 27/\Ab (m.alloc (.cells #[zA d.base,.slice a4 d.subs.length j,zA s.base,.slice B s.subs.length F] 27)) w.heap.size #[.string ⟨#[102]⟩,.slice (some (zD b' o')) 2 c] 61/\Ak (λb=>b=r∨b=w.heap.size+1) w (m.alloc (.cells #[zA d.base,.slice a4 d.subs.length j,zA s.base,.slice B s.subs.length F] 27)):=⟨k6.1.alloc _,k6.2.1.alloc _,k6.2.2.alloc _⟩;have C7:Hid (Ab (m.alloc (.cells #[zA d.base,.slice a4 d.subs.length j,zA s.base,.slice B s.subs.length F] 27)) m.heap.size #[zA d.base,.slice a4 d.subs.length j,zA s.base,.slice B s.subs.length F] 27):=Ab.new _ _ _;have O7:Hid (Below m.heap.size m (m.alloc (.cells #[zA d.base,.slice a4 d.subs.length j,zA s.base,.slice B s.subs.length F] 27))):=(Ac _ _).alloc (Ag _) _;refine rdq 7 rfl λK E=>?_;go_simp;refine E.o _ _ (by exact k7) λhH=>?_;clear E K;(try simp only[Act.put,sq]);refine tkz 8 ?_;have R7:=Aa (R6.o.below O7.o R6.o.lt);have M7:=Aa (M6.o.below O7.o M6.o.lt);have aU:=Aa (aS.o.later O7.o);have aV:=Aa (aT.o.later O7.o);have E7:Hid (Ak (λb=>b=r) w2 (m.alloc (.cells #[zA d.base,.slice a4 d.subs.length j,zA s.base,.slice B s.subs.length F] 27))):=E6.o.trans (Ak.ofBelow O7.o);have aA:Hid (w2.heap.size<=m.heap.size):=E6.o.size;generalize m.alloc (.cells #[zA d.base,.slice a4 d.subs.length j,zA s.base,.slice B s.subs.length F] 27)=y at *;generalize m.heap.size=G at *;have r0:=R7.o.c0;have r1:=R7.o.c1;have f0:y.frozen? (zD (w.heap.size+1) 0)=false:=R7.o.frozen 0;have f1:y.frozen? (zD (w.heap.size+1) 1)=false:=R7.o.frozen 1;have k8:Ab ((y.setCell (zD (w.heap.size+1) 0) (zA 0)).setCell (zD (w.heap.size+1) 1) (.slice (some (zD G 0)) 2 2)) V (zH d a4 j) 27/\Ab ((y.setCell (zD (w.heap.size+1) 0) (zA 0)).setCell (zD (w.heap.size+1) 1) (.slice (some (zD G 0)) 2 2)) w.heap.size #[.string ⟨#[102]⟩,.slice (some (zD b' o')) 2 c] 61/\Ak (λb=>b=r∨b=w.heap.size+1) w ((y.setCell (zD (w.heap.size+1) 0) (zA 0)).setCell (zD (w.heap.size+1) 1) (.slice (some (zD G 0)) 2 2)):=⟨(k7.1.setOther 0 _ (by have h1:=z.o; have h2:=g24.o; omega)).setOther 1 _ (by have h1:=z.o; have h2:=g24.o; omega),(k7.2.1.setOther 0 _ (by omega)).setOther 1 _ (by omega),(k7.2.2.set (Ae rfl) 0 _).set (Ae rfl) 1 _⟩;refine rdq 9 rfl λK E=>?_;go_simp;refine E.o _ _ (by exact k8) λhH=>?_;clear E K;(try simp only[Act.put,sq]);refine dnq ?_;have R8:Hid (Ab ((y.setCell (zD (w.heap.size+1) 0) (zA 0)).setCell (zD (w.heap.size+1) 1) (.slice (some (zD G 0)) 2 2)) (w.heap.size+1) #[zA 0,.slice (some (zD G 0)) 2 2] 27):=(R7.o.set 0 _).set 1 _;have M8:Hid (BC ((y.setCell (zD (w.heap.size+1) 0) (zA 0)).setCell (zD (w.heap.size+1) 1) (.slice (some (zD G 0)) 2 2)) r (DU 0 N2)):=M7.o.kept (by rw[Al _ _ _ _ (by simp; omega),Al _ _ _ _ (by simp; omega)]);have E8:Hid (Ak (λb=>b=r) w ((y.setCell (zD (w.heap.size+1) 0) (zA 0)).setCell (zD (w.heap.size+1) 1) (.slice (some (zD G 0)) 2 2))):=((((Ak.ofBelow H.o).trans E7.o).setNew (by omega) 0 _).setNew (by omega) 1 _);have SE:Hid (∀(x:Option Addr) (l:List Ty),AM y (λb=>w2.heap.size<=b) x l->AM ((y.setCell (zD (w.heap.size+1) 0) (zA 0)).setCell (zD (w.heap.size+1) 1) (.slice (some (zD G 0)) 2 2)) (λb=>w2.heap.size<=b) x l):=λx l h=>h.kept λb hb=>by have h1:=z.o; rw[Al _ _ _ _ (by simp; omega),Al _ _ _ _ (by simp; omega)]
   have S8:Hid (AM ((y.setCell (zD (w.heap.size+1) 0) (zA 0)).setCell (zD (w.heap.size+1) 1) (.slice (some (zD G 0)) 2 2)) (λb=>w.heap.size<=b) (some (zD G 0)) [d,s]):=Rk ((C7.o.setOther 0 _ (by have h1:=z.o; have h2:=aA.o; omega)).setOther 1 _ (by have h1:=z.o; have h2:=aA.o; omega)) (by have h1:=z.o; have h2:=aA.o; omega) ((SE.o _ _ aU.o).mono λb hb _=>by have h1:=z.o; omega) ((SE.o _ _ aV.o).mono λb hb _=>by have h1:=z.o; omega);generalize ((y.setCell (zD (w.heap.size+1) 0) (zA 0)).setCell (zD (w.heap.size+1) 1) (.slice (some (zD G 0)) 2 2))=w8 at *;clear r0 r1 f0 f1;go_wp2_with fail;have c0:=R8.o.cell 0;have c1:=R8.o.cell 1;simp only[BP,BR,BQ] at c0 c1;refine Ao (v:=.agg #[zA 0,.slice (some (zD G 0)) 2 2]) (by simp[results,results90,go_sem,c0,c1]) rfl ?_;refine⟨some (zD G 0),2,?_,?_,?_,E8.o⟩
   ·rw[ak.o,aH.o]; rfl
   ·rw[ak.o,aH.o]; rw[<-a7.o,<-aR.o]; exact S8.o
   ·rw[ak.o]; exact M8.o
def Bk:List Ty->Prop
 | []=>True
 | ⟨_,l⟩::r=>(l=[]∨l.length=2)/\Bk l/\Bk r
theorem FG (t:Ty) (r:List Ty):Bk (t::r)↔(t.subs=[]∨t.subs.length=2)/\Bk t.subs/\Bk r:=by
 obtain⟨x,l⟩:=t;simp only[Bk]
theorem Ma {x:Int} {l:List Ty} (h:Bk [⟨x,l⟩]):l=[]∨∃p q,l=[p,q]/\Bk [p]/\Bk [q]:=by
 rw[FG]at h;obtain⟨h1,h2,_⟩:=h;rcases h1 with h1|h1
 ·exact Ad h1
 ·have a:l.length=2:=h1;match l,a,h2 with
  | [p,q],_,h2=>rw[FG]at h2;have h3:=h2.2.2;exact Ae ⟨p,q,rfl,(FG p []).2 ⟨h2.1,h2.2.1,by simp[Bk]⟩,h3⟩
def EH (w:World) (X:Nat->Prop):List (Int×Value)->List (Int×Ty)->Prop
 | [],[]=>True
 |p::r,q::s=>(p.1=q.1/\YV w X p.2 q.2)/\EH w X r s
 |_,_=>False
def FH (w:World) (r:Nat) (X:Nat->Prop) (σ:List (Int×Ty)):Prop:=∃L,En w r L/\EH w X L σ
theorem YV.exq {w w':World} {Q X:Nat->Prop} {v:Value} {t:Ty} (h:YV w X v t) (he:Ak Q w w') (d:∀b,X b->¬Q b):YV w' X v t:=by
 obtain⟨a,c,e,f⟩:=h;exact⟨a,c,e,f.exq he d⟩
theorem EH.exq {w w':World} {Q X:Nat->Prop} (he:Ak Q w w') (a:∀b,X b->¬Q b):∀ {L:List (Int×Value)} {σ:List (Int×Ty)},EH w X L σ->EH w' X L σ
 | [],[],_=>trivial
 | [],_::_,h=>h.elim
 |_::_,[],h=>h.elim
 |p::r,q::s,h=>⟨⟨h.1.1,h.1.2.exq he a⟩,EH.exq he a h.2⟩
theorem FH.exq {w w':World} {Q X:Nat->Prop} {r:Nat} {σ:List (Int×Ty)} (h:FH w r X σ) (he:Ak Q w w') (a:∀b,X b->¬Q b) (c:¬Q r):FH w' r X σ:=by
 obtain⟨L,h1,h2⟩:=h;exact⟨L,h1.kept (he.block r h1.lt c),h2.exq he a⟩
theorem FH.later {w w':World} {X:Nat->Prop} {r:Nat} {σ:List (Int×Ty)} (h:FH w r X σ) (hb:Below w.heap.size w w'):FH w' r X σ:=h.exq (Ak.ofBelow (Q:=λ_=>False) hb) (λ_ _ h=>h) (λh=>h)
theorem FH.lt {w:World} {X:Nat->Prop} {r:Nat} {σ:List (Int×Ty)} (h:FH w r X σ):r<w.heap.size:=by
 obtain⟨L,h1,_⟩:=h;exact h1.lt
theorem EH.get {w:World} {X:Nat->Prop} (n:Int):∀ {L:List (Int×Value)} {σ:List (Int×Ty)},EH w X L σ->(Dz σ n=none->EK L n=none)/\∀t,Dz σ n=some t->∃v,EK L n=some v/\YV w X v t
 | [],[],_=>⟨λ_=>rfl,λt h=>by simp[Dz] at h⟩
 | [],_::_,h=>h.elim
 |_::_,[],h=>h.elim
 |p::r,q::s,h=>by
  obtain⟨⟨h1,h2⟩,h3⟩:=h;have a:=EH.get n h3;simp only[Dz,EK];by_cases e:q.1=n
  ·rw[Aq e,Aq (h1.trans e)];refine⟨λh=>absurd h (by simp),λt ht=>?_⟩;rw[Il]at ht;exact ht▸⟨_,rfl,h2⟩
  ·rw[Am e,Am (λe2=>e (h1.symm.trans e2))];exact a
theorem EH.push {w:World} {X:Nat->Prop} {n:Int} {v:Value} {t:Ty} (a:YV w X v t):∀ {L:List (Int×Value)} {σ:List (Int×Ty)},EH w X L σ->EH w X (L++[(n,v)]) (σ++[(n,t)])
 | [],[],_=>⟨⟨rfl,a⟩,trivial⟩
 | [],_::_,h=>h.elim
 |_::_,[],h=>h.elim
 |p::r,q::s,h=>⟨h.1,EH.push a h.2⟩
theorem Mb {w:World} {X:Nat->Prop} {a:Option Addr} {p r:Ty} (h:AM w X a [p,r]):
  ∃b' o' c c1 a2 c2,a=some (zD b' o')/\∀w' Q,Ak Q w w'->(∀b,X b->¬Q b)->(w'.cell? (zD b' o')=some (zA p.base)/\w'.cell? ⟨b',o'+1,none⟩=some (.slice c p.subs.length c1)/\w'.cell? ⟨b',o'+2,none⟩=some (zA r.base)/\w'.cell? ⟨b',o'+2+1,none⟩=some (.slice a2 r.subs.length c2))/\YV w' X (.agg (zH p c c1)) p/\YV w' X (.agg (zH r a2 c2)) r:=by
 obtain⟨_,h|⟨b',o',rfl,f⟩⟩:=h
 ·simp at h
 obtain⟨hx,d0,c,c1,d1,g⟩:=JP _ _ _ f 0 (by simp);obtain⟨_,d2,a2,c2,d3,i⟩:=JP _ _ _ f 1 (by simp);have j:b'<w.heap.size:=by
  apply El;intro hn;have e:w.heap[b']? = none:=Ij (by omega);simp[World.cell?,e]at d0
 refine⟨b',o',c,c1,a2,c2,rfl,λw' Q he d=>⟨?_,⟨c,c1,rfl,g.exq he d⟩,⟨a2,c2,rfl,i.exq he d⟩⟩⟩;have e:∀o,w'.cell? (zD b' o)=w.cell? (zD b' o):=λo=>DC (he.block b' j (d b' hx));rw[e,e,e,e];exact⟨by simpa using d0,by simpa using d1,by simpa using d2,by simpa using d3⟩
structure Fit (w:World) (S F r:Nat):Prop where
 s:Ab w S #[.map (some r)] 113
 f:Ab w F #[.func (.func 74) #[] #[zC S,zC F]] 36
 sr:S≠r
 fr:F≠r
theorem Fit.exq {w w':World} {S F r:Nat} (h:Fit w S F r) (he:Ak (λb=>b=r) w w'):Fit w' S F r:=⟨h.s.exq he h.sr,h.f.exq he h.fr,h.sr,h.fr⟩
def WY (p t:Ty) (σ:List (Int×Ty)) (r:Nat) (X:Nat->Prop) (w:World) (e:Ending) (w':World):Prop:=e=.returned (.bool (CO p t σ).1)/\FH w' r X (CO p t σ).2/\Ak (λb=>b=r) w w'
theorem WZ (S F r:Nat) (p:Ty):∀(t:Ty) (σ:List (Int×Ty)) (v u:Value) (w:World) (Z X:Nat->Prop),Bk [p]->YV w Z v p->YV w X u t->(∀b,Z b->b≠r)->(∀b,X b->b≠r)->FH w r X σ->Fit w S F r->
  Calls prog 74 #[v,u,zC S,zC F] w λe w'=>WY p t σ r X w e w':=by
 induction p using Ty.ind with
 |h g l0 ih=>
  intro t σ v u w Z X au hv hu hZ hX hM hF;have IH:=Aa ih;clear ih;obtain⟨a,c,rfl,hs⟩:=hv;have HU:=Aa hu;obtain⟨E,c',rfl,az⟩:=hu;have V:=Aa hX;have HZ:=Aa hZ;have aU:=hM.lt;have B2:Hid (Below w.heap.size w ((w.alloc (.cells #[zA g,.slice a l0.length c] 27)).alloc (.cells (zH t E c') 27))):=((Ac _ _).alloc (Ag _) _).alloc (by simp) _;have U:Hid (Ab ((w.alloc (.cells #[zA g,.slice a l0.length c] 27)).alloc (.cells (zH t E c') 27)) w.heap.size #[zA g,.slice a l0.length c] 27):=(Ab.new _ _ _).alloc _;have M:Hid (Ab ((w.alloc (.cells #[zA g,.slice a l0.length c] 27)).alloc (.cells (zH t E c') 27)) (w.heap.size+1) (zH t E c') 27):=by have h:=Ab.new (w.alloc (.cells #[zA g,.slice a l0.length c] 27)) (zH t E c') 27; rw[BK] at h; exact h
  have M2:=Aa (hM.later B2.o);have D:=Aa (hF.exq (Ak.ofBelow B2.o));have a1:=Aa (HU.o.later B2.o);rcases Ma au with rfl|⟨p,q,rfl,hp,hq⟩
  ·clear IH hs au hM hF;simp only[Ee] at *;go_enter func74,ntmps74;go_upto_region 1 with fail;generalize ((w.alloc (.cells #[zA g,.slice a 0 c] 27)).alloc (.cells (zH t E c') 27))=w2 at *;have aV:=U.o.c0;have a6:=U.o.c1;have z0:=M.o.c0;have z1:=M.o.c1;have s0:=D.o.s.c0;obtain⟨L,ah,ao⟩:=M2.o;have hg:=ao.get g;have aq:=zeroValue27 w2;cases ai:Dz σ g with
   |some y=>
    obtain⟨vy,a7,a8⟩:=hg.2 y ai;have aM:=Aa a8;obtain⟨W,Y,rfl,-⟩:=a8;have ak:(Instr.lookup 113 (.map (some r)) (zA g) true).run prog w2=.ok (.tuple #[.agg (zH y W Y),.bool true]) w2:=by rw[OY (P:=prog) underlying113 underlying3 aq ah _,a7]; rfl
    have B:=Aa (M0 (t:=t) ai);have q0:(w2.alloc (.cells (zH y W Y) 27)).cell? (zD (w.heap.size+1) 0)=some (zA t.base):=(M.o.alloc _).cell 0;have q1:(w2.alloc (.cells (zH y W Y) 27)).cell? (zD (w.heap.size+1) 1)=some (.slice E t.subs.length c'):=(M.o.alloc _).cell 1;have q2:(w2.alloc (.cells (zH y W Y) 27)).cell? (zD w.heap.size 0)=some (zA g):=(U.o.alloc _).cell 0;have q3:(w2.alloc (.cells (zH y W Y) 27)).cell? (zD w.heap.size 1)=some (.slice a 0 c):=(U.o.alloc _).cell 1;have q4:(w2.alloc (.cells (zH y W Y) 27)).cell? (zD S 0)=some (.map (some r)):=(D.o.s.alloc _).cell 0;clear ai hg a7 aq ah ao;go_wp2_with fail;refine(Vu y t _ _ _ X X (aM.o.later ((Ac _ _).alloc (Ag _) _)) (a1.o.later ((Ac _ _).alloc (Ag _) _))).mono ?_;rintro e C ⟨rfl,aA⟩;have O4:Hid (Below w2.heap.size w2 C):=((Ac w2.heap.size w2).alloc (Ag _) (.cells (zH y W Y) 27)).trans (aA.mono (by simp));clear aA;go_wp2_with fail;go_ret;refine⟨by rw[B.o]; rfl,?_,(Ak.ofBelow B2.o).trans (Ak.ofBelow O4.o)⟩;rw[B.o];exact M2.o.later O4.o
   |none=>
    have av:=hg.1 ai;have ak:(Instr.lookup 113 (.map (some r)) (zA g) true).run prog w2=.ok (.tuple #[.agg #[zA 0,zB],.bool false]) w2:=by rw[OY (P:=prog) underlying113 underlying3 aq ah _,av]; rfl
    have B:=Aa (Na (t:=t) ai);have O3:Hid (Below w2.heap.size w2 (w2.alloc (.cells #[zA 0,zB] 27))):=(Ac _ _).alloc (Ag _) _;have aB:En (w2.alloc (.cells #[zA 0,zB] 27)) r L:=ah.below O3.o ah.lt;obtain⟨C,aC,aD,aN,aE,aF,aG,aH⟩:=Vx (P:=prog) underlying113 underlying3 aB g (.agg (zH t E c')) av;have E4:Hid (Ak (λb=>b=r) (w2.alloc (.cells #[zA 0,zB] 27)) C):=⟨aE,aF,aG,by omega,λb _ hn=>aH b hn⟩;have M4:Hid (FH C r X (σ++[(g,t)])):=⟨_,aD,EH.push ((a1.o.later O3.o).exq E4.o V.o) (EH.exq E4.o V.o (EH.exq (Ak.ofBelow (Q:=λ_=>False) O3.o) (λ_ _ h=>h) ao))⟩;have q0:(w2.alloc (.cells #[zA 0,zB] 27)).cell? (zD (w.heap.size+1) 0)=some (zA t.base):=(M.o.alloc _).cell 0;have q1:(w2.alloc (.cells #[zA 0,zB] 27)).cell? (zD (w.heap.size+1) 1)=some (.slice E t.subs.length c'):=(M.o.alloc _).cell 1;have q2:(w2.alloc (.cells #[zA 0,zB] 27)).cell? (zD w.heap.size 0)=some (zA g):=(U.o.alloc _).cell 0;have q3:(w2.alloc (.cells #[zA 0,zB] 27)).cell? (zD w.heap.size 1)=some (.slice a 0 c):=(U.o.alloc _).cell 1;have q4:(w2.alloc (.cells #[zA 0,zB] 27)).cell? (zD S 0)=some (.map (some r)):=(D.o.s.alloc _).cell 0;clear ai hg aq ah ao av aD aN aE aF aG aH aB;go_wp2_with fail;go_ret;refine⟨by rw[B.o]; rfl,?_,(Ak.ofBelow B2.o).trans ((Ak.ofBelow O3.o).trans E4.o)⟩;rw[B.o];exact M4.o
  ·obtain⟨G,H,p1,aO,p2,aP,rfl,aI⟩:=Mb hs;have KP:=Aa aI;clear aI hs au;have IP:=Aa (IH.o p (by simp));have IQ:=Aa (IH.o q (by simp));clear IH hM hF;have e2:([p,q]:List Ty).length=2:=rfl;rw[e2]at *;clear e2;go_enter func74,ntmps74;go_upto_region 1 with fail;generalize ((w.alloc (.cells #[zA g,.slice (some (zD G H)) 2 c] 27)).alloc (.cells (zH t E c') 27))=w2 at *;have a6:=U.o.c1;go_wp2_with fail;clear a6;have gR:Hid (w.heap.size+1<w2.heap.size):=M.o.lt;have E2:Hid (Ak (λb=>b=r) w w2):=Ak.ofBelow B2.o;by_cases ar:t.subs.length=2
   ·obtain⟨N,ts⟩:=t;have al:ts.length=2:=ar;obtain⟨J,O,rfl⟩:∃J O,ts=[J,O]:=by match ts,al with|[J,O],_=>exact⟨_,_,rfl⟩
    clear ar al;obtain⟨tb,I,t1,aQ,t2,aR,rfl,aJ⟩:=Mb az;have KT:=Aa aJ;clear aJ az;have e2:([J,O]:List Ty).length=2:=rfl;simp only[e2] at *;clear e2;have B:=Aa (Nc (p:=p) (q:=q) (u:=J) (v:=O) g N σ);have i:Hid (∀w',(Ab w' w.heap.size #[zA g,.slice (some (zD G H)) 2 c] 27/\Ab w' (w.heap.size+1) #[zA N,.slice (some (zD tb I)) 2 c'] 27/\Ab w' F #[(.func (.func 74) #[] #[zC S,zC F])] 36/\Ak (λb=>b=r) w w')->w'.cell? (zD w.heap.size 1)=some (.slice (some (zD G H)) 2 c)/\w'.cell? (zD (w.heap.size+1) 1)=some (.slice (some (zD tb I)) 2 c')/\w'.cell? (zD F 0)=some (.func (.func 74) #[] #[zC S,zC F])/\(w'.cell? (zD G H)=some (zA p.base)/\w'.cell? ⟨G,H+1,none⟩=some (.slice p1 p.subs.length aO)/\w'.cell? ⟨G,H+2,none⟩=some (zA q.base)/\w'.cell? ⟨G,H+2+1,none⟩=some (.slice p2 q.subs.length aP))/\(w'.cell? (zD tb I)=some (zA J.base)/\w'.cell? ⟨tb,I+1,none⟩=some (.slice t1 J.subs.length aQ)/\w'.cell? ⟨tb,I+2,none⟩=some (zA O.base)/\w'.cell? ⟨tb,I+2+1,none⟩=some (.slice t2 O.subs.length aR))):=λw' h=>⟨h.1.cell 1,h.2.1.cell 1,h.2.2.1.cell 0,(KP.o w' _ h.2.2.2 HZ.o).1,(KT.o w' _ h.2.2.2 V.o).1⟩;have R:Ab w2.drew w.heap.size #[zA g,.slice (some (zD G H)) 2 c] 27/\Ab w2.drew (w.heap.size+1) #[zA N,.slice (some (zD tb I)) 2 c'] 27/\Ab w2.drew F #[(.func (.func 74) #[] #[zC S,zC F])] 36/\Ak (λb=>b=r) w w2.drew:=⟨U.o,M.o,D.o.f,E2.o.drew⟩;refine CC (S:=λw'=>Ab w' w.heap.size #[zA g,.slice (some (zD G H)) 2 c] 27/\Ab w' (w.heap.size+1) #[zA N,.slice (some (zD tb I)) 2 c'] 27/\Ab w' F #[(.func (.func 74) #[] #[zC S,zC F])] 36/\Ak (λb=>b=r) w w') (by kernel_rfl) R λhH=>?_;refine tkz 0 ?_ (hy:=by intro w' d;obtain⟨j,k,l,⟨y3,y4,m,y6⟩,n,x,z,A⟩:=i.o w' d;go_simp<;>with_reducible rfl);refine tkz 1 ?_ (hy:=by intro w' d;obtain⟨j,k,l,⟨y3,y4,m,y6⟩,n,x,z,A⟩:=i.o w' d;go_simp<;>with_reducible rfl);refine tkz 2 ?_ (hy:=by intro w' d;obtain⟨j,k,l,⟨y3,y4,m,y6⟩,n,x,z,A⟩:=i.o w' d;go_simp<;>with_reducible rfl);refine tkz 3 ?_ (hy:=by intro w' d;obtain⟨j,k,l,⟨y3,y4,m,y6⟩,n,x,z,A⟩:=i.o w' d;go_simp<;>with_reducible rfl);refine tkz 4 ?_ (hy:=by intro w' d;obtain⟨j,k,l,⟨y3,y4,m,y6⟩,n,x,z,A⟩:=i.o w' d;go_simp<;>with_reducible rfl);refine tkz 5 ?_ (hy:=by intro w' d;obtain⟨j,k,l,⟨y3,y4,m,y6⟩,n,x,z,A⟩:=i.o w' d;go_simp<;>with_reducible rfl);refine tkz 6 ?_ (hy:=by intro w' d;obtain⟨j,k,l,⟨y3,y4,m,y6⟩,n,x,z,A⟩:=i.o w' d;go_simp<;>with_reducible rfl);refine tkz 7 ?_ (hy:=by intro w' d;obtain⟨j,k,l,⟨y3,y4,m,y6⟩,n,x,z,A⟩:=i.o w' d;go_simp<;>with_reducible rfl);refine tkz 8 ?_ (hy:=by intro w' d;obtain⟨j,k,l,⟨y3,y4,m,y6⟩,n,x,z,A⟩:=i.o w' d;go_simp<;>with_reducible rfl);refine tkz 9 ?_ (hy:=by intro w' d;obtain⟨j,k,l,⟨y3,y4,m,y6⟩,n,x,z,A⟩:=i.o w' d;go_simp<;>with_reducible rfl);refine tkz 10 ?_ (hy:=by intro w' d;obtain⟨j,k,l,⟨y3,y4,m,y6⟩,n,x,z,A⟩:=i.o w' d;go_simp<;>with_reducible rfl);refine tkz 11 ?_ (hy:=by intro w' d;obtain⟨j,k,l,⟨y3,y4,m,y6⟩,n,x,z,A⟩:=i.o w' d;go_simp<;>with_reducible rfl);refine tkz 12 ?_ (hy:=by intro w' d;obtain⟨j,k,l,⟨y3,y4,m,y6⟩,n,x,z,A⟩:=i.o w' d;go_simp<;>with_reducible rfl);refine tkz 13 ?_ (hy:=by intro w' d;obtain⟨j,k,l,⟨y3,y4,m,y6⟩,n,x,z,A⟩:=i.o w' d;go_simp<;>with_reducible rfl);refine rdq 14 rfl λK hK=>?_;go_simp;go_at_call 74;refine(IP.o J σ _ _ w2.drew Z X hp (KP.o w2.drew _ R.2.2.2 HZ.o).2.1 (KT.o w2.drew _ R.2.2.2 V.o).2.1 HZ.o V.o (M2.o.later (Ac _ _).drew) ⟨D.o.s,D.o.f,D.o.sr,D.o.fr⟩).mono ?_;rintro e C ⟨rfl,aK,aj⟩;have A4:Hid (Ab C w.heap.size #[zA g,.slice (some (zD G H)) 2 c] 27):=R.1.exq aj (by omega);have C4:Hid (Ab C (w.heap.size+1) #[zA N,.slice (some (zD tb I)) 2 c'] 27):=R.2.1.exq aj (by omega);have G4:Hid (Ab C F #[(.func (.func 74) #[] #[zC S,zC F])] 36):=R.2.2.1.exq aj D.o.fr;have T:Ab C w.heap.size #[zA g,.slice (some (zD G H)) 2 c] 27/\Ab C (w.heap.size+1) #[zA N,.slice (some (zD tb I)) 2 c'] 27/\Ab C F #[(.func (.func 74) #[] #[zC S,zC F])] 36/\Ak (λb=>b=r) w C:=⟨A4.o,C4.o,G4.o,R.2.2.2.trans aj⟩;have M4:=Aa aK;have aS:Hid (Fit C S F r):=(show Fit w2.drew S F r from ⟨D.o.s,D.o.f,D.o.sr,D.o.fr⟩).exq aj;clear aK aj;obtain⟨b1,τ,aL⟩:∃b1 τ,CO p J σ=(b1,τ):=⟨_,_,rfl⟩;rw[aL]at M4 B ⊢;clear aL;simp only at M4 B ⊢;cases b1 with
    |true=>rw[Aq rfl]at B;go_simp;refine hK.o _ _ (by exact T) λhH=>?_;clear hK K;(try simp only[Act.put,sq]);refine tkz 15 ?_;refine tkz 16 ?_;refine tkz 17 ?_ (hy:=by intro w' d;obtain⟨j,k,l,⟨y3,y4,m,y6⟩,n,x,z,A⟩:=i.o w' d;go_simp<;>with_reducible rfl);refine tkz 18 ?_ (hy:=by intro w' d;obtain⟨j,k,l,⟨y3,y4,m,y6⟩,n,x,z,A⟩:=i.o w' d;go_simp<;>with_reducible rfl);refine tkz 19 ?_ (hy:=by intro w' d;obtain⟨j,k,l,⟨y3,y4,m,y6⟩,n,x,z,A⟩:=i.o w' d;go_simp<;>with_reducible rfl);refine tkz 20 ?_ (hy:=by intro w' d;obtain⟨j,k,l,⟨y3,y4,m,y6⟩,n,x,z,A⟩:=i.o w' d;go_simp<;>with_reducible rfl);refine tkz 21 ?_ (hy:=by intro w' d;obtain⟨j,k,l,⟨y3,y4,m,y6⟩,n,x,z,A⟩:=i.o w' d;go_simp<;>with_reducible rfl);refine tkz 22 ?_ (hy:=by intro w' d;obtain⟨j,k,l,⟨y3,y4,m,y6⟩,n,x,z,A⟩:=i.o w' d;go_simp<;>with_reducible rfl);refine tkz 23 ?_ (hy:=by intro w' d;obtain⟨j,k,l,⟨y3,y4,m,y6⟩,n,x,z,A⟩:=i.o w' d;go_simp<;>with_reducible rfl);refine tkz 24 ?_ (hy:=by intro w' d;obtain⟨j,k,l,⟨y3,y4,m,y6⟩,n,x,z,A⟩:=i.o w' d;go_simp<;>with_reducible rfl);refine tkz 25 ?_ (hy:=by intro w' d;obtain⟨j,k,l,⟨y3,y4,m,y6⟩,n,x,z,A⟩:=i.o w' d;go_simp<;>with_reducible rfl);refine rdq 26 rfl λK hK=>?_;go_simp;go_at_call 74;refine(IQ.o O τ _ _ C Z X hq (KP.o C _ T.2.2.2 HZ.o).2.2 (KT.o C _ T.2.2.2 V.o).2.2 HZ.o V.o M4.o aS.o).mono ?_;rintro e w6 ⟨rfl,aw,an⟩;have A6:Hid (Ab w6 w.heap.size #[zA g,.slice (some (zD G H)) 2 c] 27):=T.1.exq an (by omega);have C6:Hid (Ab w6 (w.heap.size+1) #[zA N,.slice (some (zD tb I)) 2 c'] 27):=T.2.1.exq an (by omega);have G6:Hid (Ab w6 F #[(.func (.func 74) #[] #[zC S,zC F])] 36):=T.2.2.1.exq an D.o.fr;have k6:Ab w6 w.heap.size #[zA g,.slice (some (zD G H)) 2 c] 27/\Ab w6 (w.heap.size+1) #[zA N,.slice (some (zD tb I)) 2 c'] 27/\Ab w6 F #[(.func (.func 74) #[] #[zC S,zC F])] 36/\Ak (λb=>b=r) w w6:=⟨A6.o,C6.o,G6.o,T.2.2.2.trans an⟩;rw[<-B.o]at aw ⊢;have M6:=Aa aw;obtain⟨b2,ax⟩:∃b2,b2=(CO ⟨g,[p,q]⟩ ⟨N,[J,O]⟩ σ).1:=⟨_,rfl⟩;rw[<-ax];have aT:=Aa ax;clear aw an ax;go_simp;refine hK.o _ _ (by exact k6) λhH=>?_;clear hK K;(try simp only[Act.put,sq]);refine tkz 27 ?_;refine tkz 28 ?_;refine dnq ?_;go_wp2_with fail;go_ret;exact⟨by rw[<-aT.o]; rfl,M6.o,k6.2.2.2⟩
    |false=>rw[Am (by simp)]at B;go_simp;refine hK.o _ _ (by exact T) λhH=>?_;clear hK K;(try simp only[Act.put,sq]);refine tkz 15 ?_;refine tkz 16 ?_;refine tkv 17 ?_;refine tkv 18 ?_;refine tkv 19 ?_;refine tkv 20 ?_;refine tkv 21 ?_;refine tkv 22 ?_;refine tkv 23 ?_;refine tkv 24 ?_;refine tkv 25 ?_;refine tkv 26 ?_;refine tkz 27 ?_;refine tkz 28 ?_;refine dnq ?_;go_wp2_with fail;go_ret;refine⟨by rw[B.o]; rfl,?_,T.2.2.2⟩;rw[B.o];exact M4.o
   ·have B:=Aa (λσ=>Nb (p:=p) (q:=q) (t:=t) (σ:=σ) ar g);have hl:((t.subs.length:Int)==2)=false:=by simp; omega
    clear ar;have R:Ab w2.drew (w.heap.size+1) (zH t E c') 27:=M.o;refine CC (S:=λw'=>Ab w' (w.heap.size+1) (zH t E c') 27) (by kernel_rfl) R λhH=>?_;refine tkz 0 ?_;refine tkz 1 ?_ (hy:=by intro w' d;have y1:w'.cell? (zD (w.heap.size+1) 1)=some (.slice E t.subs.length c'):=d.cell 1;go_simp<;>with_reducible rfl);refine tkz 2 ?_;refine tkz 3 ?_;refine tkz 4 ?_;refine tkv 5 ?_;refine tkv 6 ?_;refine tkv 7 ?_;refine tkv 8 ?_;refine tkv 9 ?_;refine tkv 10 ?_;refine tkv 11 ?_;refine tkv 12 ?_;refine tkv 13 ?_;refine tkv 14 ?_;refine tkz 15 ?_;refine tkz 16 ?_;refine tkv 17 ?_;refine tkv 18 ?_;refine tkv 19 ?_;refine tkv 20 ?_;refine tkv 21 ?_;refine tkv 22 ?_;refine tkv 23 ?_;refine tkv 24 ?_;refine tkv 25 ?_;refine tkv 26 ?_;refine tkz 27 ?_;refine tkz 28 ?_;refine dnq ?_;go_wp2_with fail;go_ret;refine⟨by rw[B.o]; rfl,?_,E2.o.drew⟩;rw[B.o];exact M2.o.later (Ac _ _).drew
theorem NI:(prog.info? 27).map (λi=>(i.zero,i.size,i.bytes))=some (some (.agg #[zA 0,zB]),2,32):=by kernel_rfl
theorem Mc {w:World} {A T:Nat} {c0 c1:Value} (h:Ab w A #[c0,c1] T):∀j u,[c0,c1][j]? = some u->w.cell? (((zD A 0):Addr).add j)=some u:=World.news_of_block (cs:=#[c0,c1]) h
def Dj (w:World) (X:Nat->Prop):List Ty->List Value->Prop
 | [],xs=>xs=[]
 |t::l,xs=>∃a c r,xs=zA t.base::.slice a t.subs.length c::r/\AM w X a t.subs/\Dj w X l r
theorem Dj.len {w:World} {X:Nat->Prop}:∀ {l:List Ty} {xs:List Value},Dj w X l xs->xs.length=l.length*2
 | [],xs,h=>by simp[Dj] at h; simp[h]
 |t::l,xs,h=>by
  obtain⟨a,c,r,rfl,_,h⟩:=h;simp only[Cg];rw[Dj.len h]; omega
theorem Dj.append {w:World} {X:Nat->Prop}:∀ {l k:List Ty} {xs b:List Value},Dj w X l xs->Dj w X k b->Dj w X (l++k) (xs++b)
 | [],k,xs,b,h,h'=>by simp[Dj] at h; subst h; simpa using h'
 |t::l,k,xs,b,h,h'=>by
  obtain⟨a,c,r,rfl,d,h⟩:=h;exact⟨a,c,r++b,rfl,d,Dj.append h h'⟩
theorem Dj.one {w:World} {X:Nat->Prop}:∀ {l:List Ty} {xs:List Value},Dj w X l xs->∀u∈xs,u.oneCell'=true
 | [],xs,h,u,hu=>by simp[Dj] at h; subst h; cases hu
 |t::l,xs,h,u,hu=>by
  obtain⟨a,c,r,rfl,_,h⟩:=h;rcases Cn.1 hu with e|hu
  ·subst e; rfl
  ·rcases Cn.1 hu with e|hu
   ·subst e; rfl
   ·exact Dj.one h u hu
theorem Rm {w:World} {X:Nat->Prop}:∀(l:List Ty) (b o:Nat),Dy w X b o l->∃xs,Dj w X l xs/\∀j u,xs[j]? = some u->w.cell? ⟨b,o+j,none⟩=some u:=by
 intro l;induction l with
 |nil=>intro b o _; exact⟨[],rfl,by simp⟩
 |cons t r e=>
  intro b o h;obtain⟨s,k⟩:=t;simp only[Dy] at h;obtain⟨hx,h1,⟨a,c,h2,h3,f⟩,h5⟩:=h;obtain⟨xs,g,hc⟩:=e b (o+2) h5;refine⟨zA s::.slice a k.length c::xs,⟨a,c,xs,rfl,⟨h3,f⟩,g⟩,λj u d=>?_⟩;match j,d with
  |0,d=>simp at d; subst d; exact h1
  |1,d=>simp at d; subst d; exact h2
  |j+2,d=>rw[show o+(j+2)=o+2+j by omega]; exact hc j u (by simpa using d)
theorem W6 {w w':World} {X Y:Nat->Prop} (b:Nat) (hb:Y b):∀(l:List Ty) (xs:List Value) (o:Nat),Dj w X l xs->(∀a k,AM w X a k->AM w' Y a k)->(∀j u,xs[j]? = some u->w'.cell? ⟨b,o+j,none⟩=some u)->Dy w' Y b o l:=by
 intro l;induction l with
 |nil=>intro xs o _ _ _; simp[Dy]
 |cons t r e=>intro xs o h d hc;obtain⟨s,k⟩:=t;obtain⟨a,c,f,rfl,h1,h2⟩:=h;simp only[Dy];obtain⟨h3,g⟩:=d _ _ h1;refine⟨hb,hc 0 _ rfl,⟨a,c,hc 1 _ rfl,h3,g⟩,e f (o+2) h2 d λj u i=>?_⟩;have:=hc (j+2) u (by simpa using i);rwa [show o+(j+2)=o+2+j by omega] at this
theorem Rn {w w':World} {Z Y:Nat->Prop} {base:Nat} {g n cap:Nat} {l:List Ty} {xs:List Value} (ho:w'.ownsRow base 27 2 (.slice (some (zD g 0)) n cap) n xs) (b:0<n) (c:Dj w Z l xs) (d:∀a k,AM w Z a k->AM w' Y a k) (f:Y g) (hl:l.length<=1000000):AM w' Y (some (zD g 0)) l:=by
 obtain⟨g',aa,e,_,_,hc⟩:=EU ho b;cases e;exact⟨by omega,Ae ⟨g,0,rfl,W6 g f l xs 0 c d (λj u h=>by simpa using hc j u h)⟩⟩
theorem W8 {w:World} {A T:Nat} {Z:Nat->Prop} {q:Option Addr} {ar:List Ty} {s:Int} {a0:Option Addr} {d:List Ty} {c0:Nat} (h0:AM w Z a0 d) (B:AM w Z q ar) (hl:ar.length<=100000) (r:Ab w A #[zA s,.slice a0 d.length c0] T):
  ∃g cap w',(Builtin.append_ #[25,25] 25 #[.slice q ar.length ar.length,.slice (some (zD A 0)) 1 1]).run prog w=.ok (.slice (some (zD g 0)) (ar.length+1) cap) w'/\
   AM w' (λb=>Z b∨b=g) (some (zD g 0)) (ar++[⟨s,d⟩])/\Below w.heap.size w w'/\w.heap.size<=g/\ar.length+1<=cap:=by
 obtain⟨i0,hi,t,v,y⟩:=Dq NI;have fin:∀(f:Value) (w':World) (xs:List Value),w'.ownsRow w.heap.size 27 2 f (ar.length+1) (xs++[zA s,.slice a0 d.length c0])->w.grownBy w' none->Dj w Z ar xs->
   ∃g cap,f=.slice (some (zD g 0)) (ar.length+1) cap/\AM w' (λb=>Z b∨b=g) (some (zD g 0)) (ar++[⟨s,d⟩])/\Below w.heap.size w w'/\w.heap.size<=g/\ar.length+1<=cap:=by
  intro f w' xs ho i c;obtain⟨g,cap,rfl,C,_,_⟩:=EU ho (by omega);have hb:Below w.heap.size w w':=(Ac _ _).grown i (Ag _) (λk hk=>by cases hk);have D:ar.length+1<=cap:=by
   rcases ho.2 with ⟨_,h0⟩|⟨g1,aj,cur,e,_,_,h1,_⟩
   ·omega
   ·cases e; exact h1
  refine⟨g,cap,rfl,Rn (Y:=λb=>Z b∨b=g) ho (by omega) (l:=ar++[⟨s,d⟩]) (Dj.append c ⟨a0,c0,[],rfl,h0,rfl⟩) (λa k h=>(h.later hb).mono λb h _=>Ad h) (Ae rfl) (by simp; omega),hb,C,D⟩
 rcases B with ⟨al,rfl|⟨b,o,rfl,E⟩⟩
 ·cases q with
  |none=>obtain⟨g,cap,w',c,ho,i,_,_⟩:=run_append_lies (P:=prog) (w:=w) 25 25 w.heap.size 27 i0 _ 2 32 underlying25 hi t v y rfl (by decide) zB 0 [] (Hn _ _ _ _) (zD A 0) 1 1 [zA s,.slice a0 d.length c0] rfl (Mc r) (λx hx=>by simp at hx; rcases hx with rfl|rfl<;>rfl) (by decide) (by unfold maxLen; omega) (by omega) (Ag _) _ rfl;obtain⟨g2,n,e,h1,h2,h3,m⟩:=fin _ w' [] (by simpa using ho) (by simpa [Value.ownBlock] using i) rfl;simp only[Ee] at e m ⊢;rw[e]at c;exact⟨g2,n,w',by simpa using c,h1,h2,h3,m⟩
  |some F=>obtain⟨f,w',c,ho,i⟩:=run_append_arg_grows (P:=prog) (w:=w) 25 25 27 i0 _ 2 32 underlying25 hi t v y rfl (by decide) F 0 0 [] rfl (by simp) (zD A 0) 1 1 [zA s,.slice a0 d.length c0] rfl (Mc r) (by omega) (by unfold maxLen; omega) (by omega);obtain⟨g2,n,e,h1,h2,h3,m⟩:=fin f w' [] (by simpa using ho) i rfl;simp only[Ee] at e m ⊢;rw[e]at c;exact⟨g2,n,w',by simpa using c,h1,h2,h3,m⟩
 ·obtain⟨xs,z,hc⟩:=Rm ar b o E;obtain⟨f,w',c,ho,i⟩:=run_append_arg_grows (P:=prog) (w:=w) 25 25 27 i0 _ 2 32 underlying25 hi t v y rfl (by decide) (zD b o) ar.length ar.length xs z.len (λj u G=>by
   have:=hc j u G;by_cases h0:j=0
   ·subst h0; simpa [Addr.add] using this
   ·simpa [Addr.add,h0] using this) (zD A 0) 1 1 [zA s,.slice a0 d.length c0] rfl (Mc r) (by omega) (by unfold maxLen; omega) (by omega)
  obtain⟨g2,n,e,h1,h2,h3,m⟩:=fin f w' xs ho i z;rw[e]at c;exact⟨g2,n,w',c,h1,h2,h3,m⟩
theorem Gh {f W:World} {g:Nat} {Y:Nat->Prop} {a:Option Addr} {c:Nat} {l:List Ty} (hb:Below f.heap.size f W) (z:f.heap.size<=g) (A:Ab W g #[] 27) (s:AM f Y a l) (hl:l.length<=100000):
  ∃v1 d xs,(Builtin.append_ #[25,25] 25 #[.slice (some (zD g 0)) 0 0,.slice a l.length c]).run prog W=.ok v1 d/\d.ownsRow f.heap.size 27 2 v1 l.length xs/\Dj f Y l xs/\Below f.heap.size f d/\(∀q,q<W.heap.size->q≠g->d.heap[q]? = W.heap[q]?)/\W.heap.size<=d.heap.size/\(∀b,v1.ownBlock=some b->b=g∨W.heap.size<=b):=by
 obtain⟨i0,hi,B,C,D⟩:=Dq NI;have t:=hb.size;have v:W.ownsRow f.heap.size 27 2 (.slice (some (zD g 0)) 0 0) 0 []:=⟨by simp,Ae ⟨g,0,#[],rfl,z,A,by omega,by unfold maxLen; omega,by simp,by simp⟩⟩;have fin:∀(d:World),W.grownBy d (some g)->Below f.heap.size f d/\(∀q,q<W.heap.size->q≠g->d.heap[q]? = W.heap[q]?)/\W.heap.size<=d.heap.size:=by
  intro d i;exact⟨hb.grown i t (λk hk=>by simp at hk; omega),λq hq E=>i.block q hq (by simp; exact λe=>E e),i.size⟩
 cases a with
 |none=>
  have F:l=[]:=by
   rcases s.2 with h|⟨b,o,e,_⟩
   ·exact h
   ·cases e
  subst F;obtain⟨f1,f2,f3⟩:=fin W ⟨rfl,rfl,rfl,Ag _,λk hk _=>rfl⟩;refine⟨.slice (some (zD g 0)) 0 0,W,[],?_,v,rfl,f1,f2,f3,λb h=>Ad (by simpa [Value.ownBlock] using h.symm)⟩;have m:∀x,(Builtin.append_ #[25,25] 25 #[.slice (some (zD g 0)) 0 0,.slice none 0 x]).run prog W=.ok (.slice (some (zD g 0)) 0 0) W:=λx=>by
   simp[Builtin.append_,Fj underlying25,sizeOf,typeInfo,hi,Builtin.lenOf,Builtin.firstCells,storeCells]
  exact m c
 |some y=>
  obtain⟨xs,n,hx⟩:∃xs,Dj f Y l xs/\∀j u,xs[j]? = some u->W.cell? (y.add j)=some u:=by
   rcases s.2 with rfl|⟨b,o,e,G⟩
   ·exact⟨[],rfl,λj u r=>by simp at r⟩
   ·cases e;obtain⟨xs,h1,h2⟩:=Rm l b o G;refine⟨xs,h1,λj u r=>?_⟩;have e:((zD b o):Addr).add j=⟨b,o+j,none⟩:=by
     by_cases h0:j=0
     ·subst h0; simp[Addr.add]
     ·simp[Addr.add,h0]
    rw[e];exact cell_later hb (h2 j u r)
  obtain⟨v1,d,m,ho,i,_,h5⟩:=run_append_own_at (P:=prog) W f.heap.size 25 25 27 i0 _ 2 32 underlying25 hi B C D rfl (by decide) _ 0 [] v y l.length c xs n.len hx (λu hu=>Dj.one n u hu) (by unfold maxLen; omega) (by omega) t;obtain⟨f1,f2,f3⟩:=fin d (by simpa [Value.ownBlock] using i);refine⟨v1,d,xs,m,by simpa using ho,n,f1,f2,f3,λb h=>?_⟩;rcases h5 with h5|h5
  ·rw[h5]at h;exact Ad (by simpa [Value.ownBlock] using h.symm)
  ·rw[h5]at h;exact Ae (by simp at h; omega)
theorem Ro {c W:World} {i T:Nat} {Y:Nat->Prop} {v:Value} {l:List Ty} {xs:List Value} {s:Int} {a0:Option Addr} {f:List Ty} {c0:Nat} (hb:Below c.heap.size c W) (h0:AM c Y a0 f) (ho:W.ownsRow c.heap.size 27 2 v l.length xs) (r:Dj c Y l xs) (hP:Ab W i #[zA s,.slice a0 f.length c0] T) (hl:l.length<=100000):
  ∃g cap d,(Builtin.append_ #[25,25] 25 #[v,.slice (some (zD i 0)) 1 1]).run prog W=.ok (.slice (some (zD g 0)) (l.length+1) cap) d/\
   AM d (λb=>Y b∨b=g) (some (zD g 0)) (l++[⟨s,f⟩])/\Below c.heap.size c d/\(c.heap.size<=g/\g<d.heap.size)/\l.length+1<=cap/\(∀q,q<W.heap.size->some q≠v.ownBlock->d.heap[q]? = W.heap[q]?)/\W.heap.size<=d.heap.size/\(v.ownBlock=some g∨W.heap.size<=g):=by
 obtain⟨i0,hi,t,u,y⟩:=Dq NI;have n:=hb.size;obtain⟨g,cap,d,z,j,m,A,B⟩:=run_append_lies (P:=prog) (w:=W) 25 25 c.heap.size 27 i0 _ 2 32 underlying25 hi t u y rfl (by decide) v l.length xs ho (zD i 0) 1 1 [zA s,.slice a0 f.length c0] rfl (Mc hP) (λx hx=>by simp at hx; rcases hx with rfl|rfl<;>rfl) (by decide) (by unfold maxLen; omega) (by omega) n _ rfl;have o:Below c.heap.size c d:=hb.grown m n (λk hk=>(ho.lt k hk).1);obtain⟨g2,al,e,C,_,_⟩:=EU j (by omega);cases e;have D:l.length+1<=cap:=by
  rcases j.2 with ⟨_,h0⟩|⟨g1,ao,cur,e,_,_,h1,_⟩
  ·omega
  ·cases e; exact h1
 refine⟨g,cap,d,z,Rn (Y:=λb=>Y b∨b=g) j (by omega) (l:=l++[⟨s,f⟩]) (Dj.append r ⟨a0,c0,[],rfl,h0,rfl⟩) (λa k h=>(h.later o).mono λb h _=>Ad h) (Ae rfl) (by simp; omega),o,⟨C,B⟩,D,λq hq E=>m.block q hq E,m.size,?_⟩;rcases A with h|h
 ·exact Ad h
 ·exact Ae (by omega)
inductive PX where
 |v (i:Nat)
 |c (k:Int)
 |l (b:PX)
 |a (f x:PX)
def PX.upr (r:Nat->Nat):Nat->Nat
 |0=>0
 |i+1=>r i+1
def PX.ren (r:Nat->Nat):PX->PX
 | .v i=>.v (r i)
 | .c k=>.c k
 | .l b=>.l (b.ren (upr r))
 | .a f x=>.a (f.ren r) (x.ren r)
def PX.up (s:Nat->PX):Nat->PX
 |0=>.v 0
 |i+1=>(s i).ren (·+1)
def PX.sub (s:Nat->PX):PX->PX
 | .v i=>s i
 | .c k=>.c k
 | .l b=>.l (b.sub (up s))
 | .a f x=>.a (f.sub s) (x.sub s)
def PX.ins (z:PX):Nat->PX
 |0=>z
 |i+1=>.v i
theorem PX.upr_comp (r q:Nat->Nat):(λi=>upr r (upr q i))=upr (λi=>r (q i)):=by
 funext i; cases i<;>rfl
theorem PX.ren_ren (t:PX):∀(r q:Nat->Nat),(t.ren q).ren r=t.ren (λi=>r (q i)):=by
 induction t with
 |v i=>intro r q; rfl
 |c k=>intro r q; rfl
 |l b d=>intro r q; simp only[PX.ren]; rw[d,PX.upr_comp]
 |a f x e hx=>intro r q; simp only[PX.ren]; rw[e,hx]
theorem PX.up_upr (s:Nat->PX) (r:Nat->Nat):(λi=>up s (upr r i))=up (λi=>s (r i)):=by
 funext i; cases i<;>rfl
theorem PX.sub_ren (t:PX):∀(s:Nat->PX) (r:Nat->Nat),(t.ren r).sub s=t.sub (λi=>s (r i)):=by
 induction t with
 |v i=>intro s r; rfl
 |c k=>intro s r; rfl
 |l b d=>intro s r; simp only[PX.ren,PX.sub]; rw[d,PX.up_upr]
 |a f x e hx=>intro s r; simp only[PX.ren,PX.sub]; rw[e,hx]
theorem PX.ren_up (r:Nat->Nat) (s:Nat->PX):(λi=>(up s i).ren (upr r))=up (λi=>(s i).ren r):=by
 funext i
 cases i with
 |zero=>rfl
 |succ i=>simp only[PX.up]; rw[PX.ren_ren,PX.ren_ren]; rfl
theorem PX.ren_sub (t:PX):∀(r:Nat->Nat) (s:Nat->PX),(t.sub s).ren r=t.sub (λi=>(s i).ren r):=by
 induction t with
 |v i=>intro r s; rfl
 |c k=>intro r s; rfl
 |l b d=>intro r s; simp only[PX.ren,PX.sub]; rw[d,PX.ren_up]
 |a f x e hx=>intro r s; simp only[PX.ren,PX.sub]; rw[e,hx]
theorem PX.sub_up (s q:Nat->PX):(λi=>(up q i).sub (up s))=up (λi=>(q i).sub s):=by
 funext i
 cases i with
 |zero=>rfl
 |succ i=>simp only[PX.up]; rw[PX.sub_ren,PX.ren_sub]; rfl
theorem PX.sub_sub (t:PX):∀(s q:Nat->PX),(t.sub q).sub s=t.sub (λi=>(q i).sub s):=by
 induction t with
 |v i=>intro s q; rfl
 |c k=>intro s q; rfl
 |l b d=>intro s q; simp only[PX.sub]; rw[d,PX.sub_up]
 |a f x e hx=>intro s q; simp only[PX.sub]; rw[e,hx]
theorem PX.up_v:up PX.v=PX.v:=by funext i; cases i<;>rfl
theorem PX.sub_v (t:PX):t.sub PX.v=t:=by
 induction t with
 |v i=>rfl
 |c k=>rfl
 |l b d=>simp only[PX.sub]; rw[PX.up_v,d]
 |a f x e hx=>simp only[PX.sub]; rw[e,hx]
theorem PX.ren_is (t:PX):∀(r:Nat->Nat),t.ren r=t.sub (λi=>.v (r i)):=by
 induction t with
 |v i=>intro r; rfl
 |c k=>intro r; rfl
 |l b d=>
  intro r; simp only[PX.ren,PX.sub]; rw[d];congr 2
  funext i; cases i<;>rfl
 |a f x e hx=>intro r; simp only[PX.ren,PX.sub]; rw[e,hx]
theorem PX.sub_ins (s:Nat->PX) (z b:PX):(b.sub (ins z)).sub s=(b.sub (up s)).sub (ins (z.sub s)):=by
 rw[PX.sub_sub,PX.sub_sub];congr 1
 funext i
 cases i with
 |zero=>rfl
 |succ i=>simp only[PX.ins,PX.up,PX.sub];rw[PX.sub_ren];exact(PX.sub_v (s i)).symm
theorem PX.ren_ins (r:Nat->Nat) (z b:PX):(b.sub (ins z)).ren r=(b.ren (upr r)).sub (ins (z.ren r)):=by
 rw[PX.ren_is,PX.sub_ins,PX.ren_is z r,PX.ren_is b (upr r)];congr 2
 funext i; cases i<;>rfl
inductive PX.Par:PX->PX->Prop where
 |v (i:Nat):Par (.v i) (.v i)
 |c (k:Int):Par (.c k) (.c k)
 |l {b b':PX}:Par b b'->Par (.l b) (.l b')
 |a {f f' x x':PX}:Par f f'->Par x x'->Par (.a f x) (.a f' x')
 |b {b b' x x':PX}:Par b b'->Par x x'->Par (.a (.l b) x) (b'.sub (ins x'))
theorem PX.Par.refl:∀t:PX,Par t t
 | .v i=>.v i
 | .c k=>.c k
 | .l y=>.l (Par.refl y)
 | .a f x=>.a (Par.refl f) (Par.refl x)
theorem PX.Par.ren {t s:PX} (h:Par t s):∀r:Nat->Nat,Par (t.ren r) (s.ren r):=by
 induction h with
 |v i=>intro r; exact .v _
 |c k=>intro r; exact .c _
 |l _ d=>intro r; exact .l (d _)
 |a _ _ h1 h2=>intro r; exact .a (h1 _) (h2 _)
 |b _ _ h1 h2=>intro r; rw[PX.ren_ins]; exact .b (h1 _) (h2 _)
theorem PX.Par.up {s s':Nat->PX} (h:∀i,Par (s i) (s' i)):∀i,Par (PX.up s i) (PX.up s' i)
 |0=>.v 0
 |i+1=>(h i).ren _
theorem PX.Par.sub {t e:PX} (h:Par t e):∀ {s s':Nat->PX},(∀i,Par (s i) (s' i))->Par (t.sub s) (e.sub s'):=by
 induction h with
 |v i=>intro s s' d; exact d i
 |c k=>intro s s' d; exact .c k
 |l _ f=>intro s s' d; exact .l (f (PX.Par.up d))
 |a _ _ h1 h2=>intro s s' d; exact .a (h1 d) (h2 d)
 |b _ _ h1 h2=>intro s s' d; rw[PX.sub_ins]; exact .b (h1 (PX.Par.up d)) (h2 d)
theorem PX.Par.ins {z a b b':PX} (hz:Par z a) (hb:Par b b'):Par (b.sub (PX.ins z)) (b'.sub (PX.ins a)):=
 hb.sub λi=>by cases i with|zero=>exact hz|succ i=>exact .v i
def PX.dev:PX->PX
 | .v i=>.v i
 | .c k=>.c k
 | .l b=>.l b.dev
 | .a (.l b) x=>b.dev.sub (ins x.dev)
 | .a f x=>.a f.dev x.dev
theorem PX.Par.lam {b t:PX} (h:Par (.l b) t):∃b',t=.l b'/\Par b b':=by
 cases h with
 |l h=>exact⟨_,rfl,h⟩
theorem PX.taka {t s:PX} (h:Par t s):Par s t.dev:=by
 induction h with
 |v i=>exact .v i
 |c k=>exact .c k
 |l _ j=>exact .l j
 | @a f f' x x' h1 h2 d i2=>
  cases f with
  |v i=>exact .a d i2
  |c k=>exact .a d i2
  |a g y=>exact .a d i2
  |l b=>obtain⟨b',rfl,hb⟩:=h1.lam;simp only[PX.dev];have m:Par (.l b') (.l b.dev):=d;obtain⟨b2,e,n⟩:=m.lam;cases e;exact .b n i2
 |b _ _ d i2=>exact PX.Par.ins i2 d
inductive PX.Pars:PX->PX->Prop where
 |refl (t:PX):Pars t t
 |tail {t s u:PX}:Pars t s->Par s u->Pars t u
theorem PX.Pars.trans {t s u:PX} (h:Pars t s) (k:Pars s u):Pars t u:=by
 induction k with
 |refl=>exact h
 |tail _ h2 a=>exact .tail a h2
theorem PX.Pars.one {t s:PX} (h:Par t s):Pars t s:=.tail (.refl t) h
theorem PX.strip {t s u:PX} (h:Par t s) (k:Pars t u):∃w,Pars s w/\Par u w:=by
 induction k with
 |refl=>exact⟨s,.refl s,h⟩
 |tail _ h2 a=>obtain⟨w,h3,b⟩:=a;exact⟨_,h3.tail (PX.taka b),PX.taka h2⟩
theorem PX.meet {t s u:PX} (h:Pars t s) (k:Pars t u):∃w,Pars s w/\Pars u w:=by
 induction h with
 |refl=>exact⟨u,k,.refl u⟩
 |tail _ h2 a=>obtain⟨w,h3,b⟩:=a;obtain⟨x,h5,h6⟩:=PX.strip h2 h3;exact⟨x,h5,b.tail h6⟩
def PX.isl:PX->Bool
 | .l _=>true
 |_=>false
def PX.st:PX->Bool
 | .v _=>false
 | .c _=>false
 | .l b=>b.st
 | .a f x=>f.isl||f.st||x.st
theorem PX.Par.nf {t s:PX} (h:Par t s):t.st=false->s=t:=by
 induction h with
 |v i=>intro _; rfl
 |c k=>intro _; rfl
 |l _ e=>intro d; rw[e d]
 |a _ _ h1 h2=>intro d; simp[PX.st] at d; rw[h1 d.1.2,h2 d.2]
 |b _ _ _ _=>intro d; simp[PX.st,PX.isl] at d
theorem PX.Pars.nf {t s:PX} (h:Pars t s) (a:t.st=false):s=t:=by
 induction h with
 |refl=>rfl
 |tail _ h2 b=>subst b; exact h2.nf a
theorem PX.only {t s u:PX} (h:Pars t s) (k:Pars t u) (a:s.st=false) (hu:u.st=false):s=u:=by
 obtain⟨w,h1,h2⟩:=PX.meet h k;rw[<-h1.nf a,<-h2.nf hu]
