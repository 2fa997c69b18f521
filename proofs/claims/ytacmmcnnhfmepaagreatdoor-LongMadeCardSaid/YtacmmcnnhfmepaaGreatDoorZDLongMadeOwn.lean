import Derived.Test.YtacmmcnnhfmepaaGreatDoorZCLongMadeOwn
import Derived.Deep.AppendSrc
import Derived.Deep.AppendLies
import Derived.Laws.EntriesVeiled
import Derived.Lib.Builder
import Derived.RangeFuncNested
import Derived.RangeFuncBound
import Derived.RangeFuncCalls
import Derived.RangeFuncLeaves
import Derived.RangeFuncWrites
import Derived.Shelf.Abstract
import Derived.Shelf.RegionOpen
import Derived.OwnWalkIn
import Derived.TacticsInMore
import Derived.LoopNIn
import Derived.LoopIn
import Derived.Ground.SlgnProg
import Derived.Shelf.SlicesE.Clone
namespace Go.Proofs.YtacmmcnnhfmepaaGreatDoor
set_option linter.all false
set_option maxRecDepth 9999
set_option maxHeartbeats 0
open Go.RowKit Go.Proofs.Tryz
variable {P:Program} {W W' d w w' w1:World} {A G N O T c c0 cap e i n r:Nat} {L:List (ByteArray×Value)} {a a0:Option Addr} {t y:Lm} {Q X Y Z f g:Nat->Prop} {k m u x:Int} {l:List Ty} {b q u' v:Value} {xs:List Value} {inn ok s:Bool} {z:List Int} {α:Type}
theorem Yc {T a b:TypeId} (hm:P.underlying T=some (.map a b)) (h:BI w r L) (ty:TypeId):(Builtin.len_ #[T] ty #[.map (some r)]).run P w=.ok (zA (L.length:Int)) w:=by
 obtain⟨es,aa,hb,he,_⟩:=h;have c:es.size=L.length:=by have:=Dt List.length he; simpa using this
 simp[Builtin.len_,Fr hm,Gz hb,goInt,Result.andThen,c]
def D2:Nat->List ByteArray->List (ByteArray×Value)
 |_,[]=>[]
 |k,n::r=>(n,zA k)::D2 (k+1) r
theorem RX:∀(k:Nat) (a:List ByteArray),(D2 k a).length=a.length
 |_,[]=>rfl
 |k,n::r=>by simp[D2,RX (k+1) r]
theorem RY {s:ByteArray}:∀ {l:List ByteArray},BH s l<l.length->s∈l
 | [],h=>by simp[BH] at h
 |n::r,h=>by
  rw[BH]at h;split at h
  ·rename_i e; simp[e]
  ·exact List.mem_cons_of_mem _ (RY (by simp at h; omega))
theorem RZ (s:ByteArray):∀(k:Nat) (a:List ByteArray),BK (D2 k a) s=if BH s a<a.length then some (zA ((k+BH s a:Nat):Int)) else none
 |_,[]=>by simp[D2,BK]
 |k,n::r=>by
  have b:=RZ s (k+1) r;by_cases h:n=s
  ·have e:BH s (n::r)=0:=(by simp[BH,h]);rw[Aq (show BH s (n::r)<(n::r).length by rw[e]; simp),e];simp[D2,BK,h]
  ·have e:BH s (n::r)=BH s r+1:=(by simp[BH,h]);have e2:BK (D2 k (n::r)) s=BK (D2 (k+1) r) s:=(by simp[D2,BK,h]);rw[e2,b];by_cases h2:BH s r<r.length
   ·rw[Aq h2,Aq (show BH s (n::r)<(n::r).length by rw[e]; simp; omega),e];rw[show k+1+BH s r=k+(BH s r+1) by omega]
   ·rw[Am h2,Am (show ¬BH s (n::r)<(n::r).length by rw[e]; simp; omega)]
theorem Sa (s:ByteArray):∀(k:Nat) (a:List ByteArray),D2 k (a++[s])=D2 k a++[(s,zA ((k+a.length:Nat):Int))]
 |k,[]=>by simp[D2]
 |k,n::r=>by
  simp only[Dj,D2,Sa s (k+1) r,Cl];rw[show k+1+r.length=k+(r.length+1) by omega]
theorem Yd {a:List ByteArray} (r:List ByteArray) (l:List Tm):(∀k∈Aw l,k.args=[]->k.name∈a)->DZ (a++r) l=DZ a l:=by
 induction l using Tm.indL with
 |h0=>intro _; simp[DZ]
 |h s l q b c=>
  intro h;simp only[DZ];rw[b λk hk=>h k (by simp[Aw,hk]),c λk hk=>h k (by simp[Aw,hk])];congr 1
  unfold Hg;by_cases h0:l.length=0
  ·rw[Aq h0,Aq h0,Ru r (h ⟨s,l⟩ (by simp[Aw]) (GV.1 h0))]
  ·rw[Am h0,Am h0]
theorem Ye {a:List ByteArray} (r:List ByteArray) {t:Tm} (h:∀k∈Aw [t],k.args=[]->k.name∈a):Cq (a++r) t=Cq a t:=by
 have h1:=Yd r [t] h;rw[GQ,GQ,Il,Il]at h1;exact(List.cons.inj h1).1
theorem Sc (l:List Tm):AX l->∀b,∀k∈Aw l,k.args=[]->k.name∈AU b (Aw l):=by
 intro hk b;have key:∀(a:List Tm) (acc:List ByteArray),(∀k∈a,Mo k.name k.args)->(∀y∈acc,y∈AU acc a)/\∀k∈a,k.args=[]->k.name∈AU acc a:=by
  intro a;induction a with
  |nil=>intro acc _; exact⟨λy hy=>by simpa [AU] using hy,λk hk=>by simp at hk⟩
  |cons x q d=>
   intro acc hq;have h1:=d (CO acc x.name) λk hk=>hq k (by simp[hk]);rw[show AU acc (x::q)=AU (CO acc x.name) q from rfl];refine⟨λy hy=>h1.1 y (XP hy),λk hk c=>?_⟩;rcases Ct.1 hk with rfl|hk
   ·rcases hq k (by simp) with ⟨e,_⟩|⟨_,e⟩
    ·exact h1.1 _ (XN e)
    ·rw[c]at e; simp at e
   ·exact h1.2 k hk c
 exact(key (Aw l) b hk).2
theorem Yf (c:List ByteArray) (a b:Tm):AU c (Aw [Bu a b])=AU (AU c (Aw [a])) (Aw [b]):=by
 have h:Av ⟨#[102]⟩=false:=by decide
 have e:Aw [Bu a b]=⟨⟨#[102]⟩,[a,b]⟩::(Aw [a]++Aw [b]):=(by have h1:Aw [a,b]=Aw [a]++Aw [b]:=(by have:=Lw [a] [b];simpa using this);simp only[Bu,Aw,h1,List.append_nil]);rw[e,show AU c (⟨⟨#[102]⟩,[a,b]⟩::(Aw [a]++Aw [b]))=AU (CO c ⟨#[102]⟩) (Aw [a]++Aw [b]) from rfl,LH h,Qt]
theorem Si (a:List ByteArray) (s:ByteArray):AU a (Aw [(⟨s,[]⟩:Tm)])=CO a s:=by simp[Aw,AU]
theorem Jy (a:List ByteArray) (s:ByteArray):Cq a ⟨s,[]⟩=⟨(BH s a:Nat),[]⟩:=by simp[Cq,Hg]
theorem Sj (c:List ByteArray) (a b:Tm):Cq c (Bu a b)=⟨0,[Cq c a,Cq c b]⟩:=by simp[Cq,Hg,Bu,GQ,Il]
theorem Sk {t:Tm} (h:AX [t]):(Av t.name=true/\t=⟨t.name,[]⟩)∨∃a b,t=Bu a b/\AX [a]/\AX [b]:=by
 obtain⟨s,l⟩:=t;obtain⟨h1,h2⟩:=AX.one.1 h;rcases h1 with ⟨e1,e2⟩|⟨e1,e2⟩
 ·have e3:l=[]:=e2;subst e3;exact Ad ⟨e1,rfl⟩
 ·have e3:s=⟨#[102]⟩:=e1;subst e3;match l,e2,h2 with
  | [a,b],_,h2=>have h3:=AX.all.1 h2;exact Ae ⟨a,b,rfl,h3 a (by simp),h3 b (by simp)⟩
theorem Sm {p r:Tm} (h:Sl w X a [p,r]):
  ∃b' o' d c1 a2 c2,a=some (zD b' o')/\∀w' Q,Al Q w w'->(∀b,X b->¬Q b)->(w'.cell? (zD b' o')=some (.string p.name)/\w'.cell? ⟨b',o'+1,none⟩=some (.slice d p.args.length c1)/\w'.cell? ⟨b',o'+2,none⟩=some (.string r.name)/\w'.cell? ⟨b',o'+2+1,none⟩=some (.slice a2 r.args.length c2))/\TV w' X (.agg (zG p d c1)) p/\TV w' X (.agg (zG r a2 c2)) r:=by
 obtain⟨c,i,d,c1,rfl,d0,d1,⟨x1,y1,e1,j⟩⟩:=h.get (Ac w.heap.size w) (λ_ _ h=>h) 0 (by simp);obtain⟨b2,o2,a2,c2,e2,d2,d3,⟨x2,y2,e3,k⟩⟩:=h.get (Ac w.heap.size w) (λ_ _ h=>h) 1 (by simp);cases e2;cases e1;cases e3;have m:X c:=by
  rcases h.2 with h0|⟨b,o,e,g⟩
  ·simp at h0
  ·cases e;obtain⟨s,l⟩:=p;simp only[DT] at g;exact g.1
 have n:c<w.heap.size:=(by apply Er;intro hn;have e:w.heap[c]? = none:=Iz (by omega);simp[World.cell?,e]at d0);refine⟨c,i,d,c1,a2,c2,rfl,λw' Q he f=>⟨?_,⟨d,c1,rfl,j.exq he f⟩,⟨a2,c2,rfl,k.exq he f⟩⟩⟩;have e:∀o,w'.cell? (zD c o)=w.cell? (zD c o):=λo=>DI (he.block c n (f c m));rw[e,e,e,e];exact⟨by simpa using d0,by simpa using d1,by simpa using d2,by simpa using d3⟩
theorem Sn {g c2:Nat} {a2:Option Addr} {f x:Ty} (b:Ab w g #[zA f.base,.slice a f.subs.length c,zA x.base,.slice a2 x.subs.length c2] T) (d:Y g) (h1:AC w Y a f.subs) (h2:AC w Y a2 x.subs):AC w Y (some (zD g 0)) [f,x]:=by
 obtain⟨s,l⟩:=f;obtain⟨s2,l2⟩:=x;refine⟨by simp,Ae ⟨g,0,rfl,?_⟩⟩;simp only[DH];exact⟨d,b.cell 0,⟨a,c,b.cell 1,h1⟩,d,b.cell 2,⟨a2,c2,b.cell 3,h2⟩,trivial⟩
theorem AC.exq (h:AC w X a l) (he:Al Q w w') (c:∀b,X b->¬Q b):AC w' X a l:=
 ((h.mono (Y:=λb=>X b/\b<w.heap.size) λb h1 h2=>⟨h1,h2⟩).kept λb hb=>he.block b hb.2 (c b hb.1)).mono λb hb _=>hb.1
theorem BI.exq (h:BI w r L) (he:Al Q w w') (a:¬Q r):BI w' r L:=h.kept (he.block r h.lt a)
def Sp (t:Tm) (ns:List ByteArray) (r:Nat) (w:World) (e:Ending) (w':World):Prop:=
 ∃a c,e=.returned (.agg #[zA (Cq (AU ns (Aw [t])) t).base,.slice a (Cq (AU ns (Aw [t])) t).subs.length c])/\AC w' (λb=>w.heap.size<=b) a (Cq (AU ns (Aw [t])) t).subs/\BI w' r (D2 0 (AU ns (Aw [t])))/\Al (λb=>b=r) w w'
theorem Yg (t:Tm):∀(f:List ByteArray) (v:Value) (r:Nat) (w:World) (X:Nat->Prop),AX [t]->TV w X v t->(∀b,X b->b≠r)->BI w r (D2 0 f)->f.length+Ah [t]<=100000->
  Calls prog 90 #[v,.map (some r)] w λe w'=>Sp t f r w e w':=by
 induction t using Tm.ind with
 |h g L ih=>
  intro f v r w X hk hv hX hM hz;have IH:=Aa ih;clear ih;obtain⟨a,c,rfl,hs⟩:=hv;have aW:=hM.lt;have W:=Aa hX;have H:Hid (Below w.heap.size w ((w.alloc (zp #[.string g,.slice a L.length c] 61)).alloc zj)):=((Ac _ _).alloc (Af _) _).alloc (by simp) _;have Y:Hid (Ab ((w.alloc (zp #[.string g,.slice a L.length c] 61)).alloc zj) w.heap.size #[.string g,.slice a L.length c] 61):=(Ab.new _ _ _).alloc _;have A:Hid (Ab ((w.alloc (zp #[.string g,.slice a L.length c] 61)).alloc zj) (w.heap.size+1) #[zA 0,zB] 27):=by have h:=Ab.new (w.alloc (zp #[.string g,.slice a L.length c] 61)) #[zA 0,zB] 27; rw[Ca] at h; exact h
  have M2:=Aa (hM.below H.o hM.lt);rcases Sk hk with ⟨hvb,ht⟩|⟨p,q,ht,M,aJ⟩
  ·have aK:L=[]:=(by injection ht);subst aK;have ah:Av g=true:=hvb;clear hk hvb ht hs IH;simp only[Ek] at *;go_in;go_upto_region 1 with fail;generalize ((w.alloc (zp #[.string g,.slice a 0 c] 61)).alloc zj)=w2 at *;have x0:=Y.o.c0;have r0:=A.o.c0;have r1:=A.o.c1;have f0:w2.frozen? (zD (w.heap.size+1) 0)=false:=A.o.frozen 0;have f1:w2.frozen? (zD (w.heap.size+1) 1)=false:=A.o.frozen 1;have HV:=Aa (DU g w2);have an:=Aa ah;clear ah;have I:=RZ g 0 f;have ao:=zeroValue3 w2;by_cases C:g∈f
   ·rw[Aq (Mr C)]at I;have J:Hid (AU f (Aw [(⟨g,[]⟩:Tm)])=f):=Aa (by rw[Si,Ko an.o (Ks.2 C)]);have aL:=Mr C;have ab:(Instr.lookup 134 (.map (some r)) (.string g) true).run prog w2=.ok (.tuple #[zA ((BH g f:Nat):Int),.bool true]) w2:=by rw[Ii (P:=prog) underlying134 underlying9 ao M2.o _,I]; simp
    obtain⟨k,O⟩:∃k,k=BH g f:=⟨_,rfl⟩;rw[<-O]at ab;have HK:=Aa O;clear O I ao C aL;go_wp2_with fail;refine HV.o.mono ?_;rintro e w3 ⟨rfl,rfl⟩;rw[an.o];go_wp2_with fail;have Z:Hid (Ab ((w3.setCell (zD (w.heap.size+1) 0) (zA k)).setCell (zD (w.heap.size+1) 1) zB) (w.heap.size+1) #[zA k,zB] 27):=(A.o.set 0 _).set 1 _;have M3:Hid (BI ((w3.setCell (zD (w.heap.size+1) 0) (zA k)).setCell (zD (w.heap.size+1) 1) zB) r (D2 0 f)):=M2.o.kept (by rw[Ak _ _ _ _ (by simp; omega),Ak _ _ _ _ (by simp; omega)]);have E3:Hid (Al (λb=>b=r) w ((w3.setCell (zD (w.heap.size+1) 0) (zA k)).setCell (zD (w.heap.size+1) 1) zB)):=((Al.ofBelow H.o).setNew (by omega) 0 _).setNew (by omega) 1 _;generalize ((w3.setCell (zD (w.heap.size+1) 0) (zA k)).setCell (zD (w.heap.size+1) 1) zB)=u at *;have c0:=Z.o.cell 0;have c1:=Z.o.cell 1;simp only[BP,BU,BQ] at c0 c1;refine Ao (v:=.agg #[zA k,zB]) (by simp[results,results90,go_sem,c0,c1]) rfl ?_;refine⟨none,0,?_,?_,?_,E3.o⟩
    ·rw[J.o,Jy,HK.o]; rfl
    ·rw[J.o,Jy]; exact⟨by simp,Ad rfl⟩
    ·rw[J.o]; exact M3.o
   ·rw[Am (λh=>C (RY h))]at I;have J:Hid (AU f (Aw [(⟨g,[]⟩:Tm)])=f++[g]):=Aa (by rw[Si,Kn an.o (by cases h:Ch g f with|true=>exact absurd (Ks.1 h) C|false=>rfl)]);have HK:Hid (f.length=BH g (f++[g])):=(Rv C).symm;have ab:(Instr.lookup 134 (.map (some r)) (.string g) true).run prog w2=.ok (.tuple #[zA 0,.bool false]) w2:=by rw[Ii (P:=prog) underlying134 underlying9 ao M2.o _,I]; simp
    have hlen:(Builtin.len_ #[134] 3 #[.map (some r)]).run prog w2=.ok (zA (f.length:Int)) w2:=(by rw[Yc underlying134 M2.o,RX]);obtain⟨n,ai,aB,aM,aC,aD,aE,M⟩:=LE (P:=prog) underlying134 underlying9 M2.o g (zA (f.length:Int)) I;have E4:Hid (Al (λb=>b=r) w n):=(Al.ofBelow H.o).trans ⟨aC,aD,aE,by omega,λb _ hn=>M b hn⟩;have M4:Hid (BI n r (D2 0 (f++[g]))):=Aa (by rw[Sa,show 0+f.length=f.length by omega];exact aB);have R4:Hid (Ab n (w.heap.size+1) #[zA 0,zB] 27):=(M _ (by omega)).trans A.o;have q0:=R4.o.c0;have q1:=R4.o.c1;have g0:n.frozen? (zD (w.heap.size+1) 0)=false:=R4.o.frozen 0;have g1:n.frozen? (zD (w.heap.size+1) 1)=false:=R4.o.frozen 1;obtain⟨k,O⟩:∃k,k=f.length:=⟨_,rfl⟩;rw[<-O]at hlen ai HK;have aX:r<n.heap.size:=M4.o.lt;clear O I ao C aB aM aC aD aE M;go_wp2_with fail;refine HV.o.mono ?_;rintro e w3 ⟨rfl,aj⟩;rw[aj];rw[an.o];clear aj;go_wp2_with fail;have Z:Hid (Ab ((n.setCell (zD (w.heap.size+1) 0) (zA k)).setCell (zD (w.heap.size+1) 1) zB) (w.heap.size+1) #[zA k,zB] 27):=(R4.o.set 0 _).set 1 _;have M3:Hid (BI ((n.setCell (zD (w.heap.size+1) 0) (zA k)).setCell (zD (w.heap.size+1) 1) zB) r (D2 0 (f++[g]))):=M4.o.kept (by rw[Ak _ _ _ _ (by simp; omega),Ak _ _ _ _ (by simp; omega)]);have E3:Hid (Al (λb=>b=r) w ((n.setCell (zD (w.heap.size+1) 0) (zA k)).setCell (zD (w.heap.size+1) 1) zB)):=(E4.o.setNew (by omega) 0 _).setNew (by omega) 1 _;generalize ((n.setCell (zD (w.heap.size+1) 0) (zA k)).setCell (zD (w.heap.size+1) 1) zB)=u at *;have c0:=Z.o.cell 0;have c1:=Z.o.cell 1;simp only[BP,BU,BQ] at c0 c1;refine Ao (v:=.agg #[zA k,zB]) (by simp[results,results90,go_sem,c0,c1]) rfl ?_;refine⟨none,0,?_,?_,?_,E3.o⟩
    ·rw[J.o,Jy,HK.o]; rfl
    ·rw[J.o,Jy]; exact⟨by simp,Ad rfl⟩
    ·rw[J.o]; exact M3.o
  ·injection ht with e1 e2
   subst e1;subst e2;obtain⟨b',o',a1,c1,a2,c2,rfl,aF⟩:=Sm hs;have KP:=Aa aF;clear aF hs hk;have aG:Ah [(⟨⟨#[102]⟩,[p,q]⟩:Tm)]=1+(Ah [p]+Ah [q]):=NY p q;rw[aG]at hz;clear aG;have IP:=Aa (IH.o p (by simp));have IQ:=Aa (IH.o q (by simp));clear IH;have e2:([p,q]:List Tm).length=2:=rfl;rw[e2]at *;clear e2;have aN:Hid (Av ⟨#[102]⟩=false):=Aa (by decide);have ak:=Aa (Yf f p q);have aH:=Aa (λN=>Sj N p q);change Calls prog _ _ _ (λe w'=>Sp (Bu p q) f r w e w');go_in;go_upto_region 1 with fail;generalize ((w.alloc (zp #[.string ⟨#[102]⟩,.slice (some (zD b' o')) 2 c] 61)).alloc zj)=w2 at *;have HV:=Aa (DU ⟨#[102]⟩ w2);have x0:=Y.o.c0;have x1:=Y.o.c1;obtain⟨⟨y0,y1,y2,y3⟩,hp,hq⟩:=KP.o w2 (λb=>b=r) (Al.ofBelow H.o) W.o;go_wp2_with fail;refine HV.o.mono ?_;rintro e w3 ⟨rfl,aj⟩;rw[aj,aN.o];clear aj;go_wp2_with fail;refine(IP.o f _ r w2 X M hp W.o M2.o (by omega)).mono ?_;rintro e n ⟨a4,j,rfl,aq,av,aI⟩;obtain⟨D,ar⟩:∃D,D=AU f (Aw [p]):=⟨_,rfl⟩;rw[<-ar]at aq av ak ⊢;have aO:Hid (∀k∈Aw [p],k.args=[]->k.name∈D):=by rw[ar]; exact Sc [p] M f
   have aY:D.length<=f.length+Ah [p]:=by rw[ar]; have h:=LI (Aw [p]) f; rw[Kh] at h; exact h
   clear ar;obtain⟨d,aw⟩:∃d,d=Cq D p:=⟨_,rfl⟩;rw[<-aw]at aq ⊢;have aP:=Aa aw;clear aw;have R:=Aa (And.intro aq (And.intro av aI));clear aq av aI y0 y1 y2 y3 hp hq x0 x1;have O5:Hid (Below n.heap.size n (n.alloc (zn d a4 j))):=(Ac _ _).alloc (Af _) _;have V5:Hid (Ab (n.alloc (zn d a4 j)) n.heap.size (zH d a4 j) 27):=Ab.new _ _ _;have S5:=Aa (R.o.1.later O5.o);have M5:=Aa (R.o.2.1.below O5.o R.o.2.1.lt);have T:Hid (Al (λb=>b=r) w2 (n.alloc (zn d a4 j))):=R.o.2.2.trans (Al.ofBelow O5.o);have A5:=Aa (Y.o.exq T.o (by omega));have R5:=Aa (A.o.exq T.o (by omega));have z:Hid (w.heap.size+1<w2.heap.size):=A.o.lt;have g24:Hid (w2.heap.size<=n.heap.size):=R.o.2.2.size;clear R O5 M2 Y A;go_upto_region 8 with fail;generalize n.heap.size=V at *;generalize n.alloc (zn d a4 j)=u at *;have aQ:Hid (r<V):=Aa (by have h2:=g24.o;have h3:=z.o;omega);have KS:Hid (∀w',(Ab w' V (zH d a4 j) 27/\Ab w' w.heap.size #[.string ⟨#[102]⟩,.slice (some (zD b' o')) 2 c] 61/\Al (λb=>b=r∨b=w.heap.size+1) w w')->(w'.cell? (zD V 0)=some (zA d.base)/\w'.cell? (zD V 1)=some (.slice a4 d.subs.length j))/\w'.cell? (zD w.heap.size 1)=some (.slice (some (zD b' o')) 2 c)/\w'.cell? ⟨b',o'+2,none⟩=some (.string q.name)/\w'.cell? ⟨b',o'+2+1,none⟩=some (.slice a2 q.args.length c2)):=λw' h=>by
    have h1:=(KP.o w' (λb=>b=r) (h.2.2.mono λi hi hlt=>hi.elim id (λe=>by omega)) W.o).1;exact⟨⟨h.1.cell 0,h.1.cell 1⟩,h.2.1.cell 1,h1.2.2.1,h1.2.2.2⟩
   have EW:Hid (∀w',Al (λb=>b=r) w2 w'->Al (λb=>b=r∨b=w.heap.size+1) w w'):=λw' h=>((Al.ofBelow H.o).trans h).mono λi hi _=>Ad hi;have kd:Ab u.drew V (zH d a4 j) 27/\Ab u.drew w.heap.size #[.string ⟨#[102]⟩,.slice (some (zD b' o')) 2 c] 61/\Al (λb=>b=r∨b=w.heap.size+1) w u.drew:=⟨V5.o,A5.o,(EW.o u T.o).drew⟩;refine Co (S:=λw'=>Ab w' V (zH d a4 j) 27/\Ab w' w.heap.size #[.string ⟨#[102]⟩,.slice (some (zD b' o')) 2 c] 61/\Al (λb=>b=r∨b=w.heap.size+1) w w') (by kernel_rfl) kd λhH=>?_;refine tkz 0 ?_ (hy:=by intro w' al;obtain⟨⟨y0,y1⟩,y2,y3,y4⟩:=KS.o w' al;go_simp<;>with_reducible rfl);refine tkz 1 ?_;refine tkz 2 ?_ (hy:=by intro w' al;obtain⟨⟨y0,y1⟩,y2,y3,y4⟩:=KS.o w' al;go_simp<;>with_reducible rfl);refine tkz 3 ?_;refine tkz 4 ?_ (hy:=by intro w' al;obtain⟨⟨y0,y1⟩,y2,y3,y4⟩:=KS.o w' al;go_simp<;>with_reducible rfl);refine tkz 5 ?_;refine rdq 6 rfl λK E=>?_;go_simp;go_at_call 90;refine(IQ.o D _ r u.drew X aJ (KP.o u.drew (λb=>b=r) (((Al.ofBelow H.o).trans T.o).drew) W.o).2.2 W.o (M5.o.exq ((Al.refl (λ_=>False) u).drew) (λh=>h)) (by omega)).mono ?_;rintro e m ⟨B,F,rfl,au,ax,U⟩;obtain⟨N2,ay⟩:∃N2,N2=AU D (Aw [q]):=⟨_,rfl⟩;rw[<-ay]at au ax ak ⊢;obtain⟨rr,az⟩:=XQ (Aw [q]) D;rw[<-ay]at az;have a7:Hid (d=Cq N2 p):=Aa (by rw[aP.o,az,Ye rr aO.o]);clear ay az;obtain⟨s,a8⟩:∃s,s=Cq N2 q:=⟨_,rfl⟩;rw[<-a8]at au ⊢;have aR:=Aa a8;clear a8;have E6:Hid (Al (λb=>b=r) w2 m):=(T.o.drew).trans U;have V6:Hid (Ab m V (zH d a4 j) 27):=(show Ab u.drew V (zH d a4 j) 27 from V5.o).exq U (λe=>by have h1:=aQ.o; omega);have A6:Hid (Ab m w.heap.size #[.string ⟨#[102]⟩,.slice (some (zD b' o')) 2 c] 61):=(show Ab u.drew w.heap.size #[.string ⟨#[102]⟩,.slice (some (zD b' o')) 2 c] 61 from A5.o).exq U (by omega);have R6:Hid (Ab m (w.heap.size+1) #[zA 0,zB] 27):=(show Ab u.drew (w.heap.size+1) #[zA 0,zB] 27 from R5.o).exq U (by omega);have aS:Hid (AC m (λb=>w2.heap.size<=b) a4 d.subs):=(S5.o.later ((Ac _ _).drew)).exq U (λb hb e=>by have h1:=z.o; omega);have aT:Hid (AC m (λb=>w2.heap.size<=b) B s.subs):=au.mono λb hb _=>AJ T.o.size hb;have M6:=Aa ax;have k6:Ab m V (zH d a4 j) 27/\Ab m w.heap.size #[.string ⟨#[102]⟩,.slice (some (zD b' o')) 2 c] 61/\Al (λb=>b=r∨b=w.heap.size+1) w m:=⟨V6.o,A6.o,EW.o m E6.o⟩;clear au ax U S5 M5 V5 A5 R5;go_simp;refine zo E (by exact k6) λhH=>?_;clear E K;have k7:Ab (m.alloc (zp #[zA d.base,.slice a4 d.subs.length j,zA s.base,.slice B s.subs.length F] 27)) V (zH d a4 j) 27/\Ab (m.alloc (zp #[zA d.base,.slice a4 d.subs.length j,zA s.base,.slice B s.subs.length F] 27)) w.heap.size #[.string ⟨#[102]⟩,.slice (some (zD b' o')) 2 c] 61/\Al (λb=>b=r∨b=w.heap.size+1) w (m.alloc (zp #[zA d.base,.slice a4 d.subs.length j,zA s.base,.slice B s.subs.length F] 27)):=⟨k6.1.alloc _,k6.2.1.alloc _,k6.2.2.alloc _⟩;have C7:Hid (Ab (m.alloc (zp #[zA d.base,.slice a4 d.subs.length j,zA s.base,.slice B s.subs.length F] 27)) m.heap.size #[zA d.base,.slice a4 d.subs.length j,zA s.base,.slice B s.subs.length F] 27):=Ab.new _ _ _;have O7:Hid (Below m.heap.size m (m.alloc (zp #[zA d.base,.slice a4 d.subs.length j,zA s.base,.slice B s.subs.length F] 27))):=(Ac _ _).alloc (Af _) _;refine rdq 7 rfl λK E=>?_;go_simp;refine zo E (by exact k7) λhH=>?_;clear E K;refine tkz 8 ?_;have R7:=Aa (R6.o.below O7.o R6.o.lt);have M7:=Aa (M6.o.below O7.o M6.o.lt);have aU:=Aa (aS.o.later O7.o);have aV:=Aa (aT.o.later O7.o);have E7:Hid (Al (λb=>b=r) w2 (m.alloc (zp #[zA d.base,.slice a4 d.subs.length j,zA s.base,.slice B s.subs.length F] 27))):=E6.o.trans (Al.ofBelow O7.o);have aA:Hid (w2.heap.size<=m.heap.size):=E6.o.size;generalize m.alloc (zp #[zA d.base,.slice a4 d.subs.length j,zA s.base,.slice B s.subs.length F] 27)=y at *;generalize m.heap.size=G at *;have r0:=R7.o.c0;have r1:=R7.o.c1;have f0:y.frozen? (zD (w.heap.size+1) 0)=false:=R7.o.frozen 0;have f1:y.frozen? (zD (w.heap.size+1) 1)=false:=R7.o.frozen 1;have k8:Ab ((y.setCell (zD (w.heap.size+1) 0) (zA 0)).setCell (zD (w.heap.size+1) 1) (.slice (some (zD G 0)) 2 2)) V (zH d a4 j) 27/\Ab ((y.setCell (zD (w.heap.size+1) 0) (zA 0)).setCell (zD (w.heap.size+1) 1) (.slice (some (zD G 0)) 2 2)) w.heap.size #[.string ⟨#[102]⟩,.slice (some (zD b' o')) 2 c] 61/\Al (λb=>b=r∨b=w.heap.size+1) w ((y.setCell (zD (w.heap.size+1) 0) (zA 0)).setCell (zD (w.heap.size+1) 1) (.slice (some (zD G 0)) 2 2)):=⟨(k7.1.setOther 0 _ (by have h1:=z.o; have h2:=g24.o; omega)).setOther 1 _ (by have h1:=z.o; have h2:=g24.o; omega),(k7.2.1.setOther 0 _ (by omega)).setOther 1 _ (by omega),(k7.2.2.set (Ae rfl) 0 _).set (Ae rfl) 1 _⟩;refine rdq 9 rfl λK E=>?_;go_simp;refine zo E (by exact k8) λhH=>?_;clear E K;refine dnq ?_;have R8:Hid (Ab ((y.setCell (zD (w.heap.size+1) 0) (zA 0)).setCell (zD (w.heap.size+1) 1) (.slice (some (zD G 0)) 2 2)) (w.heap.size+1) #[zA 0,.slice (some (zD G 0)) 2 2] 27):=(R7.o.set 0 _).set 1 _;have M8:Hid (BI ((y.setCell (zD (w.heap.size+1) 0) (zA 0)).setCell (zD (w.heap.size+1) 1) (.slice (some (zD G 0)) 2 2)) r (D2 0 N2)):=M7.o.kept (by rw[Ak _ _ _ _ (by simp; omega),Ak _ _ _ _ (by simp; omega)]);have E8:Hid (Al (λb=>b=r) w ((y.setCell (zD (w.heap.size+1) 0) (zA 0)).setCell (zD (w.heap.size+1) 1) (.slice (some (zD G 0)) 2 2))):=((((Al.ofBelow H.o).trans E7.o).setNew (by omega) 0 _).setNew (by omega) 1 _);have SE:Hid (∀(x:Option Addr) (l:List Ty),AC y (λb=>w2.heap.size<=b) x l->AC ((y.setCell (zD (w.heap.size+1) 0) (zA 0)).setCell (zD (w.heap.size+1) 1) (.slice (some (zD G 0)) 2 2)) (λb=>w2.heap.size<=b) x l):=λx l h=>h.kept λb hb=>by have h1:=z.o; rw[Ak _ _ _ _ (by simp; omega),Ak _ _ _ _ (by simp; omega)]
   have S8:Hid (AC ((y.setCell (zD (w.heap.size+1) 0) (zA 0)).setCell (zD (w.heap.size+1) 1) (.slice (some (zD G 0)) 2 2)) (λb=>w.heap.size<=b) (some (zD G 0)) [d,s]):=Sn ((C7.o.setOther 0 _ (by have h1:=z.o; have h2:=aA.o; omega)).setOther 1 _ (by have h1:=z.o; have h2:=aA.o; omega)) (by have h1:=z.o; have h2:=aA.o; omega) ((SE.o _ _ aU.o).mono λb hb _=>by have h1:=z.o; omega) ((SE.o _ _ aV.o).mono λb hb _=>by have h1:=z.o; omega);generalize ((y.setCell (zD (w.heap.size+1) 0) (zA 0)).setCell (zD (w.heap.size+1) 1) (.slice (some (zD G 0)) 2 2))=w8 at *;clear r0 r1 f0 f1;go_wp2_with fail;have c0:=R8.o.cell 0;have c1:=R8.o.cell 1;simp only[BP,BU,BQ] at c0 c1;refine Ao (v:=.agg #[zA 0,.slice (some (zD G 0)) 2 2]) (by simp[results,results90,go_sem,c0,c1]) rfl ?_;refine⟨some (zD G 0),2,?_,?_,?_,E8.o⟩
   ·rw[ak.o,aH.o]; rfl
   ·rw[ak.o,aH.o]; rw[<-a7.o,<-aR.o]; exact S8.o
   ·rw[ak.o]; exact M8.o
def Bl:List Ty->Prop
 | []=>True
 | ⟨_,l⟩::r=>(l=[]∨l.length=2)/\Bl l/\Bl r
theorem Q6 (t:Ty) (r:List Ty):Bl (t::r)↔(t.subs=[]∨t.subs.length=2)/\Bl t.subs/\Bl r:=by
 obtain⟨x,l⟩:=t;simp only[Bl]
theorem Mx (h:Bl [⟨x,l⟩]):l=[]∨∃p q,l=[p,q]/\Bl [p]/\Bl [q]:=by
 rw[Q6]at h;obtain⟨h1,h2,_⟩:=h;rcases h1 with h1|h1
 ·exact Ad h1
 ·have a:l.length=2:=h1;match l,a,h2 with
  | [p,q],_,h2=>rw[Q6]at h2;have h3:=h2.2.2;exact Ae ⟨p,q,rfl,(Q6 p []).2 ⟨h2.1,h2.2.1,by simp[Bl]⟩,h3⟩
def EO (w:World) (X:Nat->Prop):List (Int×Value)->List (Int×Ty)->Prop
 | [],[]=>True
 |p::r,q::s=>(p.1=q.1/\YV w X p.2 q.2)/\EO w X r s
 |_,_=>False
def FT (w:World) (r:Nat) (X:Nat->Prop) (σ:List (Int×Ty)):Prop:=∃L,Et w r L/\EO w X L σ
theorem YV.exq {t:Ty} (h:YV w X v t) (he:Al Q w w') (d:∀b,X b->¬Q b):YV w' X v t:=by
 obtain⟨a,c,e,f⟩:=h;exact⟨a,c,e,f.exq he d⟩
theorem EO.exq (he:Al Q w w') (a:∀b,X b->¬Q b):∀ {L:List (Int×Value)} {σ:List (Int×Ty)},EO w X L σ->EO w' X L σ
 | [],[],_=>trivial
 | [],_::_,h=>h.elim
 |_::_,[],h=>h.elim
 |p::r,q::s,h=>⟨⟨h.1.1,h.1.2.exq he a⟩,EO.exq he a h.2⟩
theorem FT.exq {σ:List (Int×Ty)} (h:FT w r X σ) (he:Al Q w w') (a:∀b,X b->¬Q b) (c:¬Q r):FT w' r X σ:=by
 obtain⟨L,h1,h2⟩:=h;exact⟨L,h1.kept (he.block r h1.lt c),h2.exq he a⟩
theorem FT.later {σ:List (Int×Ty)} (h:FT w r X σ) (hb:Below w.heap.size w w'):FT w' r X σ:=h.exq (Al.ofBelow (Q:=λ_=>False) hb) (λ_ _ h=>h) (λh=>h)
theorem FT.lt {σ:List (Int×Ty)} (h:FT w r X σ):r<w.heap.size:=by
 obtain⟨L,h1,_⟩:=h;exact h1.lt
theorem EO.get (n:Int):∀ {L:List (Int×Value)} {σ:List (Int×Ty)},EO w X L σ->(DD σ n=none->ET L n=none)/\∀t,DD σ n=some t->∃v,ET L n=some v/\YV w X v t
 | [],[],_=>⟨λ_=>rfl,λt h=>by simp[DD] at h⟩
 | [],_::_,h=>h.elim
 |_::_,[],h=>h.elim
 |p::r,q::s,h=>by
  obtain⟨⟨h1,h2⟩,h3⟩:=h;have a:=EO.get n h3;simp only[DD,ET];by_cases e:q.1=n
  ·rw[Aq e,Aq (h1.trans e)];refine⟨λh=>absurd h (by simp),λt ht=>?_⟩;rw[Jf]at ht;exact ht▸⟨_,rfl,h2⟩
  ·rw[Am e,Am (λe2=>e (h1.symm.trans e2))];exact a
theorem EO.push {n:Int} {t:Ty} (a:YV w X v t):∀ {L:List (Int×Value)} {σ:List (Int×Ty)},EO w X L σ->EO w X (L++[(n,v)]) (σ++[(n,t)])
 | [],[],_=>⟨⟨rfl,a⟩,trivial⟩
 | [],_::_,h=>h.elim
 |_::_,[],h=>h.elim
 |p::r,q::s,h=>⟨h.1,EO.push a h.2⟩
theorem My {p r:Ty} (h:AC w X a [p,r]):
  ∃b' o' c c1 a2 c2,a=some (zD b' o')/\∀w' Q,Al Q w w'->(∀b,X b->¬Q b)->(w'.cell? (zD b' o')=some (zA p.base)/\w'.cell? ⟨b',o'+1,none⟩=some (.slice c p.subs.length c1)/\w'.cell? ⟨b',o'+2,none⟩=some (zA r.base)/\w'.cell? ⟨b',o'+2+1,none⟩=some (.slice a2 r.subs.length c2))/\YV w' X (.agg (zH p c c1)) p/\YV w' X (.agg (zH r a2 c2)) r:=by
 obtain⟨_,h|⟨b',o',rfl,f⟩⟩:=h
 ·simp at h
 obtain⟨hx,d0,c,c1,d1,g⟩:=Kd _ _ _ f 0 (by simp);obtain⟨_,d2,a2,c2,d3,i⟩:=Kd _ _ _ f 1 (by simp);have j:b'<w.heap.size:=by
  apply Er;intro hn;have e:w.heap[b']? = none:=Iz (by omega);simp[World.cell?,e]at d0
 refine⟨b',o',c,c1,a2,c2,rfl,λw' Q he d=>⟨?_,⟨c,c1,rfl,g.exq he d⟩,⟨a2,c2,rfl,i.exq he d⟩⟩⟩;have e:∀o,w'.cell? (zD b' o)=w.cell? (zD b' o):=λo=>DI (he.block b' j (d b' hx));rw[e,e,e,e];exact⟨by simpa using d0,by simpa using d1,by simpa using d2,by simpa using d3⟩
structure Fit (w:World) (S F r:Nat):Prop where
 s:Ab w S #[.map (some r)] 113
 f:Ab w F #[.func (.func 74) #[] #[zC S,zC F]] 36
 sr:S≠r
 fr:F≠r
theorem Fit.exq {S F:Nat} (h:Fit w S F r) (he:Al (λb=>b=r) w w'):Fit w' S F r:=⟨h.s.exq he h.sr,h.f.exq he h.fr,h.sr,h.fr⟩
def Yh (p t:Ty) (σ:List (Int×Ty)) (r:Nat) (X:Nat->Prop) (w:World) (e:Ending) (w':World):Prop:=e=.returned (.bool (CV p t σ).1)/\FT w' r X (CV p t σ).2/\Al (λb=>b=r) w w'
theorem Yi (S F r:Nat) (p:Ty):∀(t:Ty) (σ:List (Int×Ty)) (v u:Value) (w:World) (Z X:Nat->Prop),Bl [p]->YV w Z v p->YV w X u t->(∀b,Z b->b≠r)->(∀b,X b->b≠r)->FT w r X σ->Fit w S F r->
  Calls prog 74 #[v,u,zC S,zC F] w λe w'=>Yh p t σ r X w e w':=by
 induction p using Ty.ind with
 |h g l0 ih=>
  intro t σ v u w Z X au hv hu hZ hX hM hF;have IH:=Aa ih;clear ih;obtain⟨a,c,rfl,hs⟩:=hv;have HU:=Aa hu;obtain⟨E,c',rfl,az⟩:=hu;have V:=Aa hX;have HZ:=Aa hZ;have aU:=hM.lt;have B2:Hid (Below w.heap.size w ((w.alloc (zp #[zA g,.slice a l0.length c] 27)).alloc (zn t E c'))):=((Ac _ _).alloc (Af _) _).alloc (by simp) _;have U:Hid (Ab ((w.alloc (zp #[zA g,.slice a l0.length c] 27)).alloc (zn t E c')) w.heap.size #[zA g,.slice a l0.length c] 27):=(Ab.new _ _ _).alloc _;have M:Hid (Ab ((w.alloc (zp #[zA g,.slice a l0.length c] 27)).alloc (zn t E c')) (w.heap.size+1) (zH t E c') 27):=by have h:=Ab.new (w.alloc (zp #[zA g,.slice a l0.length c] 27)) (zH t E c') 27; rw[Ca] at h; exact h
  have M2:=Aa (hM.later B2.o);have D:=Aa (hF.exq (Al.ofBelow B2.o));have a1:=Aa (HU.o.later B2.o);rcases Mx au with rfl|⟨p,q,rfl,hp,hq⟩
  ·clear IH hs au hM hF;simp only[Ek] at *;go_in;go_upto_region 1 with fail;generalize ((w.alloc (zp #[zA g,.slice a 0 c] 27)).alloc (zn t E c'))=w2 at *;have aV:=U.o.c0;have a6:=U.o.c1;have z0:=M.o.c0;have z1:=M.o.c1;have s0:=D.o.s.c0;obtain⟨L,ah,ao⟩:=M2.o;have hg:=ao.get g;have aq:=zeroValue27 w2;cases ai:DD σ g with
   |some y=>
    obtain⟨vy,a7,a8⟩:=hg.2 y ai;have aM:=Aa a8;obtain⟨W,Y,rfl,-⟩:=a8;have ak:(Instr.lookup 113 (.map (some r)) (zA g) true).run prog w2=.ok (.tuple #[.agg (zH y W Y),.bool true]) w2:=by rw[Qg (P:=prog) underlying113 underlying3 aq ah _,a7]; rfl
    have B:=Aa (NE (t:=t) ai);have q0:(w2.alloc (zn y W Y)).cell? (zD (w.heap.size+1) 0)=some (zA t.base):=(M.o.alloc _).cell 0;have q1:(w2.alloc (zn y W Y)).cell? (zD (w.heap.size+1) 1)=some (.slice E t.subs.length c'):=(M.o.alloc _).cell 1;have q2:(w2.alloc (zn y W Y)).cell? (zD w.heap.size 0)=some (zA g):=(U.o.alloc _).cell 0;have q3:(w2.alloc (zn y W Y)).cell? (zD w.heap.size 1)=some (.slice a 0 c):=(U.o.alloc _).cell 1;have q4:(w2.alloc (zn y W Y)).cell? (zD S 0)=some (.map (some r)):=(D.o.s.alloc _).cell 0;clear ai hg a7 aq ah ao;go_wp2_with fail;refine(WN y t _ _ _ X X (aM.o.later ((Ac _ _).alloc (Af _) _)) (a1.o.later ((Ac _ _).alloc (Af _) _))).mono ?_;rintro e C ⟨rfl,aA⟩;have O4:Hid (Below w2.heap.size w2 C):=((Ac w2.heap.size w2).alloc (Af _) (zn y W Y)).trans (aA.mono (by simp));clear aA;go_wp2_with fail;go_ret;refine⟨by rw[B.o]; rfl,?_,(Al.ofBelow B2.o).trans (Al.ofBelow O4.o)⟩;rw[B.o];exact M2.o.later O4.o
   |none=>
    have av:=hg.1 ai;have ak:(Instr.lookup 113 (.map (some r)) (zA g) true).run prog w2=.ok (.tuple #[.agg #[zA 0,zB],.bool false]) w2:=by rw[Qg (P:=prog) underlying113 underlying3 aq ah _,av]; rfl
    have B:=Aa (NG (t:=t) ai);have O3:Hid (Below w2.heap.size w2 (w2.alloc zj)):=(Ac _ _).alloc (Af _) _;have aB:Et (w2.alloc zj) r L:=ah.below O3.o ah.lt;obtain⟨C,aC,aD,aN,aE,aF,aG,aH⟩:=WR (P:=prog) underlying113 underlying3 aB g (.agg (zH t E c')) av;have E4:Hid (Al (λb=>b=r) (w2.alloc zj) C):=⟨aE,aF,aG,by omega,λb _ hn=>aH b hn⟩;have M4:Hid (FT C r X (σ++[(g,t)])):=⟨_,aD,EO.push ((a1.o.later O3.o).exq E4.o V.o) (EO.exq E4.o V.o (EO.exq (Al.ofBelow (Q:=λ_=>False) O3.o) (λ_ _ h=>h) ao))⟩;have q0:(w2.alloc zj).cell? (zD (w.heap.size+1) 0)=some (zA t.base):=(M.o.alloc _).cell 0;have q1:(w2.alloc zj).cell? (zD (w.heap.size+1) 1)=some (.slice E t.subs.length c'):=(M.o.alloc _).cell 1;have q2:(w2.alloc zj).cell? (zD w.heap.size 0)=some (zA g):=(U.o.alloc _).cell 0;have q3:(w2.alloc zj).cell? (zD w.heap.size 1)=some (.slice a 0 c):=(U.o.alloc _).cell 1;have q4:(w2.alloc zj).cell? (zD S 0)=some (.map (some r)):=(D.o.s.alloc _).cell 0;clear ai hg aq ah ao av aD aN aE aF aG aH aB;go_wp2_with fail;go_ret;refine⟨by rw[B.o]; rfl,?_,(Al.ofBelow B2.o).trans ((Al.ofBelow O3.o).trans E4.o)⟩;rw[B.o];exact M4.o
  ·obtain⟨G,H,p1,aO,p2,aP,rfl,aI⟩:=My hs;have KP:=Aa aI;clear aI hs au;have IP:=Aa (IH.o p (by simp));have IQ:=Aa (IH.o q (by simp));clear IH hM hF;have e2:([p,q]:List Ty).length=2:=rfl;rw[e2]at *;clear e2;go_in;go_upto_region 1 with fail;generalize ((w.alloc (zp #[zA g,.slice (some (zD G H)) 2 c] 27)).alloc (zn t E c'))=w2 at *;have a6:=U.o.c1;go_wp2_with fail;clear a6;have gR:Hid (w.heap.size+1<w2.heap.size):=M.o.lt;have E2:Hid (Al (λb=>b=r) w w2):=Al.ofBelow B2.o;by_cases ar:t.subs.length=2
   ·obtain⟨N,ts⟩:=t;have al:ts.length=2:=ar;obtain⟨J,O,rfl⟩:∃J O,ts=[J,O]:=by match ts,al with|[J,O],_=>exact⟨_,_,rfl⟩
    clear ar al;obtain⟨tb,I,t1,aQ,t2,aR,rfl,aJ⟩:=My az;have KT:=Aa aJ;clear aJ az;have e2:([J,O]:List Ty).length=2:=rfl;simp only[e2] at *;clear e2;have B:=Aa (NI (p:=p) (q:=q) (u:=J) (v:=O) g N σ);have i:Hid (∀w',(Ab w' w.heap.size #[zA g,.slice (some (zD G H)) 2 c] 27/\Ab w' (w.heap.size+1) #[zA N,.slice (some (zD tb I)) 2 c'] 27/\Ab w' F #[(.func (.func 74) #[] #[zC S,zC F])] 36/\Al (λb=>b=r) w w')->w'.cell? (zD w.heap.size 1)=some (.slice (some (zD G H)) 2 c)/\w'.cell? (zD (w.heap.size+1) 1)=some (.slice (some (zD tb I)) 2 c')/\w'.cell? (zD F 0)=some (.func (.func 74) #[] #[zC S,zC F])/\(w'.cell? (zD G H)=some (zA p.base)/\w'.cell? ⟨G,H+1,none⟩=some (.slice p1 p.subs.length aO)/\w'.cell? ⟨G,H+2,none⟩=some (zA q.base)/\w'.cell? ⟨G,H+2+1,none⟩=some (.slice p2 q.subs.length aP))/\(w'.cell? (zD tb I)=some (zA J.base)/\w'.cell? ⟨tb,I+1,none⟩=some (.slice t1 J.subs.length aQ)/\w'.cell? ⟨tb,I+2,none⟩=some (zA O.base)/\w'.cell? ⟨tb,I+2+1,none⟩=some (.slice t2 O.subs.length aR))):=λw' h=>⟨h.1.cell 1,h.2.1.cell 1,h.2.2.1.cell 0,(KP.o w' _ h.2.2.2 HZ.o).1,(KT.o w' _ h.2.2.2 V.o).1⟩;have R:Ab w2.drew w.heap.size #[zA g,.slice (some (zD G H)) 2 c] 27/\Ab w2.drew (w.heap.size+1) #[zA N,.slice (some (zD tb I)) 2 c'] 27/\Ab w2.drew F #[(.func (.func 74) #[] #[zC S,zC F])] 36/\Al (λb=>b=r) w w2.drew:=⟨U.o,M.o,D.o.f,E2.o.drew⟩;refine Co (S:=λw'=>Ab w' w.heap.size #[zA g,.slice (some (zD G H)) 2 c] 27/\Ab w' (w.heap.size+1) #[zA N,.slice (some (zD tb I)) 2 c'] 27/\Ab w' F #[(.func (.func 74) #[] #[zC S,zC F])] 36/\Al (λb=>b=r) w w') (by kernel_rfl) R λhH=>?_;refine tkz 0 ?_ (hy:=by intro w' d;obtain⟨j,k,l,⟨y3,y4,m,y6⟩,n,x,z,A⟩:=i.o w' d;go_simp<;>with_reducible rfl);refine tkz 1 ?_ (hy:=by intro w' d;obtain⟨j,k,l,⟨y3,y4,m,y6⟩,n,x,z,A⟩:=i.o w' d;go_simp<;>with_reducible rfl);refine tkz 2 ?_ (hy:=by intro w' d;obtain⟨j,k,l,⟨y3,y4,m,y6⟩,n,x,z,A⟩:=i.o w' d;go_simp<;>with_reducible rfl);refine tkz 3 ?_ (hy:=by intro w' d;obtain⟨j,k,l,⟨y3,y4,m,y6⟩,n,x,z,A⟩:=i.o w' d;go_simp<;>with_reducible rfl);refine tkz 4 ?_ (hy:=by intro w' d;obtain⟨j,k,l,⟨y3,y4,m,y6⟩,n,x,z,A⟩:=i.o w' d;go_simp<;>with_reducible rfl);refine tkz 5 ?_ (hy:=by intro w' d;obtain⟨j,k,l,⟨y3,y4,m,y6⟩,n,x,z,A⟩:=i.o w' d;go_simp<;>with_reducible rfl);refine tkz 6 ?_ (hy:=by intro w' d;obtain⟨j,k,l,⟨y3,y4,m,y6⟩,n,x,z,A⟩:=i.o w' d;go_simp<;>with_reducible rfl);refine tkz 7 ?_ (hy:=by intro w' d;obtain⟨j,k,l,⟨y3,y4,m,y6⟩,n,x,z,A⟩:=i.o w' d;go_simp<;>with_reducible rfl);refine tkz 8 ?_ (hy:=by intro w' d;obtain⟨j,k,l,⟨y3,y4,m,y6⟩,n,x,z,A⟩:=i.o w' d;go_simp<;>with_reducible rfl);refine tkz 9 ?_ (hy:=by intro w' d;obtain⟨j,k,l,⟨y3,y4,m,y6⟩,n,x,z,A⟩:=i.o w' d;go_simp<;>with_reducible rfl);refine tkz 10 ?_ (hy:=by intro w' d;obtain⟨j,k,l,⟨y3,y4,m,y6⟩,n,x,z,A⟩:=i.o w' d;go_simp<;>with_reducible rfl);refine tkz 11 ?_ (hy:=by intro w' d;obtain⟨j,k,l,⟨y3,y4,m,y6⟩,n,x,z,A⟩:=i.o w' d;go_simp<;>with_reducible rfl);refine tkz 12 ?_ (hy:=by intro w' d;obtain⟨j,k,l,⟨y3,y4,m,y6⟩,n,x,z,A⟩:=i.o w' d;go_simp<;>with_reducible rfl);refine tkz 13 ?_ (hy:=by intro w' d;obtain⟨j,k,l,⟨y3,y4,m,y6⟩,n,x,z,A⟩:=i.o w' d;go_simp<;>with_reducible rfl);refine rdq 14 rfl λK hK=>?_;go_simp;go_at_call 74;refine(IP.o J σ _ _ w2.drew Z X hp (KP.o w2.drew _ R.2.2.2 HZ.o).2.1 (KT.o w2.drew _ R.2.2.2 V.o).2.1 HZ.o V.o (M2.o.later (Ac _ _).drew) ⟨D.o.s,D.o.f,D.o.sr,D.o.fr⟩).mono ?_;rintro e C ⟨rfl,aK,aj⟩;have A4:Hid (Ab C w.heap.size #[zA g,.slice (some (zD G H)) 2 c] 27):=R.1.exq aj (by omega);have C4:Hid (Ab C (w.heap.size+1) #[zA N,.slice (some (zD tb I)) 2 c'] 27):=R.2.1.exq aj (by omega);have G4:Hid (Ab C F #[(.func (.func 74) #[] #[zC S,zC F])] 36):=R.2.2.1.exq aj D.o.fr;have T:Ab C w.heap.size #[zA g,.slice (some (zD G H)) 2 c] 27/\Ab C (w.heap.size+1) #[zA N,.slice (some (zD tb I)) 2 c'] 27/\Ab C F #[(.func (.func 74) #[] #[zC S,zC F])] 36/\Al (λb=>b=r) w C:=⟨A4.o,C4.o,G4.o,R.2.2.2.trans aj⟩;have M4:=Aa aK;have aS:Hid (Fit C S F r):=(show Fit w2.drew S F r from ⟨D.o.s,D.o.f,D.o.sr,D.o.fr⟩).exq aj;clear aK aj;obtain⟨b1,τ,aL⟩:∃b1 τ,CV p J σ=(b1,τ):=⟨_,_,rfl⟩;rw[aL]at M4 B ⊢;clear aL;simp only at M4 B ⊢;cases b1 with
    |true=>rw[Aq rfl]at B;go_simp;refine zo hK (by exact T) λhH=>?_;clear hK K;refine tkz 15 ?_;refine tkz 16 ?_;refine tkz 17 ?_ (hy:=by intro w' d;obtain⟨j,k,l,⟨y3,y4,m,y6⟩,n,x,z,A⟩:=i.o w' d;go_simp<;>with_reducible rfl);refine tkz 18 ?_ (hy:=by intro w' d;obtain⟨j,k,l,⟨y3,y4,m,y6⟩,n,x,z,A⟩:=i.o w' d;go_simp<;>with_reducible rfl);refine tkz 19 ?_ (hy:=by intro w' d;obtain⟨j,k,l,⟨y3,y4,m,y6⟩,n,x,z,A⟩:=i.o w' d;go_simp<;>with_reducible rfl);refine tkz 20 ?_ (hy:=by intro w' d;obtain⟨j,k,l,⟨y3,y4,m,y6⟩,n,x,z,A⟩:=i.o w' d;go_simp<;>with_reducible rfl);refine tkz 21 ?_ (hy:=by intro w' d;obtain⟨j,k,l,⟨y3,y4,m,y6⟩,n,x,z,A⟩:=i.o w' d;go_simp<;>with_reducible rfl);refine tkz 22 ?_ (hy:=by intro w' d;obtain⟨j,k,l,⟨y3,y4,m,y6⟩,n,x,z,A⟩:=i.o w' d;go_simp<;>with_reducible rfl);refine tkz 23 ?_ (hy:=by intro w' d;obtain⟨j,k,l,⟨y3,y4,m,y6⟩,n,x,z,A⟩:=i.o w' d;go_simp<;>with_reducible rfl);refine tkz 24 ?_ (hy:=by intro w' d;obtain⟨j,k,l,⟨y3,y4,m,y6⟩,n,x,z,A⟩:=i.o w' d;go_simp<;>with_reducible rfl);refine tkz 25 ?_ (hy:=by intro w' d;obtain⟨j,k,l,⟨y3,y4,m,y6⟩,n,x,z,A⟩:=i.o w' d;go_simp<;>with_reducible rfl);refine rdq 26 rfl λK hK=>?_;go_simp;go_at_call 74;refine(IQ.o O τ _ _ C Z X hq (KP.o C _ T.2.2.2 HZ.o).2.2 (KT.o C _ T.2.2.2 V.o).2.2 HZ.o V.o M4.o aS.o).mono ?_;rintro e w6 ⟨rfl,aw,an⟩;have A6:Hid (Ab w6 w.heap.size #[zA g,.slice (some (zD G H)) 2 c] 27):=T.1.exq an (by omega);have C6:Hid (Ab w6 (w.heap.size+1) #[zA N,.slice (some (zD tb I)) 2 c'] 27):=T.2.1.exq an (by omega);have G6:Hid (Ab w6 F #[(.func (.func 74) #[] #[zC S,zC F])] 36):=T.2.2.1.exq an D.o.fr;have k6:Ab w6 w.heap.size #[zA g,.slice (some (zD G H)) 2 c] 27/\Ab w6 (w.heap.size+1) #[zA N,.slice (some (zD tb I)) 2 c'] 27/\Ab w6 F #[(.func (.func 74) #[] #[zC S,zC F])] 36/\Al (λb=>b=r) w w6:=⟨A6.o,C6.o,G6.o,T.2.2.2.trans an⟩;rw[<-B.o]at aw ⊢;have M6:=Aa aw;obtain⟨b2,ax⟩:∃b2,b2=(CV ⟨g,[p,q]⟩ ⟨N,[J,O]⟩ σ).1:=⟨_,rfl⟩;rw[<-ax];have aT:=Aa ax;clear aw an ax;go_simp;refine zo hK (by exact k6) λhH=>?_;clear hK K;refine tkz 27 ?_;refine tkz 28 ?_;refine dnq ?_;go_wp2_with fail;go_ret;exact⟨by rw[<-aT.o]; rfl,M6.o,k6.2.2.2⟩
    |false=>rw[Am (by simp)]at B;go_simp;refine zo hK (by exact T) λhH=>?_;clear hK K;refine tkz 15 ?_;refine tkz 16 ?_;refine tkv 17 ?_;refine tkv 18 ?_;refine tkv 19 ?_;refine tkv 20 ?_;refine tkv 21 ?_;refine tkv 22 ?_;refine tkv 23 ?_;refine tkv 24 ?_;refine tkv 25 ?_;refine tkv 26 ?_;refine tkz 27 ?_;refine tkz 28 ?_;refine dnq ?_;go_wp2_with fail;go_ret;refine⟨by rw[B.o]; rfl,?_,T.2.2.2⟩;rw[B.o];exact M4.o
   ·have B:=Aa (λσ=>NH (p:=p) (q:=q) (t:=t) (σ:=σ) ar g);have hl:((t.subs.length:Int)==2)=false:=by simp; omega
    clear ar;have R:Ab w2.drew (w.heap.size+1) (zH t E c') 27:=M.o;refine Co (S:=λw'=>Ab w' (w.heap.size+1) (zH t E c') 27) (by kernel_rfl) R λhH=>?_;refine tkz 0 ?_;refine tkz 1 ?_ (hy:=by intro w' d;have y1:w'.cell? (zD (w.heap.size+1) 1)=some (.slice E t.subs.length c'):=d.cell 1;go_simp<;>with_reducible rfl);refine tkz 2 ?_;refine tkz 3 ?_;refine tkz 4 ?_;refine tkv 5 ?_;refine tkv 6 ?_;refine tkv 7 ?_;refine tkv 8 ?_;refine tkv 9 ?_;refine tkv 10 ?_;refine tkv 11 ?_;refine tkv 12 ?_;refine tkv 13 ?_;refine tkv 14 ?_;refine tkz 15 ?_;refine tkz 16 ?_;refine tkv 17 ?_;refine tkv 18 ?_;refine tkv 19 ?_;refine tkv 20 ?_;refine tkv 21 ?_;refine tkv 22 ?_;refine tkv 23 ?_;refine tkv 24 ?_;refine tkv 25 ?_;refine tkv 26 ?_;refine tkz 27 ?_;refine tkz 28 ?_;refine dnq ?_;go_wp2_with fail;go_ret;refine⟨by rw[B.o]; rfl,?_,E2.o.drew⟩;rw[B.o];exact M2.o.later (Ac _ _).drew
theorem Od:(prog.info? 27).map (λi=>(i.zero,i.size,i.bytes))=some (some (.agg #[zA 0,zB]),2,32):=by kernel_rfl
theorem Mz {c0 c1:Value} (h:Ab w A #[c0,c1] T):∀j u,[c0,c1][j]? = some u->w.cell? (((zD A 0):Addr).add j)=some u:=World.news_of_block (cs:=#[c0,c1]) h
def Dh (w:World) (X:Nat->Prop):List Ty->List Value->Prop
 | [],xs=>xs=[]
 |t::l,xs=>∃a c r,xs=zA t.base::.slice a t.subs.length c::r/\AC w X a t.subs/\Dh w X l r
theorem Dh.len:∀ {l:List Ty} {xs:List Value},Dh w X l xs->xs.length=l.length*2
 | [],xs,h=>by simp[Dh] at h; simp[h]
 |t::l,xs,h=>by
  obtain⟨a,c,r,rfl,_,h⟩:=h;simp only[Cl];rw[Dh.len h]; omega
theorem Dh.append:∀ {l k:List Ty} {xs b:List Value},Dh w X l xs->Dh w X k b->Dh w X (l++k) (xs++b)
 | [],k,xs,b,h,h'=>by simp[Dh] at h; subst h; simpa using h'
 |t::l,k,xs,b,h,h'=>by
  obtain⟨a,c,r,rfl,d,h⟩:=h;exact⟨a,c,r++b,rfl,d,Dh.append h h'⟩
theorem Dh.one:∀ {l:List Ty} {xs:List Value},Dh w X l xs->∀u∈xs,u.oneCell'=true
 | [],xs,h,u,hu=>by simp[Dh] at h; subst h; cases hu
 |t::l,xs,h,u,hu=>by
  obtain⟨a,c,r,rfl,_,h⟩:=h;rcases Ct.1 hu with e|hu
  ·subst e; rfl
  ·rcases Ct.1 hu with e|hu
   ·subst e; rfl
   ·exact Dh.one h u hu
theorem Sq:∀(l:List Ty) (b o:Nat),DH w X b o l->∃xs,Dh w X l xs/\∀j u,xs[j]? = some u->w.cell? ⟨b,o+j,none⟩=some u:=by
 intro l;induction l with
 |nil=>intro b o _; exact⟨[],rfl,by simp⟩
 |cons t r e=>
  intro b o h;obtain⟨s,k⟩:=t;simp only[DH] at h;obtain⟨hx,h1,⟨a,c,h2,h3,f⟩,h5⟩:=h;obtain⟨xs,g,hc⟩:=e b (o+2) h5;refine⟨zA s::.slice a k.length c::xs,⟨a,c,xs,rfl,⟨h3,f⟩,g⟩,λj u d=>?_⟩;match j,d with
  |0,d=>simp at d; subst d; exact h1
  |1,d=>simp at d; subst d; exact h2
  |j+2,d=>rw[show o+(j+2)=o+2+j by omega]; exact hc j u (by simpa using d)
theorem Yj (b:Nat) (hb:Y b):∀(l:List Ty) (xs:List Value) (o:Nat),Dh w X l xs->(∀a k,AC w X a k->AC w' Y a k)->(∀j u,xs[j]? = some u->w'.cell? ⟨b,o+j,none⟩=some u)->DH w' Y b o l:=by
 intro l;induction l with
 |nil=>intro xs o _ _ _; simp[DH]
 |cons t r e=>intro xs o h d hc;obtain⟨s,k⟩:=t;obtain⟨a,c,f,rfl,h1,h2⟩:=h;simp only[DH];obtain⟨h3,g⟩:=d _ _ h1;refine⟨hb,hc 0 _ rfl,⟨a,c,hc 1 _ rfl,h3,g⟩,e f (o+2) h2 d λj u i=>?_⟩;have:=hc (j+2) u (by simpa using i);rwa [show o+(j+2)=o+2+j by omega] at this
theorem Sr {base:Nat} {g:Nat} (ho:w'.ownsRow base 27 2 (.slice (some (zD g 0)) n cap) n xs) (b:0<n) (c:Dh w Z l xs) (d:∀a k,AC w Z a k->AC w' Y a k) (f:Y g) (hl:l.length<=1000000):AC w' Y (some (zD g 0)) l:=by
 obtain⟨g',aa,e,_,_,hc⟩:=Fd ho b;cases e;exact⟨by omega,Ae ⟨g,0,rfl,Yj g f l xs 0 c d (λj u h=>by simpa using hc j u h)⟩⟩
theorem Yk {q:Option Addr} {ar:List Ty} {s:Int} {d:List Ty} (h0:AC w Z a0 d) (B:AC w Z q ar) (hl:ar.length<=100000) (r:Ab w A #[zA s,.slice a0 d.length c0] T):
  ∃g cap w',(Builtin.append_ #[25,25] 25 #[.slice q ar.length ar.length,.slice (some (zD A 0)) 1 1]).run prog w=.ok (.slice (some (zD g 0)) (ar.length+1) cap) w'/\
   AC w' (λb=>Z b∨b=g) (some (zD g 0)) (ar++[⟨s,d⟩])/\Below w.heap.size w w'/\w.heap.size<=g/\ar.length+1<=cap:=by
 obtain⟨i0,hi,t,v,y⟩:=Dw Od;have fin:∀(f:Value) (w':World) (xs:List Value),w'.ownsRow w.heap.size 27 2 f (ar.length+1) (xs++[zA s,.slice a0 d.length c0])->w.grownBy w' none->Dh w Z ar xs->
   ∃g cap,f=.slice (some (zD g 0)) (ar.length+1) cap/\AC w' (λb=>Z b∨b=g) (some (zD g 0)) (ar++[⟨s,d⟩])/\Below w.heap.size w w'/\w.heap.size<=g/\ar.length+1<=cap:=by
  intro f w' xs ho i c;obtain⟨g,cap,rfl,C,_,_⟩:=Fd ho (by omega);have hb:Below w.heap.size w w':=(Ac _ _).grown i (Af _) (λk hk=>by cases hk);have D:ar.length+1<=cap:=by
   rcases ho.2 with ⟨_,h0⟩|⟨g1,aj,cur,e,_,_,h1,_⟩
   ·omega
   ·cases e; exact h1
  refine⟨g,cap,rfl,Sr (Y:=λb=>Z b∨b=g) ho (by omega) (l:=ar++[⟨s,d⟩]) (Dh.append c ⟨a0,c0,[],rfl,h0,rfl⟩) (λa k h=>(h.later hb).mono λb h _=>Ad h) (Ae rfl) (by simp; omega),hb,C,D⟩
 rcases B with ⟨al,rfl|⟨b,o,rfl,E⟩⟩
 ·cases q with
  |none=>obtain⟨g,cap,w',c,ho,i,_,_⟩:=run_append_lies (P:=prog) (w:=w) 25 25 w.heap.size 27 i0 _ 2 32 underlying25 hi t v y rfl (by decide) zB 0 [] (H5 _ _ _ _) (zD A 0) 1 1 [zA s,.slice a0 d.length c0] rfl (Mz r) (λx hx=>by simp at hx; rcases hx with rfl|rfl<;>rfl) (by decide) (by unfold maxLen; omega) (by omega) (Af _) _ rfl;obtain⟨g2,n,e,h1,h2,h3,m⟩:=fin _ w' [] (by simpa using ho) (by simpa [Value.ownBlock] using i) rfl;simp only[Ek] at e m ⊢;rw[e]at c;exact⟨g2,n,w',by simpa using c,h1,h2,h3,m⟩
  |some F=>obtain⟨f,w',c,ho,i⟩:=run_append_arg_grows (P:=prog) (w:=w) 25 25 27 i0 _ 2 32 underlying25 hi t v y rfl (by decide) F 0 0 [] rfl (by simp) (zD A 0) 1 1 [zA s,.slice a0 d.length c0] rfl (Mz r) (by omega) (by unfold maxLen; omega) (by omega);obtain⟨g2,n,e,h1,h2,h3,m⟩:=fin f w' [] (by simpa using ho) i rfl;simp only[Ek] at e m ⊢;rw[e]at c;exact⟨g2,n,w',by simpa using c,h1,h2,h3,m⟩
 ·obtain⟨xs,z,hc⟩:=Sq ar b o E;obtain⟨f,w',c,ho,i⟩:=run_append_arg_grows (P:=prog) (w:=w) 25 25 27 i0 _ 2 32 underlying25 hi t v y rfl (by decide) (zD b o) ar.length ar.length xs z.len (λj u G=>by
   have:=hc j u G;by_cases h0:j=0
   ·subst h0; simpa [Addr.add] using this
   ·simpa [Addr.add,h0] using this) (zD A 0) 1 1 [zA s,.slice a0 d.length c0] rfl (Mz r) (by omega) (by unfold maxLen; omega) (by omega)
  obtain⟨g2,n,e,h1,h2,h3,m⟩:=fin f w' xs ho i z;rw[e]at c;exact⟨g2,n,w',c,h1,h2,h3,m⟩
theorem DK {f:World} {g:Nat} (hb:Below f.heap.size f W) (z:f.heap.size<=g) (A:Ab W g #[] 27) (s:AC f Y a l) (hl:l.length<=100000):
  ∃v1 d xs,(Builtin.append_ #[25,25] 25 #[.slice (some (zD g 0)) 0 0,.slice a l.length c]).run prog W=.ok v1 d/\d.ownsRow f.heap.size 27 2 v1 l.length xs/\Dh f Y l xs/\Below f.heap.size f d/\(∀q,q<W.heap.size->q≠g->d.heap[q]? = W.heap[q]?)/\W.heap.size<=d.heap.size/\(∀b,v1.ownBlock=some b->b=g∨W.heap.size<=b):=by
 obtain⟨i0,hi,B,C,D⟩:=Dw Od;have t:=hb.size;have v:W.ownsRow f.heap.size 27 2 (.slice (some (zD g 0)) 0 0) 0 []:=⟨by simp,Ae ⟨g,0,#[],rfl,z,A,by omega,by unfold maxLen; omega,by simp,by simp⟩⟩;have fin:∀(d:World),W.grownBy d (some g)->Below f.heap.size f d/\(∀q,q<W.heap.size->q≠g->d.heap[q]? = W.heap[q]?)/\W.heap.size<=d.heap.size:=by
  intro d i;exact⟨hb.grown i t (λk hk=>by simp at hk; omega),λq hq E=>i.block q hq (by simp; exact λe=>E e),i.size⟩
 cases a with
 |none=>
  have F:l=[]:=by
   rcases s.2 with h|⟨b,o,e,_⟩
   ·exact h
   ·cases e
  subst F;obtain⟨f1,f2,f3⟩:=fin W ⟨rfl,rfl,rfl,Af _,λk hk _=>rfl⟩;refine⟨.slice (some (zD g 0)) 0 0,W,[],?_,v,rfl,f1,f2,f3,λb h=>Ad (by simpa [Value.ownBlock] using h.symm)⟩;have m:∀x,(Builtin.append_ #[25,25] 25 #[.slice (some (zD g 0)) 0 0,.slice none 0 x]).run prog W=.ok (.slice (some (zD g 0)) 0 0) W:=λx=>by
   simp[Builtin.append_,Fr underlying25,sizeOf,typeInfo,hi,Builtin.lenOf,Builtin.firstCells,storeCells]
  exact m c
 |some y=>
  obtain⟨xs,n,hx⟩:∃xs,Dh f Y l xs/\∀j u,xs[j]? = some u->W.cell? (y.add j)=some u:=by
   rcases s.2 with rfl|⟨b,o,e,G⟩
   ·exact⟨[],rfl,λj u r=>by simp at r⟩
   ·cases e;obtain⟨xs,h1,h2⟩:=Sq l b o G;refine⟨xs,h1,λj u r=>?_⟩;have e:((zD b o):Addr).add j=⟨b,o+j,none⟩:=by
     by_cases h0:j=0
     ·subst h0; simp[Addr.add]
     ·simp[Addr.add,h0]
    rw[e];exact cell_later hb (h2 j u r)
  obtain⟨v1,d,m,ho,i,_,h5⟩:=run_append_own_at (P:=prog) W f.heap.size 25 25 27 i0 _ 2 32 underlying25 hi B C D rfl (by decide) _ 0 [] v y l.length c xs n.len hx (λu hu=>Dh.one n u hu) (by unfold maxLen; omega) (by omega) t;obtain⟨f1,f2,f3⟩:=fin d (by simpa [Value.ownBlock] using i);refine⟨v1,d,xs,m,by simpa using ho,n,f1,f2,f3,λb h=>?_⟩;rcases h5 with h5|h5
  ·rw[h5]at h;exact Ad (by simpa [Value.ownBlock] using h.symm)
  ·rw[h5]at h;exact Ae (by simp at h; omega)
theorem MA {c:World} {s:Int} {f:List Ty} (hb:Below c.heap.size c W) (h0:AC c Y a0 f) (ho:W.ownsRow c.heap.size 27 2 v l.length xs) (r:Dh c Y l xs) (hP:Ab W i #[zA s,.slice a0 f.length c0] T) (hl:l.length<=100000):
  ∃g cap d,(Builtin.append_ #[25,25] 25 #[v,.slice (some (zD i 0)) 1 1]).run prog W=.ok (.slice (some (zD g 0)) (l.length+1) cap) d/\
   AC d (λb=>Y b∨b=g) (some (zD g 0)) (l++[⟨s,f⟩])/\Below c.heap.size c d/\(c.heap.size<=g/\g<d.heap.size)/\l.length+1<=cap/\(∀q,q<W.heap.size->some q≠v.ownBlock->d.heap[q]? = W.heap[q]?)/\W.heap.size<=d.heap.size/\(v.ownBlock=some g∨W.heap.size<=g):=by
 obtain⟨i0,hi,t,u,y⟩:=Dw Od;have n:=hb.size;obtain⟨g,cap,d,z,j,m,A,B⟩:=run_append_lies (P:=prog) (w:=W) 25 25 c.heap.size 27 i0 _ 2 32 underlying25 hi t u y rfl (by decide) v l.length xs ho (zD i 0) 1 1 [zA s,.slice a0 f.length c0] rfl (Mz hP) (λx hx=>by simp at hx; rcases hx with rfl|rfl<;>rfl) (by decide) (by unfold maxLen; omega) (by omega) n _ rfl;have o:Below c.heap.size c d:=hb.grown m n (λk hk=>(ho.lt k hk).1);obtain⟨g2,al,e,C,_,_⟩:=Fd j (by omega);cases e;have D:l.length+1<=cap:=by
  rcases j.2 with ⟨_,h0⟩|⟨g1,ao,cur,e,_,_,h1,_⟩
  ·omega
  ·cases e; exact h1
 refine⟨g,cap,d,z,Sr (Y:=λb=>Y b∨b=g) j (by omega) (l:=l++[⟨s,f⟩]) (Dh.append r ⟨a0,c0,[],rfl,h0,rfl⟩) (λa k h=>(h.later o).mono λb h _=>Ad h) (Ae rfl) (by simp; omega),o,⟨C,B⟩,D,λq hq E=>m.block q hq E,m.size,?_⟩;rcases A with h|h
 ·exact Ad h
 ·exact Ae (by omega)
inductive PX where
 |v (i:Nat)
 |c (k:Int)
 |l (b:PX)
 |a (f x:PX)
def PX.upr (r:Nat->Nat):Nat->Nat
 |0=>0
 |i+1=>r i+1
def PX.ren (r:Nat->Nat):PX->PX
 | .v i=>.v (r i)
 | .c k=>.c k
 | .l b=>.l (b.ren (upr r))
 | .a f x=>.a (f.ren r) (x.ren r)
def PX.up (s:Nat->PX):Nat->PX
 |0=>.v 0
 |i+1=>(s i).ren (·+1)
def PX.sub (s:Nat->PX):PX->PX
 | .v i=>s i
 | .c k=>.c k
 | .l b=>.l (b.sub (up s))
 | .a f x=>.a (f.sub s) (x.sub s)
def PX.ins (z:PX):Nat->PX
 |0=>z
 |i+1=>.v i
theorem PX.upr_comp (r q:Nat->Nat):(λi=>upr r (upr q i))=upr (λi=>r (q i)):=by
 funext i; cases i<;>rfl
theorem PX.ren_ren (t:PX):∀(r q:Nat->Nat),(t.ren q).ren r=t.ren (λi=>r (q i)):=by
 induction t with
 |v i=>intro r q; rfl
 |c k=>intro r q; rfl
 |l b d=>intro r q; simp only[PX.ren]; rw[d,PX.upr_comp]
 |a f x e hx=>intro r q; simp only[PX.ren]; rw[e,hx]
theorem PX.up_upr (s:Nat->PX) (r:Nat->Nat):(λi=>up s (upr r i))=up (λi=>s (r i)):=by
 funext i; cases i<;>rfl
theorem PX.sub_ren (t:PX):∀(s:Nat->PX) (r:Nat->Nat),(t.ren r).sub s=t.sub (λi=>s (r i)):=by
 induction t with
 |v i=>intro s r; rfl
 |c k=>intro s r; rfl
 |l b d=>intro s r; simp only[PX.ren,PX.sub]; rw[d,PX.up_upr]
 |a f x e hx=>intro s r; simp only[PX.ren,PX.sub]; rw[e,hx]
theorem PX.ren_up (r:Nat->Nat) (s:Nat->PX):(λi=>(up s i).ren (upr r))=up (λi=>(s i).ren r):=by
 funext i
 cases i with
 |zero=>rfl
 |succ i=>simp only[PX.up]; rw[PX.ren_ren,PX.ren_ren]; rfl
theorem PX.ren_sub (t:PX):∀(r:Nat->Nat) (s:Nat->PX),(t.sub s).ren r=t.sub (λi=>(s i).ren r):=by
 induction t with
 |v i=>intro r s; rfl
 |c k=>intro r s; rfl
 |l b d=>intro r s; simp only[PX.ren,PX.sub]; rw[d,PX.ren_up]
 |a f x e hx=>intro r s; simp only[PX.ren,PX.sub]; rw[e,hx]
theorem PX.sub_up (s q:Nat->PX):(λi=>(up q i).sub (up s))=up (λi=>(q i).sub s):=by
 funext i
 cases i with
 |zero=>rfl
 |succ i=>simp only[PX.up]; rw[PX.sub_ren,PX.ren_sub]; rfl
theorem PX.sub_sub (t:PX):∀(s q:Nat->PX),(t.sub q).sub s=t.sub (λi=>(q i).sub s):=by
 induction t with
 |v i=>intro s q; rfl
 |c k=>intro s q; rfl
 |l b d=>intro s q; simp only[PX.sub]; rw[d,PX.sub_up]
 |a f x e hx=>intro s q; simp only[PX.sub]; rw[e,hx]
theorem PX.up_v:up PX.v=PX.v:=by funext i; cases i<;>rfl
theorem PX.sub_v (t:PX):t.sub PX.v=t:=by
 induction t with
 |v i=>rfl
 |c k=>rfl
 |l b d=>simp only[PX.sub]; rw[PX.up_v,d]
 |a f x e hx=>simp only[PX.sub]; rw[e,hx]
theorem PX.ren_is (t:PX):∀(r:Nat->Nat),t.ren r=t.sub (λi=>.v (r i)):=by
 induction t with
 |v i=>intro r; rfl
 |c k=>intro r; rfl
 |l b d=>
  intro r; simp only[PX.ren,PX.sub]; rw[d];congr 2
  funext i; cases i<;>rfl
 |a f x e hx=>intro r; simp only[PX.ren,PX.sub]; rw[e,hx]
theorem PX.sub_ins (s:Nat->PX) (z b:PX):(b.sub (ins z)).sub s=(b.sub (up s)).sub (ins (z.sub s)):=by
 rw[PX.sub_sub,PX.sub_sub];congr 1
 funext i
 cases i with
 |zero=>rfl
 |succ i=>simp only[PX.ins,PX.up,PX.sub];rw[PX.sub_ren];exact(PX.sub_v (s i)).symm
theorem PX.ren_ins (r:Nat->Nat) (z b:PX):(b.sub (ins z)).ren r=(b.ren (upr r)).sub (ins (z.ren r)):=by
 rw[PX.ren_is,PX.sub_ins,PX.ren_is z r,PX.ren_is b (upr r)];congr 2
 funext i; cases i<;>rfl
inductive PX.Par:PX->PX->Prop where
 |v (i:Nat):Par (.v i) (.v i)
 |c (k:Int):Par (.c k) (.c k)
 |l {b b':PX}:Par b b'->Par (.l b) (.l b')
 |a {f f' x x':PX}:Par f f'->Par x x'->Par (.a f x) (.a f' x')
 |b {b b' x x':PX}:Par b b'->Par x x'->Par (.a (.l b) x) (b'.sub (ins x'))
theorem PX.Par.refl:∀t:PX,Par t t
 | .v i=>.v i
 | .c k=>.c k
 | .l y=>.l (Par.refl y)
 | .a f x=>.a (Par.refl f) (Par.refl x)
theorem PX.Par.ren {t s:PX} (h:Par t s):∀r:Nat->Nat,Par (t.ren r) (s.ren r):=by
 induction h with
 |v i=>intro r; exact .v _
 |c k=>intro r; exact .c _
 |l _ d=>intro r; exact .l (d _)
 |a _ _ h1 h2=>intro r; exact .a (h1 _) (h2 _)
 |b _ _ h1 h2=>intro r; rw[PX.ren_ins]; exact .b (h1 _) (h2 _)
theorem PX.Par.up {s s':Nat->PX} (h:∀i,Par (s i) (s' i)):∀i,Par (PX.up s i) (PX.up s' i)
 |0=>.v 0
 |i+1=>(h i).ren _
theorem PX.Par.sub {t e:PX} (h:Par t e):∀ {s s':Nat->PX},(∀i,Par (s i) (s' i))->Par (t.sub s) (e.sub s'):=by
 induction h with
 |v i=>intro s s' d; exact d i
 |c k=>intro s s' d; exact .c k
 |l _ f=>intro s s' d; exact .l (f (PX.Par.up d))
 |a _ _ h1 h2=>intro s s' d; exact .a (h1 d) (h2 d)
 |b _ _ h1 h2=>intro s s' d; rw[PX.sub_ins]; exact .b (h1 (PX.Par.up d)) (h2 d)
theorem PX.Par.ins {z a b b':PX} (hz:Par z a) (hb:Par b b'):Par (b.sub (PX.ins z)) (b'.sub (PX.ins a)):=
 hb.sub λi=>by cases i with|zero=>exact hz|succ i=>exact .v i
def PX.dev:PX->PX
 | .v i=>.v i
 | .c k=>.c k
 | .l b=>.l b.dev
 | .a (.l b) x=>b.dev.sub (ins x.dev)
 | .a f x=>.a f.dev x.dev
theorem PX.Par.lam {b t:PX} (h:Par (.l b) t):∃b',t=.l b'/\Par b b':=by
 cases h with
 |l h=>exact⟨_,rfl,h⟩
theorem PX.taka {t s:PX} (h:Par t s):Par s t.dev:=by
 induction h with
 |v i=>exact .v i
 |c k=>exact .c k
 |l _ j=>exact .l j
 | @a f f' x x' h1 h2 d i2=>
  cases f with
  |v i=>exact .a d i2
  |c k=>exact .a d i2
  |a g y=>exact .a d i2
  |l b=>obtain⟨b',rfl,hb⟩:=h1.lam;simp only[PX.dev];have m:Par (.l b') (.l b.dev):=d;obtain⟨b2,e,n⟩:=m.lam;cases e;exact .b n i2
 |b _ _ d i2=>exact PX.Par.ins i2 d
inductive PX.Pars:PX->PX->Prop where
 |refl (t:PX):Pars t t
 |tail {t s u:PX}:Pars t s->Par s u->Pars t u
theorem PX.Pars.trans {t s u:PX} (h:Pars t s) (k:Pars s u):Pars t u:=by
 induction k with
 |refl=>exact h
 |tail _ h2 a=>exact .tail a h2
theorem PX.Pars.one {t s:PX} (h:Par t s):Pars t s:=.tail (.refl t) h
theorem PX.strip {t s u:PX} (h:Par t s) (k:Pars t u):∃w,Pars s w/\Par u w:=by
 induction k with
 |refl=>exact⟨s,.refl s,h⟩
 |tail _ h2 a=>obtain⟨w,h3,b⟩:=a;exact⟨_,h3.tail (PX.taka b),PX.taka h2⟩
theorem PX.meet {t s u:PX} (h:Pars t s) (k:Pars t u):∃w,Pars s w/\Pars u w:=by
 induction h with
 |refl=>exact⟨u,k,.refl u⟩
 |tail _ h2 a=>obtain⟨w,h3,b⟩:=a;obtain⟨x,h5,h6⟩:=PX.strip h2 h3;exact⟨x,h5,b.tail h6⟩
def PX.isl:PX->Bool
 | .l _=>true
 |_=>false
def PX.st:PX->Bool
 | .v _=>false
 | .c _=>false
 | .l b=>b.st
 | .a f x=>f.isl||f.st||x.st
theorem PX.Par.nf {t s:PX} (h:Par t s):t.st=false->s=t:=by
 induction h with
 |v i=>intro _; rfl
 |c k=>intro _; rfl
 |l _ e=>intro d; rw[e d]
 |a _ _ h1 h2=>intro d; simp[PX.st] at d; rw[h1 d.1.2,h2 d.2]
 |b _ _ _ _=>intro d; simp[PX.st,PX.isl] at d
theorem PX.Pars.nf {t s:PX} (h:Pars t s) (a:t.st=false):s=t:=by
 induction h with
 |refl=>rfl
 |tail _ h2 b=>subst b; exact h2.nf a
theorem PX.only {t s u:PX} (h:Pars t s) (k:Pars t u) (a:s.st=false) (hu:u.st=false):s=u:=by
 obtain⟨w,h1,h2⟩:=PX.meet h k;rw[<-h1.nf a,<-h2.nf hu]
theorem Yl (z:Lm) (la:Option Addr) (cl:Nat) (ba:Ai [z]<=100000) (aQ:Cz [z]) (t:Lm):∀(v:Value) (d:Int) (w:World) (X:Nat->Prop),MV w X v t->Ap w X la [z]->0<=d->d+Ai [t]<=100000->Cz [t]->
  Calls prog 67 #[v,.slice la 1 cl,zA d] w λe w'=>Mv w X (AY z d t) e w':=by
 induction t using Lm.ind with
 |h m j l ih=>
  intro v d w X hv aM bb aR x;obtain⟨a,c,rfl,hs⟩:=hv;have IH:=Aa ih;have HS:=Aa hs;have HZ:=Aa aM;have hl:=hs.1;have hz:Ai [(⟨m,j,l⟩:Lm)]=1+Ai l:=by simp[Ai]
  rw[hz]at aR;rw[Im]at x;obtain⟨⟨bc,bd⟩,x,_⟩:=x;have aN:=Aa x;have hlen:=Jj l;clear ih hs hz x aM;have N:Hid (Below w.heap.size w ((w.alloc (zp #[zA m,zA j,.slice a l.length c] 24)).alloc zi)):=((Ac _ _).alloc (Af _) _).alloc (by simp) _;have T2:Hid (Ab ((w.alloc (zp #[zA m,zA j,.slice a l.length c] 24)).alloc zi) w.heap.size #[zA m,zA j,.slice a l.length c] 24):=(Ab.new w _ _).alloc _;have R2:Hid (Ab ((w.alloc (zp #[zA m,zA j,.slice a l.length c] 24)).alloc zi) (w.heap.size+1) zJ 24):=by
   have h:=Ab.new (w.alloc (zp #[zA m,zA j,.slice a l.length c] 24)) zJ 24;rw[Ca]at h;exact h
  by_cases k1:m=1;case pos=>
   subst k1;by_cases n:j<d
   ·have HT:Hid (AY z d ⟨1,j,l⟩=⟨1,j,l⟩):=Aa (by unfold AY;simp[n]);go_in;go_wp2_with fail;refine Ao (v:=.agg #[zA 1,zA j,.slice a l.length c]) (by simp[results,results67,go_sem]) rfl ?_;rw[HT.o];have aO:=((Ac w.heap.size w).alloc (Af _) (.cells #[zA 1,zA j,.slice a l.length c] 24)).alloc (by simp) (.cells #[zA 1,zA j,.slice a l.length c] 24);exact⟨a,c,rfl,(HS.o.mono (Y:=λb=>X b/\b<w.heap.size) λb h1 h2=>⟨h1,h2⟩).below aO (λb h _=>h.2) |>.mono λb h _=>Ad h,aO⟩
   ·obtain⟨q,hq⟩:∃q,q=j-d:=⟨_,rfl⟩;have aS:IntKind.i64.wrap (j-d)=q:=by rw[Ck]; omega
    by_cases aT:q=0
    ·subst aT;have az:j=d:=(by omega);have HT:Hid (AY z d ⟨1,j,l⟩=AZ d 0 z):=Aa (by unfold AY;simp[n,az]);obtain⟨b,o,M,c',rfl,d0,ar,d1,hx⟩:=(HZ.o.mono (Y:=λb=>X b/\b<w.heap.size) λb h1 h2=>⟨h1,h2⟩).get N.o (λb h _=>h.2) 0 (by simp);have HX:=Aa hx;simp only[Nat.zero_mul,Ic,Gc] at d0 ar d1;have aU:=Aa ((RM d (by omega) (by omega) z _ 0 _ (λb=>X b/\b<w.heap.size) HX.o (Int.le_refl 0) (by omega) aQ));clear hx hq az;go_in;go_wp2_with fail;refine aU.o.mono ?_;rintro e w3 ⟨a3,c3,rfl,aP,au⟩;have B:=Aa aP;have A:=Aa (R2.o.below au (by simp));have B3:=Aa (N.o.trans (au.mono (by simp; omega)));have r0:=A.o.c0;have r1:=A.o.c1;have r2:=A.o.c2;have rf:=A.o.frozen;have av:w.heap.size+1<w3.heap.size:=A.o.lt;clear au aP;go_wp2_with fail;refine Ao (v:=.agg #[zA (AZ d 0 z).kind,zA (AZ d 0 z).idx,.slice a3 (AZ d 0 z).subs.length c3]) (by simp[results,results67,go_sem,AL,AE,r0,r1,r2,av]) rfl ?_;rw[HT.o];refine⟨a3,c3,rfl,(B.o.kept λb hb=>?_).mono λb hb _=>?_,((B3.o.setCell (by simp) _).setCell (by simp) _).setCell (by simp) _⟩
     ·have x:b≠w.heap.size+1:=by
       rcases hb with h|h
       ·have:=h.1.2; omega
       ·simp at h; omega
      rw[Ak _ _ _ _ (by simpa using x),Ak _ _ _ _ (by simpa using x),Ak _ _ _ _ (by simpa using x)]
     ·rcases hb with h|h
      ·exact Ad h.1
      ·right; simp at h; omega
    ·have bf:¬(q<1):=(by omega);have HT:Hid (AY z d ⟨1,j,l⟩=⟨1,j-1,[]⟩):=Aa (by unfold AY;simp[n,show ¬(j=d) by omega]);have bg:IntKind.i64.wrap (j-1)=j-1:=by rw[Ck]; omega
     clear hq;go_in;go_wp2_with fail;refine(RL _ _).mono ?_;rintro e w3 ⟨rfl,au⟩;have A:=Aa (R2.o.below au (by simp));have B3:=Aa (N.o.trans (au.mono (by simp; omega)));have r0:=A.o.c0;have r1:=A.o.c1;have r2:=A.o.c2;have rf:=A.o.frozen;have av:w.heap.size+1<w3.heap.size:=A.o.lt;clear au;go_wp2_with fail;refine Ao (v:=.agg #[zA 1,zA (j-1),zB]) (by simp[results,results67,go_sem,AL,AE,r0,r1,r2,av]) rfl ?_;rw[HT.o];exact⟨none,0,rfl,⟨by simp,Ad rfl⟩,((B3.o.setCell (by simp) _).setCell (by simp) _).setCell (by simp) _⟩
  case neg=>
   have e1:(m==1)=false:=(by simpa using k1);by_cases k2:m=2;case pos=>
    subst k2;have aS:IntKind.i64.wrap (d+1)=d+1:=by rw[Ck]; omega
    have HT:Hid (AY z d ⟨2,j,l⟩=⟨2,j,Dl z (d+1) l⟩):=Aa (by unfold AY;simp[AR]);go_in;go_wp2_with fail;have T3:=Aa (T2.o.alloc (zp #[zA 2,zA j,zB] 24));have A:=Aa (R2.o.alloc (zp #[zA 2,zA j,zB] 24));have P:=Aa (Ab.new ((w.alloc (zp #[zA 2,zA j,.slice a l.length c] 24)).alloc zi) #[zA 2,zA j,zB] 24);have B3:=Aa (N.o.alloc N.o.size (.cells #[zA 2,zA j,zB] 24));have C:((w.alloc (zp #[zA 2,zA j,.slice a l.length c] 24)).alloc zi).heap.size=w.heap.size+2:=(by simp);rw[C]at P;clear C N T2 R2;generalize ((w.alloc (zp #[zA 2,zA j,.slice a l.length c] 24)).alloc zi).alloc (zp #[zA 2,zA j,zB] 24)=w3 at *;obtain⟨O,C⟩:∃O,O=w.heap.size+2:=⟨_,rfl⟩;rw[<-C]at P;simp only[<-C];have hO:w.heap.size+2<=O:=(by omega);clear C;go_loopw [9] (λi wr=>∃(k:Nat) (u:Value),k<=l.length/\i=zA k/\Fi w (λb=>X b/\b<w.heap.size) O 2 j a l.length c u (Dl z (d+1) (l.take k)) wr) (λi wr=>l.length-(intOf i).toNat);case atStart=>exact⟨0,zB,Bp _,rfl,[],by have h:=Cg.start w3 (O+1) 24 (λb=>X b/\b<w.heap.size); simpa [Dl] using h,B3.o,T3.o,A.o,P.o,P.o.lt⟩
    case round=>
     obtain⟨k,u9,hk,rfl,y⟩:=hrel;have a6:=Aa y;obtain⟨xs,ai,a7,hT,hR,a8,aV⟩:=y;have XE:=Aa a7;have XT:=Aa hT;have D:=Aa hR;have r:=Aa a8;have XW:=Aa ai;clear ai a7 hR a8;have c0:=hT.c0;have c1:=hT.c1;have c2:=hT.c2;have o0:=r.o.c0;have o1:=r.o.c1;have o2:wr.cell? (zD O 2)=some u9:=r.o.cell 2;clear hT;by_cases n:k<l.length
     ·obtain⟨b,o,M,c',rfl,d0,ar,d1,hx⟩:=(HS.o.mono (Y:=(λb=>X b/\b<w.heap.size)) λb h1 h2=>⟨h1,h2⟩).get XE.o (λb h _=>h.2) k n;have HX:=Aa hx;have aG:(k:Int)<(l.length:Int):=(by omega);have aA:b<w.heap.size:=by
       obtain⟨_,h1⟩:=HS.o;rcases h1 with h1|⟨b',o',e',h1⟩
       ·rw[h1]at n; simp at n
       ·cases e'; exact Hi (Fe _ _ _ h1 k n).2.1
      have aH:Ai [l[k]]<=Ai l:=(by have h1:=Df l k n;have h2:=DJ l (k+1);omega);have aB:Hid ((Dl z (d+1) (l.take k)).length<=1000000):=Aa (by rw[EN];simp;omega);have aI:=Aa (Cz.at k n aN.o);have aw:=Aa (RJ z (d+1) l k n);have aC:Hid (Calls prog 67 #[.agg (zE l[k] M c'),.slice la 1 cl,zA (d+1)] wr.drew λe ax=>∃R c1,e=.returned (.agg #[zA (AY z (d+1) l[k]).kind,zA (AY z (d+1) l[k]).idx,.slice R (AY z (d+1) l[k]).subs.length c1])/\Ap ax (λb=>(X b/\b<w.heap.size)∨wr.heap.size<=b) R (AY z (d+1) l[k]).subs/\Below wr.heap.size wr ax):=(IH.o l[k] (Bv n) _ (d+1) wr.drew (λb=>X b/\b<w.heap.size) (HX.o.later ((Ac wr.heap.size wr).drew)) ((HZ.o.mono (Y:=λb=>X b/\b<w.heap.size) λb h1 h2=>⟨h1,h2⟩).below XE.o.drew (λb h _=>h.2)) (by omega) (by omega) aI.o).mono λe ax hp=>by
        obtain⟨R,c1,h1,h2,h3⟩:=hp;exact⟨R,c1,h1,h2.mono (λb hb _=>hb.imp (λh=>h.1) id),((Ac wr.heap.size wr).drew).trans h3⟩
      have ay:Hid (C0 w.heap.size b (o+k*3) 2 j (some (zD b o)) l.length c l[k].kind l[k].idx (.slice M l[k].subs.length c') wr):=⟨XT.o,d0,ar,d1⟩;clear hx d0 ar d1 c0 c1 o0 o1;go_wp2_with fail;have aD:Hid (C0 w.heap.size b (o+k*3) 2 j (some (zD b o)) l.length c l[k].kind l[k].idx (.slice M l[k].subs.length c') wr.drew):=ay.o;refine Co (S:=C0 w.heap.size b (o+k*3) 2 j (some (zD b o)) l.length c l[k].kind l[k].idx (.slice M l[k].subs.length c')) (by kernel_rfl) aD.o λhH=>?_;refine tkz 0 ?_;refine tkz 2 ?_;refine tkz 3 ?_ (hy:=by intro w' E;have c2:w'.cell? (zD w.heap.size 2)=some (.slice (some (zD b o)) l.length c):=E.1.cell 2;go_simp<;>with_reducible rfl);refine tkz 4 ?_;refine tkz 5 ?_;refine tkz 6 ?_ (hy:=by intro w' E;have e0:=E.2.1;have e1:=E.2.2.1;have e2:=E.2.2.2;go_simp<;>with_reducible rfl);refine tkz 7 ?_;refine tkz 8 ?_;have aW:wr.drew.cell? (zD O 2)=some u9:=r.o.cell 2;refine Bw (rs:=[1,9]) (by kernel_rfl) (by simp) ?_;refine Ax rfl (λK f=>?_) (Ax rfl (λK f=>?_) Bx)
      ·go_simp;refine zo f (by exact aD.o) λhH=>?_;clear f K;refine rdq 9 rfl λK f=>?_;go_simp;go_at_call 67;refine aC.o.mono ?_;rintro e w5 ⟨a5,c5,rfl,F,s⟩;obtain⟨g,cap,w3,G,H,I,B,o3,of,J,y⟩:=FQ (c1:=c5) hO (λb h=>h.2) aA a6.o ay.o aB.o s F;have T:=Aa G;have U:=Aa y;have V:=Aa H;have L:=Aa I;have W:=Aa B;have Z:=Aa J;have aJ:w5.cell? (zD O 2)=some u9:=(s.cell (p:=(zD O 2)) r.o.lt).trans (r.o.cell 2);have aE:=Aa s;clear G y H I B J F s;go_simp;refine zo f (by exact V.o) λhH=>?_;clear f K;refine rdq 10 rfl λK f=>?_;go_simp;refine zo f (by exact L.o) λhH=>?_;clear f K;refine rdq 11 rfl λK f=>?_;refine Bo rfl _ _ _ _ rfl rfl rfl T.o ?_;refine zo f (by exact W.o) λhH=>?_;clear f K;refine tkz 12 ?_;refine rdq 13 rfl λK f=>?_;go_simp;refine zo f (by exact Z.o) λhH=>?_;clear f K;refine dnq ?_;go_wp2_with fail;go_roundw
       case rel=>exact⟨k+1,_,by omega,by go_num,by rw[aw.o]; exact U.o⟩
       case measure=>simp[intOf]; omega
      ·go_simp;go_at_call 67;refine aC.o.mono ?_;rintro e w5 ⟨a5,c5,rfl,F,s⟩;obtain⟨g,cap,w3,G,H,I,B,o3,of,J,y⟩:=FQ (c1:=c5) hO (λb h=>h.2) aA a6.o ay.o aB.o s F;have T:=Aa G;have U:=Aa y;have V:=Aa H;have L:=Aa I;have W:=Aa B;have Z:=Aa J;have aJ:w5.cell? (zD O 2)=some u9:=(s.cell (p:=(zD O 2)) r.o.lt).trans (r.o.cell 2);have aE:=Aa s;clear G y H I B J F s;go_simp;refine zo f (by exact V.o) λhH=>?_;clear f K;refine Bw (rs:=[1,10]) (by kernel_rfl) (by simp) ?_;refine Ax rfl (λK f=>?_) (Ax rfl (λK f=>?_) Bx)
       ·go_simp;refine zo f (by exact V.o) λhH=>?_;clear f K;refine rdq 10 rfl λK f=>?_;go_simp;refine zo f (by exact L.o) λhH=>?_;clear f K;refine rdq 11 rfl λK f=>?_;refine Bo rfl _ _ _ _ rfl rfl rfl T.o ?_;refine zo f (by exact W.o) λhH=>?_;clear f K;refine tkz 12 ?_;refine rdq 13 rfl λK f=>?_;go_simp;refine zo f (by exact Z.o) λhH=>?_;clear f K;refine dnq ?_;go_wp2_with fail;go_roundw
        case rel=>exact⟨k+1,_,by omega,by go_num,by rw[aw.o]; exact U.o⟩
        case measure=>simp[intOf]; omega
       ·go_simp;refine zo f (by exact L.o) λhH=>?_;clear f K;refine rdq 1 rfl λK f=>?_;have aX:=((Aa (r.o.below aE.o r.o.lt)).o.alloc (zp #[zA (AY z (d+1) l[k]).kind,zA (AY z (d+1) l[k]).idx,.slice a5 (AY z (d+1) l[k]).subs.length c5] 24)).cell 2;go_simp;refine zo f (by exact L.o) λhH=>?_;clear f K;refine rdq 11 rfl λK f=>?_;refine Bo rfl _ _ _ _ rfl rfl rfl T.o ?_;refine zo f (by exact W.o) λhH=>?_;clear f K;refine tkz 12 ?_;refine rdq 13 rfl λK f=>?_;go_simp;refine zo f (by exact Z.o) λhH=>?_;clear f K;refine dnq ?_;go_wp2_with fail;go_roundw
        case rel=>exact⟨k+1,_,by omega,by go_num,by rw[aw.o]; exact U.o⟩
        case measure=>simp[intOf]; omega
     ·have aY:¬((k:Int)<(l.length:Int)):=(by omega);have aK:l.take k=l:=Bz (by omega);rw[aK]at XW;obtain⟨ae,ce,rfl,aF⟩:=XW.o.sl;have aL:=Aa aF;clear aF;have r0:=D.o.c0;have r1:=D.o.c1;have r2:=D.o.c2;have rf:=D.o.frozen;have av:w.heap.size+1<wr.heap.size:=D.o.lt;have aZ:Hid ((Dl z (d+1) (l)).length=l.length):=Aa (by rw[EN];simp);go_wp2_with fail;refine Ao (v:=.agg #[zA 2,zA j,.slice ae (Dl z (d+1) (l)).length ce]) (by simp[results,results67,go_sem,AL,AE,r0,r1,r2,av]) rfl ?_;rw[HT.o];refine⟨ae,ce,rfl,(aL.o.kept λb hb=>?_).mono λb hb _=>?_,((XE.o.setCell (by simp) _).setCell (by simp) _).setCell (by simp) _⟩
      ·have x:b≠w.heap.size+1:=by
        rcases hb with h|h
        ·have:=h.2; omega
        ·omega
       rw[Ak _ _ _ _ (by simpa using x),Ak _ _ _ _ (by simpa using x),Ak _ _ _ _ (by simpa using x)]
      ·rcases hb with h|h
       ·exact Ad h
       ·right; omega
   case neg=>
    have e2:(m==2)=false:=(by simpa using k2);have HT:Hid (AY z d ⟨m,j,l⟩=⟨m,j,Dl z d l⟩):=Aa (by unfold AY;simp[AR,k1,k2]);go_in;go_wp2_with fail;have T3:=Aa (T2.o.alloc (zp #[zA m,zA j,zB] 24));have A:=Aa (R2.o.alloc (zp #[zA m,zA j,zB] 24));have P:=Aa (Ab.new ((w.alloc (zp #[zA m,zA j,.slice a l.length c] 24)).alloc zi) #[zA m,zA j,zB] 24);have B3:=Aa (N.o.alloc N.o.size (.cells #[zA m,zA j,zB] 24));have C:((w.alloc (zp #[zA m,zA j,.slice a l.length c] 24)).alloc zi).heap.size=w.heap.size+2:=(by simp);rw[C]at P;clear C N T2 R2;generalize ((w.alloc (zp #[zA m,zA j,.slice a l.length c] 24)).alloc zi).alloc (zp #[zA m,zA j,zB] 24)=w3 at *;obtain⟨O,C⟩:∃O,O=w.heap.size+2:=⟨_,rfl⟩;rw[<-C]at P;simp only[<-C];have hO:w.heap.size+2<=O:=(by omega);clear C;go_loopw [9] (λi wr=>∃(k:Nat) (u:Value),k<=l.length/\i=zA k/\Fi w (λb=>X b/\b<w.heap.size) O m j a l.length c u (Dl z d (l.take k)) wr) (λi wr=>l.length-(intOf i).toNat);case atStart=>exact⟨0,zB,Bp _,rfl,[],by have h:=Cg.start w3 (O+1) 24 (λb=>X b/\b<w.heap.size); simpa [Dl] using h,B3.o,T3.o,A.o,P.o,P.o.lt⟩
    case round=>
     obtain⟨k,u9,hk,rfl,y⟩:=hrel;have a6:=Aa y;obtain⟨xs,ai,a7,hT,hR,a8,aV⟩:=y;have XE:=Aa a7;have XT:=Aa hT;have D:=Aa hR;have r:=Aa a8;have XW:=Aa ai;clear ai a7 hR a8;have c0:=hT.c0;have c1:=hT.c1;have c2:=hT.c2;have o0:=r.o.c0;have o1:=r.o.c1;have o2:wr.cell? (zD O 2)=some u9:=r.o.cell 2;clear hT;by_cases n:k<l.length
     ·obtain⟨b,o,M,c',rfl,d0,ar,d1,hx⟩:=(HS.o.mono (Y:=(λb=>X b/\b<w.heap.size)) λb h1 h2=>⟨h1,h2⟩).get XE.o (λb h _=>h.2) k n;have HX:=Aa hx;have aG:(k:Int)<(l.length:Int):=(by omega);have aA:b<w.heap.size:=by
       obtain⟨_,h1⟩:=HS.o;rcases h1 with h1|⟨b',o',e',h1⟩
       ·rw[h1]at n; simp at n
       ·cases e'; exact Hi (Fe _ _ _ h1 k n).2.1
      have aH:Ai [l[k]]<=Ai l:=(by have h1:=Df l k n;have h2:=DJ l (k+1);omega);have aB:Hid ((Dl z d (l.take k)).length<=1000000):=Aa (by rw[EN];simp;omega);have aI:=Aa (Cz.at k n aN.o);have aw:=Aa (RJ z d l k n);have aC:Hid (Calls prog 67 #[.agg (zE l[k] M c'),.slice la 1 cl,zA d] wr.drew λe ax=>∃R c1,e=.returned (.agg #[zA (AY z d l[k]).kind,zA (AY z d l[k]).idx,.slice R (AY z d l[k]).subs.length c1])/\Ap ax (λb=>(X b/\b<w.heap.size)∨wr.heap.size<=b) R (AY z d l[k]).subs/\Below wr.heap.size wr ax):=(IH.o l[k] (Bv n) _ d wr.drew (λb=>X b/\b<w.heap.size) (HX.o.later ((Ac wr.heap.size wr).drew)) ((HZ.o.mono (Y:=λb=>X b/\b<w.heap.size) λb h1 h2=>⟨h1,h2⟩).below XE.o.drew (λb h _=>h.2)) (by omega) (by omega) aI.o).mono λe ax hp=>by
        obtain⟨R,c1,h1,h2,h3⟩:=hp;exact⟨R,c1,h1,h2.mono (λb hb _=>hb.imp (λh=>h.1) id),((Ac wr.heap.size wr).drew).trans h3⟩
      have ay:Hid (C0 w.heap.size b (o+k*3) m j (some (zD b o)) l.length c l[k].kind l[k].idx (.slice M l[k].subs.length c') wr):=⟨XT.o,d0,ar,d1⟩;clear hx d0 ar d1 c0 c1 o0 o1;go_wp2_with fail;have aD:Hid (C0 w.heap.size b (o+k*3) m j (some (zD b o)) l.length c l[k].kind l[k].idx (.slice M l[k].subs.length c') wr.drew):=ay.o;refine Co (S:=C0 w.heap.size b (o+k*3) m j (some (zD b o)) l.length c l[k].kind l[k].idx (.slice M l[k].subs.length c')) (by kernel_rfl) aD.o λhH=>?_;refine tkz 0 ?_;refine tkz 2 ?_;refine tkz 3 ?_ (hy:=by intro w' E;have c2:w'.cell? (zD w.heap.size 2)=some (.slice (some (zD b o)) l.length c):=E.1.cell 2;go_simp<;>with_reducible rfl);refine tkz 4 ?_;refine tkz 5 ?_;refine tkz 6 ?_ (hy:=by intro w' E;have e0:=E.2.1;have e1:=E.2.2.1;have e2:=E.2.2.2;go_simp<;>with_reducible rfl);refine tkz 7 ?_;refine tkz 8 ?_;have aW:wr.drew.cell? (zD O 2)=some u9:=r.o.cell 2;refine Bw (rs:=[1,9]) (by kernel_rfl) (by simp) ?_;refine Ax rfl (λK f=>?_) (Ax rfl (λK f=>?_) Bx)
      ·go_simp;refine zo f (by exact aD.o) λhH=>?_;clear f K;refine rdq 9 rfl λK f=>?_;go_simp;go_at_call 67;refine aC.o.mono ?_;rintro e w5 ⟨a5,c5,rfl,F,s⟩;obtain⟨g,cap,w3,G,H,I,B,o3,of,J,y⟩:=FQ (c1:=c5) hO (λb h=>h.2) aA a6.o ay.o aB.o s F;have T:=Aa G;have U:=Aa y;have V:=Aa H;have L:=Aa I;have W:=Aa B;have Z:=Aa J;have aJ:w5.cell? (zD O 2)=some u9:=(s.cell (p:=(zD O 2)) r.o.lt).trans (r.o.cell 2);have aE:=Aa s;clear G y H I B J F s;go_simp;refine zo f (by exact V.o) λhH=>?_;clear f K;refine rdq 10 rfl λK f=>?_;go_simp;refine zo f (by exact L.o) λhH=>?_;clear f K;refine rdq 11 rfl λK f=>?_;refine Bo rfl _ _ _ _ rfl rfl rfl T.o ?_;refine zo f (by exact W.o) λhH=>?_;clear f K;refine tkz 12 ?_;refine rdq 13 rfl λK f=>?_;go_simp;refine zo f (by exact Z.o) λhH=>?_;clear f K;refine dnq ?_;go_wp2_with fail;go_roundw
       case rel=>exact⟨k+1,_,by omega,by go_num,by rw[aw.o]; exact U.o⟩
       case measure=>simp[intOf]; omega
      ·go_simp;go_at_call 67;refine aC.o.mono ?_;rintro e w5 ⟨a5,c5,rfl,F,s⟩;obtain⟨g,cap,w3,G,H,I,B,o3,of,J,y⟩:=FQ (c1:=c5) hO (λb h=>h.2) aA a6.o ay.o aB.o s F;have T:=Aa G;have U:=Aa y;have V:=Aa H;have L:=Aa I;have W:=Aa B;have Z:=Aa J;have aJ:w5.cell? (zD O 2)=some u9:=(s.cell (p:=(zD O 2)) r.o.lt).trans (r.o.cell 2);have aE:=Aa s;clear G y H I B J F s;go_simp;refine zo f (by exact V.o) λhH=>?_;clear f K;refine Bw (rs:=[1,10]) (by kernel_rfl) (by simp) ?_;refine Ax rfl (λK f=>?_) (Ax rfl (λK f=>?_) Bx)
       ·go_simp;refine zo f (by exact V.o) λhH=>?_;clear f K;refine rdq 10 rfl λK f=>?_;go_simp;refine zo f (by exact L.o) λhH=>?_;clear f K;refine rdq 11 rfl λK f=>?_;refine Bo rfl _ _ _ _ rfl rfl rfl T.o ?_;refine zo f (by exact W.o) λhH=>?_;clear f K;refine tkz 12 ?_;refine rdq 13 rfl λK f=>?_;go_simp;refine zo f (by exact Z.o) λhH=>?_;clear f K;refine dnq ?_;go_wp2_with fail;go_roundw
        case rel=>exact⟨k+1,_,by omega,by go_num,by rw[aw.o]; exact U.o⟩
        case measure=>simp[intOf]; omega
       ·go_simp;refine zo f (by exact L.o) λhH=>?_;clear f K;refine rdq 1 rfl λK f=>?_;have aX:=((Aa (r.o.below aE.o r.o.lt)).o.alloc (zp #[zA (AY z d l[k]).kind,zA (AY z d l[k]).idx,.slice a5 (AY z d l[k]).subs.length c5] 24)).cell 2;go_simp;refine zo f (by exact L.o) λhH=>?_;clear f K;refine rdq 11 rfl λK f=>?_;refine Bo rfl _ _ _ _ rfl rfl rfl T.o ?_;refine zo f (by exact W.o) λhH=>?_;clear f K;refine tkz 12 ?_;refine rdq 13 rfl λK f=>?_;go_simp;refine zo f (by exact Z.o) λhH=>?_;clear f K;refine dnq ?_;go_wp2_with fail;go_roundw
        case rel=>exact⟨k+1,_,by omega,by go_num,by rw[aw.o]; exact U.o⟩
        case measure=>simp[intOf]; omega
     ·have aY:¬((k:Int)<(l.length:Int)):=(by omega);have aK:l.take k=l:=Bz (by omega);rw[aK]at XW;obtain⟨ae,ce,rfl,aF⟩:=XW.o.sl;have aL:=Aa aF;clear aF;have r0:=D.o.c0;have r1:=D.o.c1;have r2:=D.o.c2;have rf:=D.o.frozen;have av:w.heap.size+1<wr.heap.size:=D.o.lt;have aZ:Hid ((Dl z d (l)).length=l.length):=Aa (by rw[EN];simp);go_wp2_with fail;refine Ao (v:=.agg #[zA m,zA j,.slice ae (Dl z d (l)).length ce]) (by simp[results,results67,go_sem,AL,AE,r0,r1,r2,av]) rfl ?_;rw[HT.o];refine⟨ae,ce,rfl,(aL.o.kept λb hb=>?_).mono λb hb _=>?_,((XE.o.setCell (by simp) _).setCell (by simp) _).setCell (by simp) _⟩
      ·have x:b≠w.heap.size+1:=by
        rcases hb with h|h
        ·have:=h.2; omega
        ·omega
       rw[Ak _ _ _ _ (by simpa using x),Ak _ _ _ _ (by simpa using x),Ak _ _ _ _ (by simpa using x)]
      ·rcases hb with h|h
       ·exact Ad h
       ·right; omega
theorem Jz {a b:Bool} (h:a=b):Ending.returned (.bool a)=.returned (.bool b):=by rw[h]
def EA:List Lm->Prop
 | []=>True
 | ⟨k,_,l⟩::r=>l.length=BF k/\EA l/\EA r
theorem Ss:EA []:=by simp[EA]
theorem JA (k x:Int) (l r:List Lm):EA (⟨k,x,l⟩::r)↔l.length=BF k/\EA l/\EA r:=by simp[EA]
theorem EA.at:∀ {l:List Lm} (k:Nat) (h:k<l.length),EA l->EA [l[k]]
 | [],k,h,_=>by simp at h
 | ⟨s,x,l⟩::r,0,h,hb=>by
  rw[JA]at hb;exact(JA s x l []).2 ⟨hb.1,hb.2.1,Ss⟩
 | ⟨s,x,l⟩::r,k+1,h,hb=>by
  rw[JA]at hb;have:=EA.at (l:=r) k (by simpa using h) hb.2.2;simpa using this
def CA (t:Lm):Bool:=decide (t.kind=3)&&(match t.subs with|[]=>false|y::_=>decide (y.kind=2))
def AN:List Lm->Bool
 | []=>false
 | ⟨k,x,l⟩::r=>CA ⟨k,x,l⟩||AN l||AN r
theorem JB (a b:List Lm):AN (a++b)=(AN a||AN b):=by
 induction a with
 |nil=>simp[AN]
 |cons t r c=>obtain⟨k,x,l⟩:=t; simp only[Dj,AN,c,Bool.or_assoc]
theorem MB (l:List Lm) (k:Nat) (h:k<l.length):AN (l.take (k+1))=(AN (l.take k)||AN [l[k]]):=by
 rw[CI h,JB]
theorem St {l:List Lm} {k:Nat} (h:k<l.length) (a:AN [l[k]]=true):AN l=true:=by
 have h1:=JB (l.take (k+1)) (l.drop (k+1));rw[FH,MB l k h,a]at h1;simpa using h1
theorem IW (k x:Int) (l:List Lm):AN [⟨k,x,l⟩]=(CA ⟨k,x,l⟩||AN l):=by simp[AN]
theorem Su (t:Lm) (v:Value) (w:World) (X:Nat->Prop) (n:MV w X v t) (h3:t.kind=3->t.subs≠[]):
  Calls prog 52 #[v] w λe w'=>e=.returned (.bool (CA t))/\Below w.heap.size w w':=by
 obtain⟨g,f,l⟩:=t;obtain⟨a,c,rfl,j⟩:=n;dsimp only[zE];have i:Hid (Below w.heap.size w (w.alloc (zp #[zA g,zA f,.slice a l.length c] 24))):=(Ac _ _).alloc (Af _) _;have ad:=j.1;by_cases k:g=3
 ·subst k;cases l with
  |nil=>exact absurd rfl (h3 rfl)
  |cons y r=>
   obtain⟨b,o,a',c',rfl,d0,q,d1,hx⟩:=j.get i.o (λ_ _ h=>h) 0 (by simp);simp only[Nat.zero_mul,Ic,Gc,Cl] at d0;have d:Hid (decide (y.kind=2)=CA ⟨3,f,y::r⟩):=Aa (by unfold CA;simp);clear hx q d1 h3 j;by_cases hy:y.kind=2
   ·have m:Hid (true=CA ⟨3,f,y::r⟩):=Aa (by rw[<-d.o,hy];rfl);rw[hy]at d0;clear hy d;go_in;go_wp2_with fail;go_ret;exact⟨Jz m.o,i.o⟩
   ·have m:Hid (false=CA ⟨3,f,y::r⟩):=Aa (by rw[<-d.o];simp[hy]);have ae:(y.kind==2)=false:=(by simpa using hy);clear hy d;go_in;go_wp2_with fail;go_ret;exact⟨Jz m.o,i.o⟩
 ·have e3:(g==3)=false:=by simpa using k
  have d:Hid (false=CA ⟨g,f,l⟩):=Aa (by unfold CA;simp[k]);go_in;go_wp2_with fail;go_ret;exact⟨Jz d.o,i.o⟩
theorem Sv (t:Lm):∀(v:Value) (w:World) (X:Nat->Prop),MV w X v t->EA [t]->
  Calls prog 30 #[v] w λe w'=>e=.returned (.bool (AN [t]))/\Below w.heap.size w w':=by
 induction t using Lm.ind with
 |h d f l B=>
  intro v w X I g;obtain⟨a,c,rfl,r⟩:=I;have J:=Aa B;have C:=Aa r;have az:=r.1;rw[JA]at g;obtain⟨s,g,_⟩:=g;have L:=Aa g;have M:Hid (d=3->l≠[]):=λh e=>by rw[e,h] at s; simp[BF] at s
  clear B r g s;have u:Hid (Below w.heap.size w (w.alloc (zp #[zA d,zA f,.slice a l.length c] 24))):=(Ac _ _).alloc (Af _) _;have x:=Aa (Ab.new w #[zA d,zA f,.slice a l.length c] 24);go_in;go_wp2_with fail;refine(Su ⟨d,f,l⟩ _ _ X ⟨a,c,rfl,C.o.later u.o⟩ M.o).mono ?_;rintro e w1 ⟨rfl,y⟩;have D:=Aa (u.o.trans (y.mono (by simp)));have ar:=Aa (x.o.below y x.o.lt);clear y u x;cases m:CA ⟨d,f,l⟩ with
  |true=>have n:Hid (true=AN [⟨d,f,l⟩]):=Aa (by rw[IW,m];rfl);clear m;go_wp2_with fail;go_ret;exact⟨Jz n.o,D.o⟩
  |false=>
   have n:Hid (AN [⟨d,f,l⟩]=AN l):=Aa (by rw[IW,m];rfl);clear m;go_wp2_with fail;go_loopw [3] (λi wr=>∃k:Nat,k<=l.length/\i=zA k/\AN (l.take k)=false/\Below w.heap.size w wr/\Ab wr w.heap.size #[zA d,zA f,.slice a l.length c] 24) (λi wr=>l.length-(intOf i).toNat);case atStart=>exact⟨0,Bp _,rfl,by simp[AN],D.o,ar.o⟩
   case round=>
    obtain⟨k,hk,rfl,he,hb,hT⟩:=hrel;have E:=Aa he;have F:=Aa hb;have G:=Aa hT;have N:w.heap.size<=wr.heap.size:=hb.size;have t0:=hT.c0;have t1:=hT.c1;have t2:=hT.c2;by_cases j:k<l.length
    ·obtain⟨b,o,a',c',rfl,d0,a1,d1,hx⟩:=C.o.get hb (λ_ _ h=>h) k j;have av:(k:Int)<(l.length:Int):=(by omega);have O:=Aa hx;clear hx he hb hT;go_wp2_with fail;refine(J.o _ (Bv j) _ _ X O.o (EA.at k j L.o)).mono ?_;rintro e w2 ⟨rfl,z⟩;have H:Hid (Below w.heap.size w w2):=F.o.trans (z.mono N);have P:=Aa (G.o.below z G.o.lt);clear z;cases q:AN [l[k]] with
     |true=>have A:Hid (true=AN [⟨d,f,l⟩]):=Aa (by rw[n.o,St j q]);clear q;go_wp2_with fail;go_ret;exact⟨Jz A.o,H.o⟩
     |false=>
      have R:=Aa q;clear q;go_wp2_with fail;go_roundw
      case rel=>exact⟨k+1,by omega,by go_num,by rw[MB l k j,E.o,R.o]; rfl,H.o,P.o⟩
      case measure=>simp[intOf]; omega
    ·have T:l.take k=l:=Bz (by omega);have a6:¬((k:Int)<(l.length:Int)):=(by omega);have A:Hid (false=AN [⟨d,f,l⟩]):=Aa (by rw[n.o,<-T,E.o]);go_wp2_with fail;go_ret;exact⟨Jz A.o,F.o⟩
def Hk:List Lm->Lm
 | [⟨_,_,[b]⟩,z]=>AY z 0 b
 |_=>⟨0,0,[]⟩
def CD (f:Lm->Lm):List Lm->List Lm
 | []=>[]
 |y::r=>if AN [y]=true then f y::r else y::CD f r
def Fx (inn:Bool) (t:Lm):Bool:=CA t&&(!inn||!AN t.subs)
def BG (inn:Bool):Nat->Lm->Lm
 |0,t=>t
 |n+1,⟨k,x,l⟩=>if Fx inn ⟨k,x,l⟩=true then Hk l else ⟨k,x,CD (BG inn n) l⟩
def Bm (inn:Bool):Nat->Lm->Int×Lm×Nat
 |0,t=>if AN [t]=true then (9,t,0) else (0,t,0)
 |k+1,t=>if AN [t]=true then (if 2000<Ai [BG inn 2001 t] then (8,t,0) else ((Bm inn k (BG inn 2001 t)).1,(Bm inn k (BG inn 2001 t)).2.1,(Bm inn k (BG inn 2001 t)).2.2+1)) else (0,t,0)
theorem EC:AG u m k x n=0↔(1<=k/\k<=5)/\n=BF k/\0<=x/\x<Bk u m k:=by
 unfold AG;constructor
 ·intro h;split at h
  ·cases h
  ·split at h
   ·cases h
   ·split at h
    ·cases h
    ·omega
 ·rintro⟨h1,h2,h3,h4⟩;rw[Am (by omega),Am (by omega),Am (by omega)]
theorem Io {r:List Lm}:Au u m (t::r)=0↔Au u m [t]=0/\Au u m r=0:=by
 rw[LQ];constructor
 ·intro h;split at h
  ·rename_i h1; exact⟨h1,h⟩
  ·rename_i h1; exact absurd h h1
 ·rintro⟨h1,h2⟩; rw[Aq h1]; exact h2
theorem D3 {l:List Lm}:Au u m [⟨k,x,l⟩]=0↔AG u m k x l.length=0/\Au (AR u k) m l=0:=by
 constructor
 ·intro h;by_cases h1:AG u m k x l.length=0
  ·rw[He h1]at h; exact⟨h1,h⟩
  ·rw[D8 h1]at h; exact absurd h h1
 ·rintro⟨h1,h2⟩; rw[He h1]; exact h2
theorem MC {l:List Lm}:Au u m l=0↔∀t∈l,Au u m [t]=0:=by
 induction l with
 |nil=>simp[Au]
 |cons t r a=>rw[Io,a]; simp
theorem Oe (l:List Lm):∀u m,Au u m l=0->EA l:=by
 induction l using Lm.indL with
 |h0=>intro _ _ _; exact Ss
 |h k x l r a b=>intro u m h;obtain⟨h1,h2⟩:=Io.1 h;obtain⟨h3,c⟩:=D3.1 h1;exact(JA k x l r).2 ⟨(EC.1 h3).2.1,a _ _ c,b _ _ h2⟩
theorem Ym (y d:Int) (l:List Lm):(CM y d l).length=l.length:=by rw[Eo]; simp
theorem Yn (z:Lm) (d:Int) (l:List Lm):(Dl z d l).length=l.length:=by rw[EN]; simp
theorem Sw {u':Int} (h:k≠1):Bk u m k=Bk u' m k:=by unfold Bk; rw[Am h,Am h]
theorem Yo (m:Int) (l:List Lm):∀u c y:Int,0<=u->0<=c->0<=y->Au (u+c) m l=0->Au (u+c+y) m (CM y c l)=0:=by
 induction l using Lm.indL with
 |h0=>intro u c y _ _ _ _; simp[CM,Au]
 |h k x l r b e=>
  intro u c y hu hc hy h;obtain⟨h1,h2⟩:=Io.1 h;obtain⟨h3,a⟩:=D3.1 h1;obtain⟨d,a2,a3,a4⟩:=EC.1 h3;rw[CM];refine Io.2 ⟨?_,e u c y hu hc hy h2⟩;by_cases hk:k=1
  ·subst hk;have f:l=[]:=GV.1 (by rw[a2]; rfl);subst f;have a5:x<u+c:=(by simpa [Bk] using a4);rw[Aq rfl];split
   ·exact D3.2 ⟨EC.2 ⟨d,a2,a3,by show x<Bk _ _ 1; simp[Bk]; omega⟩,by simp[Au]⟩
   ·exact D3.2 ⟨EC.2 ⟨by omega,rfl,by omega,by show x+y<Bk _ _ 1; simp[Bk]; omega⟩,by simp[Au]⟩
  ·rw[Am hk];refine D3.2 ⟨EC.2 ⟨d,by rw[Ym]; exact a2,a3,by rw[Sw hk (u':=u+c)]; exact a4⟩,?_⟩;by_cases h2:k=2
   ·subst h2;have e1:AR (u+c+y) 2=u+(c+1)+y:=by simp[AR]; omega
    have e2:AR c 2=c+1:=(by simp[AR]);have e3:AR (u+c) 2=u+(c+1):=by simp[AR]; omega
    rw[e1,e2];rw[e3]at a;exact b u (c+1) y hu (by omega) hy a
   ·have e1:∀z,AR z k=z:=λz=>by simp[AR,h2]
    rw[e1,e1];rw[e1]at a;exact b u c y hu hc hy a
theorem Yp {c y:Int} (hu:0<=u) (hc:0<=c) (hy:0<=y) (h:Au (u+c) m [t]=0):Au (u+c+y) m [AZ y c t]=0:=by
 have:=Yo m [t] u c y hu hc hy h;rw[Eo]at this;exact this
theorem Yq (m:Int) (z:Lm) (l:List Lm):∀u c:Int,0<=u->0<=c->Au u m [z]=0->Au (u+c+1) m l=0->Au (u+c) m (Dl z c l)=0:=by
 induction l using Lm.indL with
 |h0=>intro u c _ _ _ _; simp[Dl,Au]
 |h k x l r b e=>
  intro u c hu hc hz h;obtain⟨h1,h2⟩:=Io.1 h;obtain⟨h3,a⟩:=D3.1 h1;obtain⟨d,a2,a3,a4⟩:=EC.1 h3;rw[Dl];refine Io.2 ⟨?_,e u c hu hc hz h2⟩;by_cases hk:k=1
  ·subst hk;have f:l=[]:=GV.1 (by rw[a2]; rfl);subst f;have a5:x<u+c+1:=(by simpa [Bk] using a4);rw[Aq rfl];split
   ·exact D3.2 ⟨EC.2 ⟨d,a2,a3,by show x<Bk _ _ 1; simp[Bk]; omega⟩,by simp[Au]⟩
   ·split
    ·have g:=Yp (m:=m) (u:=u) (c:=0) (y:=c) (t:=z) hu (by omega) hc (by simpa using hz);simpa using g
    ·exact D3.2 ⟨EC.2 ⟨by omega,rfl,by omega,by show x-1<Bk _ _ 1; simp[Bk]; omega⟩,by simp[Au]⟩
  ·rw[Am hk];refine D3.2 ⟨EC.2 ⟨d,by rw[Yn]; exact a2,a3,by rw[Sw hk (u':=u+c+1)]; exact a4⟩,?_⟩;by_cases h2:k=2
   ·subst h2;have e1:AR (u+c) 2=u+(c+1):=by simp[AR]; omega
    have e2:AR c 2=c+1:=(by simp[AR]);have e3:AR (u+c+1) 2=u+(c+1)+1:=by simp[AR]; omega
    rw[e1,e2];rw[e3]at a;exact b u (c+1) hu (by omega) hz a
   ·have e1:∀z,AR z k=z:=λz=>by simp[AR,h2]
    rw[e1,e1];rw[e1]at a;exact b u c hu hc hz a
theorem Yr {z:Lm} (hu:0<=u) (hz:Au u m [z]=0) (h:Au (u+1) m [t]=0):Au u m [AY z 0 t]=0:=by
 have:=Yq m z [t] u 0 hu (by omega) hz (by simpa using h);rw[EN]at this;simpa using this
theorem Sz (he:Au u m [t]=0) (a:CA t=true):∃x i b z,t=⟨3,x,[⟨2,i,[b]⟩,z]⟩/\Au (u+1) m [b]=0/\Au u m [z]=0:=by
 obtain⟨k,x,l⟩:=t;obtain⟨h3,c⟩:=D3.1 he;obtain⟨a1,a2,a3,a4⟩:=EC.1 h3;unfold CA at a;simp only[Bool.and_eq_true,Lo] at a;obtain⟨rfl,a⟩:=a;have a5:l.length=2:=by rw[a2]; rfl
 match l,a5 with
 | [⟨k1,i,lb⟩,z],_=>
  simp only[Lo] at a;subst a;have e1:AR u 3=u:=by simp[AR]
  rw[e1]at c;obtain⟨h5,h6⟩:=Io.1 c;obtain⟨d,h8⟩:=D3.1 h5;obtain⟨b1,e,b3,b4⟩:=EC.1 d;have f:lb.length=1:=by rw[e]; rfl
  match lb,f with
  | [b],_=>have e2:AR u 2=u+1:=(by simp[AR]);rw[e2]at h8;exact⟨x,i,b,z,rfl,h8,h6⟩
theorem Of (f:Lm->Lm):∀l:List Lm,(CD f l).length=l.length
 | []=>rfl
 |y::r=>by
  unfold CD;split
  ·rfl
  ·simp[Of f r]
theorem SC (f:Lm->Lm):∀(l:List Lm) (i:Nat) (h:i<l.length),AN (l.take i)=false->AN [l[i]]=true->CD f l=l.set i (f l[i])
 |y::r,0,h,_,a=>by
  have b:AN [y]=true:=a;unfold CD;rw[Aq b]; rfl
 |y::r,i+1,h,h0,a=>by
  have e:AN (y::r.take i)=(AN [y]||AN (r.take i)):=JB [y] (r.take i);rw[J5,e,Nr]at h0;unfold CD;rw[Am (by rw[h0.1]; simp),SC f r i (by simpa using h) h0.2 (by simpa using a)];rfl
theorem SD (f:Lm->Lm):∀(l:List Lm),AN l=false->CD f l=l
 | [],_=>rfl
 |y::r,h=>by
  have e:AN (y::r)=(AN [y]||AN r):=JB [y] r;rw[e,Nr]at h;unfold CD;rw[Am (by rw[h.1]; simp),SD f r h.2]
theorem SI {f:Lm->Lm}:∀ {l:List Lm} {y:Lm},y∈CD f l->y∈l∨∃z∈l,y=f z
 | [],y,h=>by simp[CD] at h
 |z::r,y,h=>by
  unfold CD at h;split at h
  ·rcases Ct.1 h with rfl|h
   ·exact Ae ⟨z,by simp,rfl⟩
   ·exact Ad (by simp[h])
  ·rcases Ct.1 h with rfl|h
   ·exact Ad (by simp)
   ·rcases SI h with h|⟨q,hq,e⟩
    ·exact Ad (by simp[h])
    ·exact Ae ⟨q,by simp[hq],e⟩
theorem Ys (inn:Bool) (m:Int) (n:Nat):∀(t:Lm) (u:Int),0<=u->Au u m [t]=0->Au u m [BG inn n t]=0:=by
 induction n with
 |zero=>intro t u _ h; exact h
 |succ n d=>
  intro t u hu h;obtain⟨k,x,l⟩:=t;rw[BG];split
  ·rename_i a;unfold Fx at a;simp only[Bool.and_eq_true] at a;obtain⟨x',i,b,z,e,h1,h2⟩:=Sz h a.1;cases e;exact Yr hu h2 h1
  ·obtain⟨h3,c⟩:=D3.1 h;refine D3.2 ⟨by rw[Of]; exact h3,MC.2 λy hy=>?_⟩;have hd:0<=AR u k:=by unfold AR; split<;>omega
   rcases SI hy with hy|⟨z,hz,rfl⟩
   ·exact MC.1 c y hy
   ·exact d z _ hd (MC.1 c z hz)
theorem KD (k x:Int) (l:List Lm):Ai [⟨k,x,l⟩]=1+Ai l:=by simp[Ai]
theorem SJ (t:Lm):0<Ai [t]:=by obtain⟨k,x,l⟩:=t; rw[KD]; omega
theorem MD (l:List Lm) (i:Nat) (h:i<l.length):Ai [l[i]]<=Ai l:=by
 have h1:=Ki (l.take (i+1)) (l.drop (i+1));rw[FH,Df l i h]at h1;omega
theorem Yt (l:List Lm) (i:Nat) (h:i<l.length) (y:Lm):Ai [y]<=Ai (l.set i y):=by
 have h2:i<(l.set i y).length:=by simpa using h
 have:=MD (l.set i y) i h2;simpa using this
def Gr (inn:Bool) (n:Nat) (t:Lm) (x:Lm) (ok:Bool):Prop:=(ok=true->x=BG inn n t)/\(ok=false->2000<Ai [BG inn n t])
theorem Gr.up {l:List Lm} (h:i<l.length) (b:Fx inn ⟨k,x,l⟩=false) (h0:AN (l.take i)=false) (h1:AN [l[i]]=true) (a:Gr inn n l[i] y ok):Gr inn (n+1) ⟨k,x,l⟩ ⟨k,x,l.set i y⟩ ok:=by
 have e:BG inn (n+1) ⟨k,x,l⟩=⟨k,x,l.set i (BG inn n l[i])⟩:=(by rw[BG,Am (by rw[b]; simp),SC _ l i h h0 h1]);refine⟨λhk=>by rw[e,a.1 hk],λhk=>?_⟩;have:=a.2 hk;have h3:=Yt l i h (BG inn n l[i]);rw[e,KD];omega
theorem Gr.at (a:Fx inn t=true) (h1:ok=true->y=Hk t.subs) (h2:ok=false->2000<Ai [Hk t.subs]):Gr inn (n+1) t y ok:=by
 obtain⟨k,x,l⟩:=t;have e:BG inn (n+1) ⟨k,x,l⟩=Hk l:=by rw[BG,Aq a]
 exact⟨λh=>by rw[e,h1 h],λh=>by rw[e]; exact h2 h⟩
def Ed (w:World) (Z:Nat->Prop):List (List Int)->List Value->Prop
 | [],xs=>xs=[]
 |z::r,xs=>∃u xs',xs=u::xs'/\PV w Z u z/\Ed w Z r xs'
theorem Ed.len:∀ {l:List (List Int)} {xs:List Value},Ed w Z l xs->xs.length=l.length
 | [],xs,h=>by simp[Ed] at h; simp[h]
 |z::l,xs,h=>by obtain⟨u,aa,rfl,_,h⟩:=h; simp[Ed.len h]
theorem Ed.append:∀ {l k:List (List Int)} {xs a:List Value},Ed w Z l xs->Ed w Z k a->Ed w Z (l++k) (xs++a)
 | [],k,xs,a,h,h'=>by simp[Ed] at h; subst h; simpa using h'
 |z::l,k,xs,a,h,h'=>by obtain⟨u,b,rfl,hp,h⟩:=h; exact⟨u,b++a,rfl,hp,Ed.append h h'⟩
theorem Ed.imp {a:Nat->Prop} (b:∀u z,PV w Z u z->PV w' a u z):∀ {l:List (List Int)} {xs:List Value},Ed w Z l xs->Ed w' a l xs
 | [],xs,h=>h
 |z::l,xs,h=>by obtain⟨u,c,e,hp,h⟩:=h; exact⟨u,c,e,b _ _ hp,Ed.imp b h⟩
theorem Ed.get:∀ {l:List (List Int)} {xs:List Value},Ed w Z l xs->∀i (h:i<l.length),∃u,xs[i]? = some u/\PV w Z u l[i]
 | [],xs,h,i,hi=>by simp at hi
 |z::l,xs,h,i,hi=>by
  obtain⟨u,aa,rfl,hp,h⟩:=h;cases i with
  |zero=>exact⟨u,rfl,hp⟩
  |succ i=>obtain⟨u',h1,h2⟩:=Ed.get h i (by simpa using hi); exact⟨u',by simpa using h1,h2⟩
theorem PV.one {u:Value} (h:PV w Z u z):u.oneCell'=true:=by obtain⟨a,c,rfl,_⟩:=h; rfl
def GR (w0:World) (N:Nat) (q0:Value) (ps:List (List Int)) (q:Value) (xs:List Value) (wr:World):Prop:=
 wr.ownsRow N 47 1 q ps.length xs/\Ed wr (λb=>N<=b/\some b≠q.ownBlock) ps xs/\w0.grownBy wr q0.ownBlock/\(∀k,q.ownBlock=some k->q0.ownBlock=some k∨w0.heap.size<=k)
theorem PV.grownBy {u:Value} {r:Option Nat} (h:PV w Z u z) (a:w.grownBy w' r) (c:∀b,Z b->some b≠r):PV w' Z u z:=by
 have h1:PV w (λb=>Z b/\b<w.heap.size) u z:=h.mono λb h1 h2=>⟨h1,h2⟩;have h2:PV w' (λb=>Z b/\b<w.heap.size) u z:=h1.kept λb hx=>a.block b hx.2 (c b hx.1);exact h2.mono λb hx _=>hx.1
theorem GR.mono {a wr:World} {c:Value} {d f:List (List Int)} {g:List Value} (h:GR a N b f c g w1) (h1:GR w1 N c d q xs wr):GR a N b d q xs wr:=by
 refine⟨h1.1,h1.2.1,LJ h.2.2.1 h1.2.2.1 h.2.2.2,λk hk=>?_⟩;rcases h1.2.2.2 k hk with e|e
 ·exact h.2.2.2 k e
 ·exact Ae (AJ h.2.2.1.size e)
theorem GR.later {a w2:World} {c:List (List Int)} (h:GR a N b c q xs w1) (hb:Below w1.heap.size w1 w2):GR a N b c q xs w2:=
 ⟨h.1.kept (w' := w2) (row := none) ⟨hb.os, hb.tape, hb.output, hb.size, λj d _ => hb.block j d⟩ (by rcases Je (Value.ownBlock q) with h | ⟨x, h⟩; exact Ad h; exact Ae (by rw [h]; simp)),
  h.2.1.imp λu z hp=>hp.later hb,LJ h.2.2.1 (LK hb q.ownBlock) h.2.2.2,h.2.2.2⟩
theorem GR.here {a:List (List Int)} {c:World} (h:GR c N b a q xs w1):GR w1 N q a q xs w1:=⟨h.1,h.2.1,LK (Ac _ _) _,λ_ h=>Ad h⟩
open Go.RowKit Go.Shelf
def Yu (l:Nat) (r rb rd:Loop) (Post:Bool->World->Prop):Exit->Act->World->Prop
 | .normal,_,w3=>w3.heap[l]? = some (.loop rb)/\Post true (w3.putObj l (.loop r))
 | .ret,_,w3=>w3.heap[l]? = some (.loop rb)/\Post false (w3.putObj l (.loop rd))
 |_,_,_=>False
theorem Yv {l:Nat} {r:Loop} {args:Array Value} {i:Bool->World->Prop} {assign body:Code} {b:Array Tmp} {tmps:Array Value} {d rd:Loop} (m:d={ r with state:=.busy}) (o:rd={ r with state:=.done,pending:=some .ret}) (q:r.assign=assign) (u:r.body=body) (x:r.params=b) (y:r.tmps=tmps) (z:W.heap[l]? = some (.loop r)) (f:r.state=.ready) (j:r.pending=none) (A:args.size=b.size)
  (h:assign.wpIn (Fence.wide.inRound l) n P (Exit.then (λB k=>k.heap[l]? = some (.loop r)/\body.wpIn (Fence.wide.inRound l) n P (Yu l r d rd i) B (k.putObj l (.loop d))) (λ_ _ _=>False)) { tmps:=(b.zip args).foldl (λt (p,v)=>t.setIfInBounds p v) tmps,defers:=[]} W):
  YieldAt Fence.wide n P l args W λe W'=>∃s,e=.returned (.bool s)/\i s W':=by
 subst m; subst o; subst q; subst u; subst x; subst y;refine⟨r.fn,_,r.assign,r.body,run_yield z A,roundIn_of_wpIn trivial (wpIn_mono h ?_)⟩;rintro e a w1 hp;cases e with
 |normal=>
  obtain⟨h1,h2⟩:=hp;refine⟨_,run_beginRound h1 f,wpIn_mono h2 ?_⟩;rintro e3 a3 w3 h3;cases e3 with
  |normal=>
   obtain⟨h3,g⟩:=h3;refine⟨_,_,run_endRound none h3,true,rfl,?_⟩;have C:({ r with state:=.ready,pending:=none}:Loop)=r:=by
    obtain⟨_,_,_,_,_,_,_,_⟩:=r;simp at f j;subst f; subst j;rfl
   have e5:({ ({ r with state:=.busy}:Loop) with state:=if (none:Option Code).isNone then .ready else .done,pending:=none}:Loop)=r:=by rw[<-C]; rfl
   rw[e5];exact g
  |ret=>obtain⟨h3,g⟩:=h3;exact⟨_,_,run_endRound (some .ret) h3,false,rfl,g⟩
  |exit id=>exact h3.elim
  |goto t=>exact h3.elim
  |panic c=>exact h3.elim
  |outgrown=>exact h3.elim
 |ret=>exact hp.elim
 |exit id=>exact hp.elim
 |goto t=>exact hp.elim
 |panic c=>exact hp.elim
 |outgrown=>exact hp.elim
theorem Yw {g:Operand} {c:Array Tmp} {assign body:Code} {Q:Exit->Act->World->Prop} {a:Act} {gf:Nat} {lb:Array Value} (f:a.eval g=.func (.func gf) #[] lb) (i:∀args w,(callFunc gf args).run P w=.ok (.enter gf args) w)
  (h:∀(r:Loop),r.state=.ready->r.pending=none->r.tmps=a.tmps->r.params=c->r.assign=assign->r.body=body -> 
   Calls P gf (#[.func (.yield (w.heap.size+1)) #[] #[]]++lb) ((w.alloc (.deferred (some []))).alloc (.loop r)) λe W=>(∃v,e=.returned v)/\((W.heap[w.heap.size+1]? = some (.loop r)/\Q .normal { a with defers:={ target:=.collected w.heap.size,args:=#[]}::a.defers} (W.putObj (w.heap.size+1) (.loop { r with state:=.exhausted})))∨
    (W.heap[w.heap.size+1]? = some (.loop { r with state:=.done,pending:=some .ret})/\Q .ret { a with defers:={ target:=.collected w.heap.size,args:=#[]}::a.defers} (W.putObj (w.heap.size+1) (.loop { r with state:=.exhausted,pending:=some .ret}))))):
  (Code.rangeFunc g c assign body).wpIn Fence.wide n P Q a w:=by
 refine wpIn_rangeFunc ?_;intro fn aa;obtain⟨r,b⟩:∃r:Loop,r={ state:=.ready,pending:=none,fn,tmps:=a.tmps,params:=c,assign,body,defers:=w.heap.size}:=⟨_,rfl⟩;refine⟨w.heap.size+1,[{ target:=.collected w.heap.size,args:=#[]}],(w.alloc (.deferred (some []))).alloc (.loop r),{ target:=.fn (.func gf) lb,args:=#[.func (.yield (w.heap.size+1)) #[] #[]]},(w.alloc (.deferred (some []))).alloc (.loop r),gf,#[.func (.yield (w.heap.size+1)) #[] #[]]++lb,(w.alloc (.deferred (some []))).alloc (.loop r),?_,?_,?_,?_,?_,?_⟩
 ·rw[b]; exact run_enterLoop_outer _ _ _ _ _
 ·simp only[resolve,f];simp[go_sem]
 ·intro f' ab; trivial
 ·simp[invoke,go_sem,i]
 ·intro h; simp[Fence.wide] at h
 ·refine(FJ.2 (h r (by rw[b]) (by rw[b]) (by rw[b]) (by rw[b]) (by rw[b]) (by rw[b]))).mono ?_;rintro e W ⟨⟨v,rfl⟩,hc⟩;rcases hc with ⟨d,hq⟩|⟨d,hq⟩
  ·have e1:=run_endLoop (P:=P) d (by rw[b]; simp);have e2:r.pending=none:=(by rw[b]);exact⟨none,_,e1.trans (by rw[e2]),hq⟩
  ·have e1:=run_endLoop (P:=P) d (by simp);exact⟨some .ret,_,e1,wpIn_ret hq⟩
abbrev Tk (α:Type):=List α->Bool->(Nat->Prop)->World->Prop
structure IX {α:Type} (J:Tk α) (K:Nat->Prop):Prop where
 inside:∀ {pre s f W},J pre s f W->∀b,f b∨K b->b<W.heap.size
 apart:∀ {pre s f W},J pre s f W->∀b,K b->¬f b
 abide:∀ {pre s f W W'},J pre s f W->W.heap.size<=W'.heap.size->(∀b,f b∨K b->W'.heap[b]? = W.heap[b]?)->J pre s f W'
theorem IX.exq {J:Tk α} {K:Nat->Prop} (h:IX J K) {pre:List α} (a:J pre s f W) (he:Al g W W') (c:∀b,f b∨K b->¬g b):J pre s f W':=
 h.abide a he.size λb hb=>he.block b (h.inside a b hb) (c b hb)
def SL (S:World->Prop):Prop:=∀(W W':World),S W->W.heap.size<=W'.heap.size->(∀b,b<W.heap.size->W'.heap[b]? = W.heap[b]? ∨ (∃r,W.heap[b]? = some (.loop r))∨∃d,W.heap[b]? = some (.deferred d))->S W'
theorem SL.put {S:World->Prop} (h:SL S) (a:S W) {l:Nat} {r:Loop} (c:W.heap[l]? = some (.loop r)) (o:Obj):S (W.putObj l o):=
 h _ _ a (by simp) λb hb=>by
  by_cases e:b=l
  ·subst e; exact Ae (Ad ⟨r,c⟩)
  ·exact Ad (World.putObj_heap_other e)
def Ep {α:Type} (J:Tk α) (all pre:List α) (f g:Nat->Prop) (W:World) (s:Bool) (W':World):Prop:=
 ∃(m:Nat) (f':Nat->Prop),m<=all.length/\(s=true->m=all.length)/\J (pre++all.take m) s f' W'/\Al (λb=>f b∨g b) W W'/\∀b,f' b->f b∨W.heap.size<=b
theorem Ep.nil {J:Tk α} {pre:List α} (h:J pre true f W):Ep J [] pre f g W true W:=
 ⟨0,f,Af _,λ_=>rfl,by simpa using h,Al.refl _ _,λb hb=>Ad hb⟩
theorem Ep.one {J:Tk α} {pre:List α} {x:α} {f':Nat->Prop} (h:J (pre++[x]) s f' W') (he:Al f W W') (a:∀b,f' b->f b∨W.heap.size<=b):Ep J [x] pre f g W s W':=
 ⟨1,f',by simp,λ_=>rfl,by simpa using h,he.mono λb hb _=>Ad hb,a⟩
theorem Ep.trans {J:Tk α} {a a2 pre:List α} {f1 g2:Nat->Prop} {c:World} (hj:J (pre++a) true f1 c) (he:Al (λb=>f b∨g b) W c) (e:∀b,f1 b->f b∨W.heap.size<=b) (h:Ep J a2 (pre++a) f1 g2 c s d) (j:∀b,g2 b->g b∨W.heap.size<=b):Ep J (a++a2) pre f g W s d:=by
 obtain⟨m,f',hm,k,l,n,o⟩:=h;refine⟨a.length+m,f',by simp; omega,λh=>by simp[k h],?_,he.transN n ?_,?_⟩
 ·rw[List.take_append,Bz (by omega)];simpa [Jh] using l
 ·rintro i hi hl;rcases hi with hi|hi
  ·rcases e i hi with h|h
   ·exact Ad h
   ·omega
  ·rcases j i hi with h|h
   ·exact Ae h
   ·omega
 ·intro b hb;have:=he.size;rcases o b hb with h|h
  ·exact e b h
  ·right; omega
theorem Ep.stop {J:Tk α} {a a2 pre:List α} (h:Ep J a pre f g W false W'):Ep J (a++a2) pre f g W false W':=by
 obtain⟨m,f',hm,hs,b,he,c⟩:=h;exact⟨m,f',by simp; omega,by simp,by rw[J7 hm]; exact b,he,c⟩
theorem Ep.mono {J:Tk α} {a pre:List α} {c:Nat->Prop} (h:Ep J a pre f g W s W') (d:∀b,g b->b<W.heap.size->c b):Ep J a pre f c W s W':=by
 obtain⟨m,f',hm,e,i,he,j⟩:=h;exact⟨m,f',hm,e,i,he.mono λb hb k=>hb.imp id (λh=>d b h k),j⟩
theorem Ep.exq {J:Tk α} {a pre:List α} (h:Ep J a pre f g W s W'):Al (λb=>f b∨g b) W W':=by
 obtain⟨_,_,_,_,_,he,_⟩:=h;exact he
theorem Ep.from {J:Tk α} {a pre:List α} {c:Nat->Prop} (h:Ep J a pre f g W s W') (he:Al c d W) (e:∀b,g b->c b∨d.heap.size<=b):Ep J a pre f c d s W':=by
 obtain⟨m,f',hm,j,k,l,n⟩:=h;refine⟨m,f',hm,j,k,(he.mono (R:=λb=>f b∨c b) λb hb _=>Ae hb).transN l ?_,λb hb=>?_⟩
 ·rintro i hi hl;rcases hi with hi|hi
  ·exact Ad hi
  ·rcases e i hi with h|h
   ·exact Ae h
   ·omega
 ·have:=he.size;rcases n b hb with h|h
  ·exact Ad h
  ·right; omega
def Yy:Go.Shelf.Ren:=⟨fun|41=>113|n=>n,fun|22=>22|23=>24|4=>4|n=>n,fun|n=>n⟩
theorem Yz:Go.Proofs.SlLaysE0.n41 prog Yy:={
 mixed:=by kernel_rfl
 f41:=⟨Tryz.f113.name,by decide,func113.trans (Dt some (by kernel_rfl))⟩
 t4:=underlying4
 a4:=isAgg4
 z4:=sizeOf4
 v4:=zeroValue4
 t22:=underlying22
 a22:=isAgg22
 z22:=sizeOf22
 v22:=zeroValue22}
theorem YA (b off n c:Nat) (news:List Value) (w:World) (d:news.length=n*3) (hn:n<=1000000) (hc:∀j u,news[j]? = some u->w.cell? ⟨b,off+j,none⟩=some u) (h1:∀u∈news,u.oneCell'=true):
  Calls prog 113 #[.slice (some (zD b off)) n c] w λe w'=>∃a,e=.returned a/\w'.ownsRow w.heap.size 24 3 a n news/\a≠zB/\Below w.heap.size w w':=by
 obtain⟨i0,hi,f,g,h⟩:=Dw Tryz.infoLam;exact AnyE.slices_Clone Yz i0 _ 3 40 hi f g h rfl (by decide) sizeOf24 b off n c news w d (by unfold maxLen; omega) (by omega) hc h1
theorem YC:∀(l:List Lm) (b o:Nat),Dc w X b o l->∃xs,CZ w X l xs/\∀j u,xs[j]? = some u->w.cell? ⟨b,o+j,none⟩=some u:=by
 intro l;induction l with
 |nil=>intro b o _; exact⟨[],rfl,by simp⟩
 |cons t r e=>
  intro b o h;obtain⟨s,x,k⟩:=t;simp only[Dc] at h;obtain⟨hx,h1,f,⟨a,c,h2,h3,g⟩,h5⟩:=h;obtain⟨xs,i,hc⟩:=e b (o+3) h5;refine⟨zA s::zA x::.slice a k.length c::xs,⟨a,c,xs,rfl,⟨h3,g⟩,i⟩,λj u d=>?_⟩;match j,d with
  |0,d=>simp at d; subst d; exact h1
  |1,d=>simp at d; subst d; exact f
  |2,d=>simp at d; subst d; exact h2
  |j+3,d=>rw[show o+(j+3)=o+3+j by omega]; exact hc j u (by simpa using d)
theorem CZ.one:∀ {l:List Lm} {xs:List Value},CZ w X l xs->∀u∈xs,u.oneCell'=true
 | [],xs,h,u,hu=>by simp[CZ] at h; subst h; cases hu
 |t::l,xs,h,u,hu=>by
  obtain⟨a,c,r,rfl,_,h⟩:=h;rcases Ct.1 hu with e|hu
  ·subst e; rfl
  ·rcases Ct.1 hu with e|hu
   ·subst e; rfl
   ·rcases Ct.1 hu with e|hu
    ·subst e; rfl
    ·exact CZ.one h u hu
theorem CZ.put (hy:Ap w X a y.subs):∀ {l:List Lm} {xs:List Value} (k:Nat),CZ w X l xs->k<l.length->CZ w X (l.set k y) (((xs.set (k*3) (zA y.kind)).set (k*3+1) (zA y.idx)).set (k*3+2) (.slice a y.subs.length c))
 | [],xs,k,h,hk=>by simp at hk
 |t::l,xs,0,h,_=>by
  obtain⟨b,c',r,rfl,h1,h2⟩:=h;exact⟨a,c,r,by simp,hy,h2⟩
 |t::l,xs,k+1,h,hk=>by
  obtain⟨b,c',r,rfl,h1,h2⟩:=h;refine⟨b,c',((r.set (k*3) (zA y.kind)).set (k*3+1) (zA y.idx)).set (k*3+2) (.slice a y.subs.length c),?_,h1,CZ.put hy k h2 (by simpa using hk)⟩;have e:(k+1)*3=k*3+1+1+1:=by omega
  have e2:(k+1)*3+1=k*3+1+1+1+1:=by omega
  have e3:(k+1)*3+2=k*3+2+1+1+1:=by omega
  rw[e3,e2,e];simp
theorem Og {b:Nat} {u c:Value} (h:w.cell? (zD b i)=some v) (a:b≠O):(((w.setCell (zD O 0) u).setCell (zD O 1) u').setCell (zD O 2) c).cell? (zD b i)=some v:=by
 refine Kz ?_ h;rw[Ak _ _ _ _ (by simpa using a),Ak _ _ _ _ (by simpa using a),Ak _ _ _ _ (by simpa using a)]
theorem SM {M z:Nat} (h:w.ownsRow N e z v n xs) (a:M<=N):w.ownsRow M e z v n xs:=
 ⟨h.1,h.2.imp id λ⟨g,cap,cur,h1,h2,h3⟩=>⟨g,cap,cur,h1,AJ a h2,h3⟩⟩
theorem YD {z:Nat} {u:Value} (h:w.ownsRow N e z (.slice (some (zD G 0)) n cap) n xs) (hO:O≠G):(((w.setCell (zD O 0) u).setCell (zD O 1) u').setCell (zD O 2) b).ownsRow N e z (.slice (some (zD G 0)) n cap) n xs:=by
 obtain⟨c,h1⟩:=h;refine⟨c,?_⟩;rcases h1 with h1|⟨g,d,cur,a,f,i,j⟩
 ·exact Ad h1
 ·refine Ae ⟨g,d,cur,a,f,?_,j⟩;have e:g=G:=by simp at a; exact a.1.symm
  rw[Ak _ _ _ _ (by simp; omega),Ak _ _ _ _ (by simp; omega),Ak _ _ _ _ (by simp; omega)];exact i
def Oh (W:World) (N:Nat) (k x:Int) (n:Nat) (xs:List Value) (o8:Value) (wc:World):Prop:=
 ∃G O cap:Nat,o8=zC O/\N<=G/\N<=O/\G≠O/\Ab wc O #[zA k,zA x,.slice (some (zD G 0)) n cap] 24/\wc.ownsRow N 24 3 (.slice (some (zD G 0)) n cap) n xs/\Below N W wc
theorem YE (hN:W.heap.size=N) (a:w1.ownsRow N 24 3 (.slice (some (zD G 0)) n cap) n xs) (hb:Below N W w1):
  Oh W N k x n xs (zC w1.heap.size) (w1.alloc (zp #[zA k,zA x,.slice (some (zD G 0)) n cap] 24)):=by
 have b:=a.lt G rfl;have hs:=hb.size;exact⟨G,w1.heap.size,cap,rfl,b.1,by omega,by omega,Ab.new _ _ _,a.alloc _,hb.alloc (by omega) _⟩
theorem YF (a:N<=O) (c:Ab w1 O zJ 24) (ab:O<G) (b:w1.ownsRow N 24 3 (.slice (some (zD G 0)) n cap) n xs) (hb:Below N W w1):
  Oh W N k x n xs (zC O) (((w1.setCell (zD O 0) (zA k)).setCell (zD O 1) (zA x)).setCell (zD O 2) (.slice (some (zD G 0)) n cap)):=by
 have d:=b.lt G rfl;refine⟨G,O,cap,rfl,d.1,a,by omega,?_,YD b (by omega),((hb.setCell (by simpa using a) _).setCell (by simpa using a) _).setCell (by simpa using a) _⟩;have:=((c.set 0 (zA k)).set 1 (zA x)).set 2 (.slice (some (zD G 0)) n cap);simpa using this
theorem YG {wc:World} {l:List Lm} {k:Nat} {cur:Array Value} {a9:Option Addr} {c9:Nat} (g:∀b,X b->b≠G) (hk:k<l.length) (i:l.length<=9223372036854775807) (m:CZ wc X l xs) (n:cur.toList.take (l.length*3)=xs) (o:Ab wc G cur T) (ht:Ap wc X a9 y.subs):
  Ap (((wc.setCell ⟨G,k*3,none⟩ (zA y.kind)).setCell ⟨G,k*3+1,none⟩ (zA y.idx)).setCell ⟨G,k*3+2,none⟩ (.slice a9 y.subs.length c9)) (λb=>X b∨b=G) (some (zD G 0)) (l.set k y):=by
 have keep:∀b,b≠G->(((wc.setCell ⟨G,k*3,none⟩ (zA y.kind)).setCell ⟨G,k*3+1,none⟩ (zA y.idx)).setCell ⟨G,k*3+2,none⟩ (.slice a9 y.subs.length c9)).heap[b]? = wc.heap[b]? := λb h1=>by
  rw[Ak _ _ _ _ (by simpa using h1),Ak _ _ _ _ (by simpa using h1),Ak _ _ _ _ (by simpa using h1)]
 generalize q:(((wc.setCell ⟨G,k*3,none⟩ (zA y.kind)).setCell ⟨G,k*3+1,none⟩ (zA y.idx)).setCell ⟨G,k*3+2,none⟩ (.slice a9 y.subs.length c9))=f at *;have h1:CZ f (λb=>X b∨b=G) l xs:=m.imp λa kk r=>(r.kept λb d=>keep b (g b d)).mono λb d _=>Ad d;have h2:Ap f (λb=>X b∨b=G) a9 y.subs:=(ht.kept λb d=>keep b (g b d)).mono λb d _=>Ad d;have h3:=CZ.put (c:=c9) h2 k h1 hk;have s:Ab f G (((cur.setIfInBounds (k*3) (zA y.kind)).setIfInBounds (k*3+1) (zA y.idx)).setIfInBounds (k*3+2) (.slice a9 y.subs.length c9)) T:=by
  rw[<-q];exact((o.set (k*3) (zA y.kind)).set (k*3+1) (zA y.idx)).set (k*3+2) (.slice a9 y.subs.length c9)
 refine⟨by simpa using i,Ae ⟨G,0,rfl,RG G (Ae rfl) _ _ 0 h3 (λ_ _ h=>h) λj u e=>?_⟩⟩;rw[Ia];refine(s.cell j).trans ?_;rw[<-n,<-List.take_set,<-List.take_set,<-List.take_set,List.getElem?_take]at e;split at e
 ·rw[<-Array.getElem?_toList];simpa using e
 ·cases e
def YH (y v:Value) (ok:Bool) (W:World) (Post:Ending->World->Prop):Prop:=
 (∃T I Y:Nat,y=.func (.func 112) #[] #[zC T,zC I,zC Y]/\Calls prog 112 #[v,.bool ok,zC T,zC I,zC Y] W Post)∨
 (∃lp:Nat,y=.func (.yield lp) #[] #[]/\∀n,YieldAt Fence.wide n prog lp #[v,.bool ok] W Post)
def SN (y:Value) (P:Nat->Prop) (J:World->Prop) (S:Lm->Bool->World->Prop):Prop:=
 ∀(W:World) (v:Value) (x:Lm) (ok:Bool) (Z:Nat->Prop),J W->MV W Z v x->(∀b,Z b->b<W.heap.size/\P b)->YH y v ok W λe W'=>e=.returned (.bool false)/\S x ok W'
def Hl (y:Value) (P:Nat->Prop) (J:World->Prop) (S:Lm->Bool->World->Prop):Prop:=
 (∃T I Y:Nat,y=.func (.func 112) #[] #[zC T,zC I,zC Y]/\
  ∀(W:World) (v:Value) (x:Lm) (ok:Bool) (Z:Nat->Prop),J W->MV W Z v x->(∀b,Z b->b<W.heap.size/\P b)->Calls prog 112 #[v,.bool ok,zC T,zC I,zC Y] W λe W'=>e=.returned (.bool false)/\S x ok W')∨
 (∃lp:Nat,y=.func (.yield lp) #[] #[]/\
  ∀(W:World) (v:Value) (x:Lm) (ok:Bool) (Z:Nat->Prop),J W->MV W Z v x->(∀b,Z b->b<W.heap.size/\P b)->∀n,YieldAt Fence.wide n prog lp #[v,.bool ok] W λe W'=>e=.returned (.bool false)/\S x ok W')
theorem Hl.at {y:Value} {P:Nat->Prop} {J:World->Prop} {S:Lm->Bool->World->Prop} (h:Hl y P J S):SN y P J S:=by
 intro W v x ok Z h1 h2 h3;rcases h with ⟨T,I,Y,e,h⟩|⟨lp,e,h⟩
 ·exact Ad ⟨T,I,Y,e,h W v x ok Z h1 h2 h3⟩
 ·exact Ae ⟨lp,e,h W v x ok Z h1 h2 h3⟩
def Hm (J:World->Prop):Prop:=∀W W':World,J W->Below W.heap.size W W'->J W'
structure Ip (t:Lm) (a:Option Addr) (c T I Y k:Nat) (y:Value) (X:Nat->Prop) (W:World):Prop where
 bt:Ab W T (zE t a c) 24
 bi:Ab W I #[zA k] 3
 by':Ab W Y #[y] 118
 sl:Ap W X a t.subs
theorem Ip.later {I Y k:Nat} {y:Value} (h:Ip t a c T I Y k y X W) (hb:Below W.heap.size W W'):Ip t a c T I Y k y X W':=
 ⟨h.bt.below hb h.bt.lt,h.bi.below hb h.bi.lt,h.by'.below hb h.by'.lt,h.sl.later hb⟩
