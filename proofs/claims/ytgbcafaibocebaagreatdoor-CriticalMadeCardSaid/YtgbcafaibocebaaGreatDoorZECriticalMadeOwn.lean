import Derived.Deep.RegionHeld3
import Derived.Laws.EntriesVeiled
import Derived.Test.YtgbcafaibocebaaGreatDoorW60
import Derived.Ground.SlgnProg
import Derived.Shelf.SlicesE.Clone
import Derived.Deep.DeepCutAuto
import Derived.Deep.RegionHeld
import Derived.Test.YtgbcafaibocebaaGreatDoorW162a
namespace Go.Proofs.YtgbcafaibocebaaGreatDoor
set_option linter.all false
set_option maxRecDepth 20000
set_option maxHeartbeats 8000000
open Go.RowKit Go.Shelf Go.Proofs.Tryz
attribute [local go_sem] G7
def MY (x:Dn) (args:Array Value) (W:World) (Z:Nat->Prop):Prop:=∃u v,args=#[u,v]/\PV W Z u x.1/\TV W Z v x.2
theorem Xl (f:List Int) (v:Value) (w:World) (X:Nat->Prop) (hv:PV w X v f) (h0:∀z∈f.take 1,0<=z):
  Calls prog 92 #[v] w λe w'=>Below w.heap.size w w'/\∃g,e=.returned (.tuple #[zA (Cl f:Int),g])/\PV w' X g f.tail:=by
 obtain⟨a,c,rfl,j,hc⟩:=hv;cases f with
 |nil=>go_enter func92,ntmps92;go_wp2_with fail;refine An (v:=.tuple #[zA 0,zB]) (by simp[results,results92,go_sem]) rfl ?_;exact⟨Af _ _,_,rfl,none,0,rfl,by simp,Ad rfl⟩
 |cons z d=>
  have hz:=h0 z (by simp);have e:(Cl (z::d):Int)=z:=by unfold Cl; simp; omega
  rcases hc with hc|⟨b,o,rfl,GP,aa⟩
  ·cases hc
  obtain⟨ab,h⟩:=j;simp only[Bu] at ab h;have k:=aa 0 (by simp);simp only[F9,EI] at k;have i:=Aa e;by_cases h1:c=1
  ·have h2:d=[]:=EK.1 (by omega);subst h1; subst h2;clear aa h0 e;go_enter func92,ntmps92;go_wp2_with fail;go_region_held3 (λw'=>w'.cell? (zD b o)=some (zA z)) (go_keep) (fail);go_wp2_with fail;refine An (v:=.tuple #[zA z,.slice (some (zD b o)) 0 0]) (by simp[results,results92,go_sem]) rfl ?_;exact⟨(Af _ _).drew,.slice (some (zD b o)) 0 0,by rw[i.o],some (zD b o),0,rfl,by simp,Ad rfl⟩
  ·have l:Hid (PV w X (.slice (some ⟨b,o+1,none⟩) d.length (c-1)) d):=PV.tail ⟨ab,h⟩ GP aa;simp only[Bu] at *;have b1:¬((d.length:Int)+1<1):=(by omega);have b2:¬((c:Int)<(d.length:Int)+1):=(by omega);clear aa h0 e;go_enter func92,ntmps92;go_wp2_with fail;go_region_held3 (λw'=>w'.cell? (zD b o)=some (zA z)) (go_keep) (fail);go_wp2_with fail;refine An (v:=.tuple #[zA z,.slice (some ⟨b,o+1,none⟩) d.length (c-1)]) (by simp[results,results92,go_sem]) rfl ?_;exact⟨(Af _ _).drew,_,by rw[i.o],l.o.later ((Af _ _).drew)⟩
def Xm {J:Tk Dn} (w0:World) (N:Nat) (u:Value) (hs:List Int) (f:Nat->Prop) (pre:List Dn) (t:Tm) (st:Nat) (rl:List Int) (rv:Value) (l:List Tm) (rest i:Value) (wr:World):Prop:=
 ∃(k:Nat) (f':Nat->Prop),st<=k/\k<=l.length/\i=zA k/\rest=(if k=st then rv else zB)/\J (pre++(hs,t)::Ct hs 0 st rl (l.take k)) true f' wr/\Am (λb=>f b∨u.ownBlock=some b) w0 wr/\(∀b,f' b->f b∨w0.heap.size<=b)/\wr.ownsRow N 3 1 u hs.length (hs.map λz=>zA z)
def Xn (J:Tk Dn) (N:Nat) (S:World->Prop) (t:Tm) (u:Value) (hs fs:List Int) (pre:List Dn) (f:Nat->Prop) (w:World) (e:Ending) (w':World):Prop:=
 ∃b,e=.returned (.bool b)/\Cy J (AQ hs fs t) pre f (λb=>u.ownBlock=some b) w b w'/\(b=true->w'.ownsRow N 3 1 u hs.length (hs.map λz=>zA z))/\MS b (S w')
theorem Xo {J:Tk Dn} {K:Nat->Prop} {all:List Dn} (T:FT J K) (N lp:Nat) (hK:∀b,K b->b<N) {S:World->Prop} (RH:JT lp MY J all S) (t:Tm):∀(v u fv:Value) (hs d:List Int) (pre:List Dn) (f:Nat->Prop) (w:World) (X:Nat->Prop),TV w X v t->PV w X fv d->(AV t d).isSome=true->(∀b,X b->b<N/\¬f b)->N<=w.heap.size->w.ownsRow N 3 1 u hs.length (hs.map λz=>zA z)->(∀k,u.ownBlock=some k->¬f k)->J pre true f w->hs.length+Ab [t]<=900000->(pre++AQ hs d t) <+: all->
  Calls prog 69 #[v,u,fv,.func (.yield lp) #[] #[]] w λe w'=>Xn J N S t u hs d pre f w e w':=by
 induction t using Tm.ind with
 |h s l ih=>
  intro v u fv hs d pre f w X hv bd ab U hN V aF hj b7 bf;have bg:=Aa bf;clear bf;obtain⟨a,c,rfl,aG⟩:=hv;have IH:=Aa ih;clear ih;have W:=aG.1;have hz:Ab [(⟨s,l⟩:Tm)]=1+Ab l:=by simp[Ab]
  rw[hz]at b7;clear hz;have aH:Below w.heap.size w (w.alloc (.cells #[.string s,.slice a l.length c] 33)):=(Af _ _).alloc (Ai _) _;have aI:Am (λ_=>False) w (w.alloc (.cells #[.string s,.slice a l.length c] 33)):=(Am.refl _ _).alloc _;have aJ:=Aa aI;have b8:=Aa (T.exq hj aI (λ_ _ h=>h));have b9:=Aa (T.inside hj);have ad:((w.alloc (.cells #[.string s,.slice a l.length c] 33))).ownsRow N 3 1 u hs.length (hs.map λz=>zA z):=DP V λg m=>AL _ _ _ (V.lt g m).2;have I:=Aa V.lt;have Z:Hid (∀b,X b->some b≠u.ownBlock):=λb hb e=>by have:=(I.o b e.symm).1; have:=U b hb; omega
  have aK:Hid (u.ownBlock≠some w.heap.size):=λe=>by have:=(I.o _ e).2; omega
  have aL:Hid (¬f w.heap.size):=λe=>by have:=b9.o _ (Ad e); omega
  have C:Hid (((w.alloc (.cells #[.string s,.slice a l.length c] 33))).heap.size=w.heap.size+1):=by simp[Hid]
  have aM:=Aa (aG.later aH);have bA:=Aa (bd.later aH);have D:=Aa U;have HK:=Aa hK;clear hK;have bh:=Aa aF;have aN:∀z∈d.take 1,0<=z:=by
   cases d with
   |nil=>simp
   |cons z zs=>intro y hy; simp at hy; subst hy; rw[AV] at ab; split at ab; (next h=>exact h.1); (next=>cases ab)
  have aO:Cl d<=l.length:=by
   cases d with
   |nil=>simp[Cl]
   |cons z zs=>rw[AV] at ab; split at ab; (next h=>have:=h.2; simp[Cl]; simp at this; omega); (next=>cases ab)
  have bB:Hid (∀k (h:k<l.length),Cl d<=k->(AV l[k] (if k=Cl d then d.tail else [])).isSome=true):=λk h hk=>by
   by_cases e:k=Cl d
   ·rw[Ar e];cases d with
    |nil=>rfl
    |cons z zs=>
     simp only[AV] at ab;split at ab;next h2=>
      have e2:z.toNat=k:=by rw[e]; simp[Cl]
      simp only[e2] at ab;exact ab
     next=>simp at ab
   ·rw[Aj e]; rfl
  have aC:=Aa T;have bC:hs.length<=1000000:=by omega
  have bD:=RH 0 pre (hs,⟨s,l⟩) #[u,.agg #[.string s,.slice a l.length c]] (λb=>(X b∨u.ownBlock=some b)/\b<((w.alloc (.cells #[.string s,.slice a l.length c] 33))).heap.size) f (w.alloc (.cells #[.string s,.slice a l.length c] 33)) (List.IsPrefix.trans ⟨Ct hs 0 (Cl d) d.tail l,by simp[AQ]⟩ bg.o) b8.o ⟨u,_,rfl,(Wj ad).mono λb hb W=>⟨Ae hb.2,W⟩,a,c,rfl,aM.o.mono λb hb W=>⟨Ad hb,W⟩⟩ (λb hb=>⟨hb.2,by
   rcases hb.1 with h|h
   ·exact(U b h).2
   ·exact aF b h⟩)
  obtain⟨ca,bj,bE,bk,hy,hR⟩:=bD;have HR:=Aa hR;have cb:=Aa RH;have bF:=Aa ad;clear aG bd U aH aI hR RH V ad aF hj ab T;have cc:Fence.wide.fn 92:=trivial;go_enter func69,ntmps69;refine(wpIn_wide (n:=1)).1 ?_;gi_wp2
  refine HR.o.mono ?_;rintro e L ⟨s1,rfl,f1,aP,M,aj,bl⟩;have bG:=Aa bl;clear bl;clear hy;have K1:L.cell? (zD w.heap.size 1)=some (.slice a l.length c):=by
   have h1:=M.block w.heap.size (by simp) aL.o;rw[Et]at h1;simp[World.cell?,h1]
  cases s1 with
  |false=>
   gi_wp2
   go_ret;refine⟨false,rfl,?_,by simp,λ_=>bG.o rfl⟩;exact Cy.from (Cy.stop (a1:=([(hs,(⟨s,l⟩:Tm))]:List Dn)) (Cy.one aP M aj)) (aJ.o.mono λ_ h _=>h.elim) (λb hb=>Ad hb)
  |true=>
   have bm:=Aa aP;have aQ:=Aa M;have aR:=Aa aj;have bn:PV L X fv d:=((bA.o.mono (Y:=λb=>X b/\b<(w.alloc (.cells #[.string s,.slice a l.length c] 33)).heap.size) λb h1 h2=>⟨h1,h2⟩).kept (w':=L) λb hb=>aQ.o.block b hb.2 (D.o b hb.1).2).mono λb hb _=>hb.1;have bo:Hid (L.ownsRow N 3 1 u hs.length (hs.map λz=>zA z)):=DP bF.o λg m=>aQ.o.block g (by have:=(I.o g m).2; have:=C.o; omega) (bh.o g m);have bH:w.heap.size<L.heap.size:=by have:=M.size; have:=C.o; omega
   clear aP M aj;gi_wp2_with (gi_at_call 92; refine(DW.2 (Xl d fv _ X bn aN)).mono ?_; rintro e q ⟨hb2,rv,rfl,bp⟩; have K2:=(hb2.cell (p:=(zD w.heap.size 1)) bH).trans K1)
   have bI:=Aa bp;have F:=Aa hb2;clear bn bp hb2;refine wpIn_wide.2 ?_;go_loopw [10,11] (λq' i wr=>Xm (J:=J) (w.alloc (.cells #[.string s,.slice a l.length c] 33)) N u hs f pre ⟨s,l⟩ (Cl d) d.tail rv l q' i wr/\PV wr X (if (intOf i).toNat=Cl d then rv else zB) (if (intOf i).toNat=Cl d then d.tail else [])) (λq' i wr=>l.length-(intOf i).toNat);case atStart=>
    refine⟨⟨Cl d,f1,Ai _,aO,rfl,by rw[Ar rfl],?_,(aQ.o.mono λb hb _=>Ad hb).trans (Am.ofBelow F.o),aR.o,DP bo.o λg m=>F.o.block g (bo.o.lt g m).2⟩,by simpa [intOf] using bI.o⟩;rw[P2 hs (Cl d) d.tail (l.take (Cl d)) 0 (by simp; omega)];exact aC.o.abide bm.o F.o.size λb hb=>F.o.block b (aC.o.inside bm.o b hb)
   case round=>
    obtain⟨⟨k,f2,bq,hk,rfl,rfl,G,r,aw,H⟩,ak⟩:=hrel;have ek:(intOf (zA k)).toNat=k:=(by simp[intOf]);rw[ek]at ak;clear ek;have O:=Aa G;have aD:=Aa r;have aa:=Aa aw;have aS:=Aa H;have aT:=Aa ak;have cd:w.heap.size+1<=wr.heap.size:=by have:=r.size; have:=C.o; omega
    have bJ:Hid (∀b,X b->¬(f b∨u.ownBlock=some b)):=λb hb h=>by
     rcases h with h|h
     ·exact(D.o b hb).2 h
     ·exact Z.o b hb h.symm
    have br:Hid (∀b,X b->b<N/\¬f2 b):=λb hb=>⟨(D.o b hb).1,λh=>by
     rcases aa.o b h with h|h
     ·exact(D.o b hb).2 h
     ·have:=(D.o b hb).1; have:=C.o; omega⟩
    have ay:Hid (∀b,f2 b∨K b->b<wr.heap.size):=aC.o.inside G;have al:Hid (∀g,u.ownBlock=some g->¬f2 g):=λg m h=>by
     rcases aa.o g h with h|h
     ·exact bh.o g m h
     ·have:=(I.o g m).2; have:=C.o; omega
    have F:Hid (¬f2 w.heap.size):=λh=>by
     rcases aa.o _ h with h|h
     ·exact aL.o h
     ·have:=C.o; omega
    have K2:wr.cell? (zD w.heap.size 1)=some (.slice a l.length c):=by
     have h1:=r.block w.heap.size (by simp) (λh=>by
      rcases h with h|h
      ·exact aL.o h
      ·exact aK.o h)
     rw[Et]at h1;simp[World.cell?,h1]
    clear G r aw H ak;have az:AQ hs d ⟨s,l⟩=(hs,⟨s,l⟩)::Ct hs 0 (Cl d) d.tail l:=rfl;have an:=Aa az;clear az;by_cases B:k<l.length
    ·have aU:=Xa l k B;obtain⟨b,o,a',c',rfl,d0,d1,hx⟩:=(aM.o.exq aD.o bJ.o).get (Af wr.heap.size wr) (λ_ _ h=>h) k B;have aE:X b:=by
      obtain⟨_,h1⟩:=aM.o;rcases h1 with h1|⟨b',o',e',h1⟩
      ·rw[h1]at B; simp at B
      ·cases e'; exact(Ge _ _ _ h1 k B).1
     have bK:=Aa hx;have HT:=Aa (WZ hs (Cl d) d.tail l k B bq);have bL:Hid ((hs++[(k:Int)]).length+Ab [l[k]]<=900000):=Aa (by simp;omega);have aV:=Aa (bB.o k B bq);have a6:Hid (Ct hs 0 (Cl d) d.tail l=Ct hs 0 (Cl d) d.tail (l.take k)++(AQ (hs++[(k:Int)]) (if k=Cl d then d.tail else []) l[k]++Ct hs (0+(l.take (k+1)).length) (Cl d) d.tail (l.drop (k+1)))):=Aa (by rw[<-Gz,<-HT.o,<-PZ,EJ]);have aW:Hid (((pre++(hs,⟨s,l⟩)::Ct hs 0 (Cl d) d.tail (l.take k))++AQ (hs++[(k:Int)]) (if k=Cl d then d.tail else []) l[k]) <+: all):=List.IsPrefix.trans ⟨Ct hs (0+(l.take (k+1)).length) (Cl d) d.tail (l.drop (k+1)),by rw[an.o,a6.o]; simp⟩ bg.o;generalize bM:(if k=Cl d then rv else zB)=qv at *;clear bM;generalize (if k=Cl d then d.tail else [])=ql at *;clear hx aU;have E:=Aa (And.intro K2 (And.intro d0 d1));go_wp2_with fail;have aX:Below wr.heap.size wr (wr.alloc (.cells #[zA k] 3)).drew:=((Af _ _).alloc (Ai _) _).drew;have bN:=Aa aX;have bs:Hid (((wr.alloc (.cells #[zA k] 3)).drew).ownsRow N 3 1 u hs.length (hs.map λz=>zA z)):=DP aS.o λg m=>aX.block g (aS.o.lt g m).2;have bO:Hid (N<=((wr.alloc (.cells #[zA k] 3)).drew).heap.size):=Aa (by simp;omega);have bP:Hid (((wr.alloc (.cells #[zA k] 3)).drew).heap[wr.heap.size]? = some (.cells #[zA k] 3 (0,0))):=Et wr (.cells #[zA k] 3);have bQ:Hid (∀u2 q,((wr.alloc (.cells #[zA k] 3)).drew).grownBy q u.ownBlock->Hk (wr.alloc (.cells #[zA k] 3)).drew q u u2 hs.length->(q.cell? (zD w.heap.size 1)=some (.slice (some (zD b o)) l.length c)/\q.cell? ⟨b,o+k*2,none⟩=some (.string l[k].name)/\q.cell? ⟨b,o+k*2+1,none⟩=some (.slice a' l[k].args.length c'))/\(∀b,f2 b∨K b->q.heap[b]? = wr.heap[b]?)/\(∀b,X b->q.heap[b]? = wr.heap[b]?)/\wr.heap.size<q.heap.size/\(∀g,u2.ownBlock=some g->¬f2 g)/\(∀g,u2.ownBlock=some g->u.ownBlock=some g∨wr.heap.size<=g)/\Am (λb=>u.ownBlock=some b) wr q/\
       ∀x,Am (λb=>f2 b∨u2.ownBlock=some b) q x->x.cell? (zD w.heap.size 1)=some (.slice (some (zD b o)) l.length c)/\x.cell? ⟨b,o+k*2,none⟩=some (.string l[k].name)/\x.cell? ⟨b,o+k*2+1,none⟩=some (.slice a' l[k].args.length c')):=λu2 q A r=>by
      have cf:=D.o b aE;have bR:=A.size;simp at bR;have kp:∀j,j<wr.heap.size->u.ownBlock≠some j->q.heap[j]? = wr.heap[j]? := λj hj P=>(A.block j (by simp; omega) (λe=>P e.symm)).trans (bN.o.block j hj);have hE:∀g,u2.ownBlock=some g->u.ownBlock=some g∨wr.heap.size<=g:=λg m=>by
       rcases r with ⟨g2,cap,e3,e4⟩|⟨hn,_⟩
       ·left; rw[e4] at m; rw[e3]; exact m
       ·right; have:=hn g m; simp at this; omega
      have e0:=kp w.heap.size (by omega) aK.o;have R:=kp b (by omega) (λe=>Z.o b aE e.symm);refine⟨⟨(CV e0).trans E.o.1,(CV R).trans E.o.2.1,(CV R).trans E.o.2.2⟩,λj hj=>kp j (ay.o j hj) (λe=>by
       rcases hj with hj|hj
       ·exact al.o j e hj
       ·have:=HK.o j hj; have:=(I.o j e).1; omega),λj hj=>kp j (by have:=D.o j hj; omega) (λe=>Z.o j hj e.symm),by omega,λg m h=>?_,hE,⟨A.os,A.tape,A.output,by omega,λj hj P=>kp j hj P⟩,λx hf=>?_⟩
      ·rcases hE g m with e|e
       ·exact al.o g e h
       ·have:=ay.o g (Ad h); omega
      ·have f0 : x.heap[w.heap.size]? = wr.heap[w.heap.size]? := (hf.block _ (by omega) (λh => by
        rcases h with h|h
        ·exact F.o h
        ·rcases hE _ h with h|h
         ·exact aK.o h
         ·omega)).trans e0
       have f1 : x.heap[b]? = wr.heap[b]? := (hf.block _ (by omega) (λh => by
        rcases h with h|h
        ·exact(br.o b aE).2 h
        ·rcases hE _ h with h|h
         ·exact Z.o b aE h.symm
         ·omega)).trans R
       exact⟨(CV f0).trans E.o.1,(CV f1).trans E.o.2.1,(CV f1).trans E.o.2.2⟩
     clear aX;go_region_held3 (λw'=>w'.cell? (zD w.heap.size 1)=some (.slice (some (zD b o)) l.length c)/\w'.cell? ⟨b,o+k*2,none⟩=some (.string l[k].name)/\w'.cell? ⟨b,o+k*2+1,none⟩=some (.slice a' l[k].args.length c')) (first|exact E.o|exact bt|exact bu|go_keep)
      (first
       | (refine W9 (N:=N) (hs:=hs) (u:=u) rfl _ _ rfl rfl rfl (k:Int) _ rfl bs.o bO.o bP.o bC ?_; intro u2 q H A r; obtain⟨bu,kf,kX,cg,bw,a7,bx,bz⟩:=bQ.o u2 q A r; have bS:=Aa H; have bT:=Aa A; have aY:=Aa r; have b0:=Aa bx; have b1:=Aa a7; have b2:=bK.o.kept kX; have b3:=aT.o.kept kX; have G:=aC.o.abide O.o (by omega) kf)
       | (go_at_call 69; refine(IH.o _ (AN B) _ _ _ _ _ _ f2 _ X b2 b3 aV.o br.o (by omega) H bw G bL.o aW.o).mono ?_; rintro e x ⟨s5,rfl,aZ,b4,a8⟩; have ba:=Aa a8; clear a8; have bb:=Aa aZ; have bt:=bz x aZ.exq; have bU:=Aa b4; clear aZ b4))
     clear bt b2 b3 bu H A r kf kX bw a7 bx G bz;cases s5 with
     |false=>go_wp2_with fail;go_ret;refine⟨false,rfl,?_,by simp,λ_=>ba.o rfl⟩;rw[an.o,a6.o,<-Cj];refine Cy.from (Cy.trans O.o aD.o aa.o (Cy.stop (Cy.from (g':=λb=>u.ownBlock=some b) bb.o b0.o b1.o)) (λb hb=>Ad hb)) (aJ.o.mono λ_ h _=>h.elim) (λb hb=>Ad hb)
     |true=>
      have bV:=Cy.end_true (Cy.trans O.o aD.o aa.o (Cy.from (g':=λb=>u.ownBlock=some b) bb.o b0.o b1.o) (λb hb=>Ad hb));obtain⟨f5,b5,b6,aA⟩:=bV;have bW:=Aa b5;have bX:=Aa b6;have bc:=Aa aA;clear b5 b6 aA;have bY:Hid (x.ownsRow N 3 1 u hs.length (hs.map λz=>zA z)):=W7 bs.o bT.o aY.o (bU.o rfl) bb.o.exq (λg m P h=>by
       rcases h with h|h
       ·exact al.o g m h
       ·exact P h)
      go_wp2_with fail;go_roundw
      case rel=>
       refine⟨⟨k+1,f5,by omega,by omega,by go_num,by rw[Aj (by omega)],?_,bX.o,bc.o,bY.o⟩,?_⟩
       ·rw[HT.o];simpa using bW.o
       ·have R:(intOf (zA ((k:Int)+1))).toNat=k+1:=(by simp[intOf]);have e2:¬(k+1=Cl d):=(by omega);simp only[R,e2,if_false];exact⟨none,0,rfl,by simp,Ad rfl⟩
      case measure=>simp[intOf]; omega
    ·have bZ:l.take k=l:=AX (by omega);have HF:Hid (Cy J (AQ hs d ⟨s,l⟩) pre f (λb=>u.ownBlock=some b) w true wr):=by
      rw[bZ]at O;exact ⟨_, f2, Ai _, λ_ => rfl, by rw [an.o, E5]; exact O.o, (aJ.o.mono λ_ h _ => h.elim).trans aD.o, λb hb => by
       rcases aa.o b hb with h|h
       ·exact Ad h
       ·right; have:=C.o; omega⟩
     generalize (if k=Cl d then rv else zB)=qv at *;go_wp2_with fail;gi_wp2
     go_ret;exact⟨true,rfl,HF.o,(λ_=>aS.o),λh=>by cases h⟩
open Go.RowKit
def Fb:List Tm->List Tm->Bool
 | [],_=>true
 | ⟨s,a⟩::r,ts=>match ts with
  | []=>false
  |t::ts'=>(Al s||((s.toList==t.name.toList)&&(a.length==t.args.length)&&Fb a t.args))&&Fb r ts'
def DB (p t:Tm):Bool:=Al p.name||((p.name.toList==t.name.toList)&&(p.args.length==t.args.length)&&Fb p.args t.args)
theorem MZ (p t:Tm) (r b:List Tm):Fb (p::r) (t::b)=(DB p t&&Fb r b):=by obtain⟨s,a⟩:=p; simp only[Fb,DB]
theorem JW {s s2:ByteArray} {l m:List Tm} (hv:Al s=false):DB ⟨s,l⟩ ⟨s2,m⟩=((s.toList==s2.toList)&&(l.length==m.length)&&Fb l m):=by simp[DB,hv]
theorem Qo {s:ByteArray} {l:List Tm} {t:Tm} (hv:Al s=true):DB ⟨s,l⟩ t=true:=by simp[DB,hv]
theorem Lc:∀(l m:List Tm),l.length=m.length->(Fb l m=true↔∀k (h:k<l.length) (h2:k<m.length),DB l[k] m[k]=true)
 | [],m,_=>by simp[Fb]
 |_::_,[],e=>by simp at e
 |p::r,t::a,e=>by
  have b:=Lc r a (by simpa using e);rw[MZ,G5,b];refine⟨λh k h1 h2=>?_,λh=>⟨h 0 (by simp) (by simp),λk h1 h2=>h (k+1) (by simpa using h1) (by simpa using h2)⟩⟩;cases k with
  |zero=>exact h.1
  |succ k=>exact h.2 k (by simpa using h1) (by simpa using h2)
theorem Xp {l m:List Tm} {k:Nat} (aa:l.length=m.length) (h:k<l.length) (h2:k<m.length) (h0:DB l[k] m[k]=false):Fb l m=false:=by
 cases hs:Fb l m with
 |false=>rfl
 |true=>rw[(Lc l m aa).1 hs k h h2] at h0; cases h0
theorem Xq:∀(l m:List Tm) (h:List Bd),l.length=m.length->Fb l m=false->BM l m h=none:=by
 intro l;induction l using Tm.indL with
 |h0=>intro m h _ hs; simp[Fb] at hs
 |h s a r ab c=>
  intro m h aa hs;cases m with
  |nil=>simp at aa
  |cons t d=>
   rw[MZ]at hs;rw[Hf];cases h1:DB ⟨s,a⟩ t with
   |true=>
    rw[h1,Bool.true_and]at hs;cases A7 ⟨s,a⟩ t h with
    |none=>rfl
    |some h'=>exact c d h' (by simpa using aa) hs
   |false=>
    obtain⟨s2,m2⟩:=t;have hv:Al s=false:=by
     cases hv:Al s with
     |false=>rfl
     |true=>rw[Qo hv] at h1; cases h1
    rw[JW hv]at h1;have e:A7 ⟨s,a⟩ ⟨s2,m2⟩ h=none:=by
     cases hn:((s.toList==s2.toList)&&(a.length==m2.length)) with
     |false=>exact MF hv hn
     |true=>rw[hn,Bool.true_and]at h1;rw[G5]at hn;have b:a.length=m2.length:=(by simpa using hn.2);rw[ME hv hn.1 b];exact ab m2 h b h1
    rw[e]
theorem Xr {p t:Tm} (h:List Bd) (hs:DB p t=false):A7 p t h=none:=by
 have:=Xq [p] [t] h rfl (by rw[MZ,hs]; rfl);rw[Hf]at this;cases hm:A7 p t h with
 |none=>rfl
 |some h'=>rw[hm] at this; simp[BM] at this
theorem Qp (t:Tm):∀(x:Tm) (v u:Value) (w:World) (X Y:Nat->Prop),TV w X v t->TV w Y u x->
  Calls prog 51 #[v,u] w λe w'=>e=.returned (.bool (BK t x))/\Below w.heap.size w w':=by
 induction t using Tm.ind with
 |h s l G=>
  intro x v u w X Y hv hu;obtain⟨s2,m⟩:=x;have P:=Aa G;clear G;obtain⟨a,c,rfl,hs⟩:=hv;obtain⟨a2,c2,rfl,H⟩:=hu;have hl:=hs.1;have ar:=H.1;(try dsimp only[zF]);(try dsimp only[zG]);(try dsimp only[zE]);(try dsimp only);cases hn:(s.toList==s2.toList) with
  |false=>have d:Hid (false=BK ⟨s,l⟩ ⟨s2,m⟩):=Aa (by unfold BK;rw[hn];rfl);go_enter func51,ntmps51;go_wp2_with fail;go_ret;exact⟨BJ d.o,CX _ _⟩
  |true=>
   by_cases hm:l.length=m.length
   ·have d:Hid (Dz l m=BK ⟨s,l⟩ ⟨s2,m⟩):=Aa (by unfold BK;simp[hn,hm]);have j:=Aa hm;rw[<-hm];clear hm;go_enter func51,ntmps51;go_wp2_with fail;go_loopw [23] (λi wr=>Pi w l m a a2 c c2 i wr) (λi wr=>l.length-(intOf i).toNat);case atStart=>exact⟨0,AG _,rfl,by simp[Dz],CX _ _,by simp,by simp,by simp⟩
    case round=>
     obtain⟨k,hk,rfl,hq,hb,R,T,au⟩:=hrel;have I:=Aa hq;clear hq;by_cases q:k<l.length
     ·obtain⟨b,o,B,c',rfl,d0,d1,hx⟩:=hs.get hb (λ_ _ h=>h) k q;obtain⟨f,g,C,D,rfl,U,V,J⟩:=H.get hb (λ_ _ h=>h) k (by have:=j.o; omega);have W:k<m.length:=by have:=j.o; omega
      have L:=Aa hx;have M:=Aa J;have N:=Aa hb;have r:=Aa (And.intro R (And.intro T (And.intro d0 (And.intro d1 (And.intro U V)))));have A:=Aa (λ(w':World)=>P.o l[k] (AN q) m[k] (.agg (zF l[k] B c')) (.agg (zF m[k] C D)) w' X Y);have O:=Aa (MC q W);have Z:=Aa (Ph q j.o);clear hx J hb;generalize l[k]=y at *;generalize m[k]=z at *;go_wp2_with fail;cases E:BK y z with
      |true=>
       rw[E]at A O;go_region_held3 (λw'=>w'.cell? (zD w.heap.size 1)=some (.slice (some (zD b o)) l.length c)/\w'.cell? (zD (w.heap.size+1) 1)=some (.slice (some (zD f g)) l.length c2)/\w'.cell? ⟨b,o+k*2,none⟩=some (.string y.name)/\w'.cell? ⟨b,o+k*2+1,none⟩=some (.slice B y.args.length c')/\w'.cell? ⟨f,g+k*2,none⟩=some (.string z.name)/\w'.cell? ⟨f,g+k*2+1,none⟩=some (.slice C z.args.length D)) (first|exact r.o|exact ab|go_keep)
        ((go_at_call 51; refine(A.o _ (by exact L.o.later (below_drewN (Af _ _) 1)) (by exact M.o.later (below_drewN (Af _ _) 1))).mono ?_; rintro e w1 ⟨rfl,aa⟩; have ab:=KQ (n:=1) aa r.o))
       go_wp2_with fail;go_roundw
       case rel=>exact⟨k+1,by omega,by go_num,by rw[O.o,I.o]; rfl,(N.o.trans (below_drewN (Af _ _) 1)).trans (aa.mono (by simp; omega)),ab.1,ab.2.1,by have:=aa.size; simp at this; omega⟩
       case measure=>simp[intOf]; omega
      |false=>
       have F:Hid (false=BK ⟨s,l⟩ ⟨s2,m⟩):=Aa (by rw[<-d.o,Z.o E]);rw[E]at A;go_region_held3 (λw'=>w'.cell? (zD w.heap.size 1)=some (.slice (some (zD b o)) l.length c)/\w'.cell? (zD (w.heap.size+1) 1)=some (.slice (some (zD f g)) l.length c2)/\w'.cell? ⟨b,o+k*2,none⟩=some (.string y.name)/\w'.cell? ⟨b,o+k*2+1,none⟩=some (.slice B y.args.length c')/\w'.cell? ⟨f,g+k*2,none⟩=some (.string z.name)/\w'.cell? ⟨f,g+k*2+1,none⟩=some (.slice C z.args.length D)) (first|exact r.o|exact ab|go_keep)
        ((go_at_call 51; refine(A.o _ (by exact L.o.later (below_drewN (Af _ _) 1)) (by exact M.o.later (below_drewN (Af _ _) 1))).mono ?_; rintro e w1 ⟨rfl,aa⟩; have ab:=KQ (n:=1) aa r.o))
       go_wp2_with fail;go_ret;exact⟨BJ F.o,(N.o.trans (below_drewN (Af _ _) 1)).trans (aa.mono (by simp; omega))⟩
     ·have F:Hid (true=BK ⟨s,l⟩ ⟨s2,m⟩):=Aa (by rw[<-d.o,<-I.o,AX (by omega),AX (by have:=j.o; omega)]);go_wp2_with fail;go_ret;exact⟨BJ F.o,hb⟩
   ·have d:Hid (false=BK ⟨s,l⟩ ⟨s2,m⟩):=Aa (by unfold BK;simp[hn,hm]);have av:((l.length:Int)==(m.length:Int))=false:=DU.2 (by omega);clear hm;go_enter func51,ntmps51;go_wp2_with fail;go_ret;exact⟨BJ d.o,CX _ _⟩
def Fu (w:World) (q:Nat) (Y:Nat->Prop) (Z:List Bc):Prop:=Bm w q (Z.map GI)/\∀x∈Z,Sl w Y x.2.1 x.1.t.args
def Xs (w:World) (q:Nat) (Y:Nat->Prop) (r:Option (List Bd)) (e:Ending) (w':World):Prop:=
 w.grownBy w' (some q)/\((r=none/\e=.returned (.bool false))∨∃(h':List Bd) (Z':List Bc),r=some h'/\e=.returned (.bool true)/\Z'.map (·.1)=h'/\Fu w' q Y Z')
theorem Fu.kept {w w':World} {q:Nat} {Y:Nat->Prop} {Z:List Bc} (h:Fu w q Y Z) (a:∀b,Y b->b<w.heap.size) (hk:∀b,b<w.heap.size->w'.heap[b]? = w.heap[b]?):Fu w' q Y Z:=
 ⟨h.1.kept (hk q h.1.lt),λx hx=>(h.2 x hx).kept λb hb=>hk b (a b hb)⟩
theorem Fu.below {w w':World} {q:Nat} {Y:Nat->Prop} {Z:List Bc} (h:Fu w q Y Z) (a:∀b,Y b->b<w.heap.size) (hb:Below w.heap.size w w'):Fu w' q Y Z:=h.kept a λb aa=>hb.block b aa
theorem Qq {Z:List Bc} {n:ByteArray}:(As (Z.map (·.1)) n=none->Be (Z.map GI) n=none)/\(∀t,As (Z.map (·.1)) n=some t->∃x∈Z,x.1.t=t/\Be (Z.map GI) n=some (.agg #[.string t.name,.slice x.2.1 t.args.length x.2.2])):=by
 induction Z with
 |nil=>exact⟨λ_=>rfl,λt h=>by simp[As] at h⟩
 |cons y r a=>
  simp only[Cb];by_cases hn:y.1.nm=n
  ·refine⟨λh=>by simp[As,hn] at h,λt h=>?_⟩;rw[As,Ar hn]at h;cases h;exact⟨y,by simp,rfl,by simp[Be,GI,hn]⟩
  ·refine⟨λh=>?_,λt h=>?_⟩
   ·rw[As,Aj hn]at h;rw[Be,Aj (by simpa [GI] using hn)];exact a.1 h
   ·rw[As,Aj hn]at h;obtain⟨x,hx,h1,h2⟩:=a.2 t h;exact⟨x,by simp[hx],h1,by rw[Be,Aj (by simpa [GI] using hn)]; exact h2⟩
def Xt (w2:World) (q:Nat) (Y:Nat->Prop) (l m:List Tm) (h:List Bd) (i:Value) (wr:World):Prop:=
 ∃(k:Nat) (Z':List Bc),k<=l.length/\i=zA k/\BM (l.take k) (m.take k) h=some (Z'.map (·.1))/\Fu wr q Y Z'/\w2.grownBy wr (some q)
theorem M0 {w w' aa:World} {row:Option Nat} (h:w.grownBy w' row) (hb:Below w'.heap.size w' aa):w.grownBy aa row:=
 h.andThen (row':=none) ⟨hb.os,hb.tape,hb.output,hb.size,λj hj _=>hb.block j hj⟩ (by simp)
theorem Xu (S F q:Nat) (Y:Nat->Prop) (p:Tm):∀(t:Tm) (Z:List Bc) (pv tv:Value) (w:World),TV w Y pv p->TV w Y tv t->Ac w S #[.map (some q)] 110->Ac w F #[.func (.func 148) #[] #[zC S,zC F]] 60->Fu w q Y Z->(∀b,Y b->b<w.heap.size/\b≠q)->DB p t=true->
  Calls prog 148 #[pv,tv,zC S,zC F] w λe w'=>Xs w q Y (A7 p t (Z.map (·.1))) e w':=by
 induction p using Tm.ind with
 |h s l ih=>
  intro t Z pv tv w hp ht B hF J hY L;obtain⟨s2,m⟩:=t;obtain⟨a,c,rfl,hs⟩:=hp;obtain⟨a2,c2,rfl,aw⟩:=ht;have IH:=Aa ih;have HS:=Aa hs;have ax:=Aa aw;have ay:=Aa B;have aZ:=Aa hF;have HM:=Aa J;have f:=Aa hY;have hl:=hs.1;have ba:=aw.1;have b5:=J.1.lt;have bb:S≠q:=λe=>by
   obtain⟨es,bc,h1,_⟩:=J.1;subst e;unfold Ac at B;rw[h1]at B; cases B
  have aC:F≠q:=λe=>by
   obtain⟨es,bc,h1,_⟩:=J.1;subst e;unfold Ac at hF;rw[h1]at hF; cases hF
  have az:=B.lt;have bd:=hF.lt;clear ih hs aw B hF J hY;(try dsimp only[zF]);(try dsimp only[zG]);(try dsimp only[zE]);(try dsimp only);have n:Hid (Below w.heap.size w ((w.alloc (.cells #[.string s,.slice a l.length c] 33)).alloc (.cells #[.string s2,.slice a2 m.length c2] 33))):=CX _ _;have W:=Aa ((Ac.new w #[.string s,.slice a l.length c] 33).alloc (.cells #[.string s2,.slice a2 m.length c2] 33));have u:Hid (Ac ((w.alloc (.cells #[.string s,.slice a l.length c] 33)).alloc (.cells #[.string s2,.slice a2 m.length c2] 33)) (w.heap.size+1) #[.string s2,.slice a2 m.length c2] 33):=Aa (by have h:=Ac.new (w.alloc (.cells #[.string s,.slice a l.length c] 33)) #[.string s2,.slice a2 m.length c2] 33;simpa using h);have bf:((w.alloc (.cells #[.string s,.slice a l.length c] 33)).alloc (.cells #[.string s2,.slice a2 m.length c2] 33)).heap.size=w.heap.size+2:=by simp
  have M:Hid (w.grownBy ((w.alloc (.cells #[.string s,.slice a l.length c] 33)).alloc (.cells #[.string s2,.slice a2 m.length c2] 33)) (some q)):=(L3 w _ _).andThen (L3 _ _ none) (by simp);have hz:∀w',(zeroValue 33).run prog w'=.ok (.agg #[.string ⟨#[]⟩,zB]) w':=λw'=>zeroValue33 w';cases hvb:Al s with
  |true=>
   have v:=Aa hvb;clear hvb;have N:=Aa (HM.o.below (λb hb=>(f.o b hb).1) n.o);have a6:=Aa (ax.o.later n.o);have s0:((w.alloc (.cells #[.string s,.slice a l.length c] 33)).alloc (.cells #[.string s2,.slice a2 m.length c2] 33)).cell? (zD S 0)=some (.map (some q)):=(ay.o.below n.o az).cell 0;have a0:=W.o.cell 0;have b0:=u.o.cell 0;have b1:=u.o.cell 1;cases C:As (Z.map (·.1)) s with
   |some x=>
    obtain⟨y,hy,rfl,d⟩:=Qq.2 x C;have D:=Aa (Po (l:=l) (t:=⟨s2,m⟩) v.o C);have bg:=Aa (N.o.2 y hy);have aD:(Instr.lookup 110 (.map (some q)) (.string s) true).run prog ((w.alloc (.cells #[.string s,.slice a l.length c] 33)).alloc (.cells #[.string s2,.slice a2 m.length c2] 33))=.ok (.tuple #[.agg #[.string y.1.t.name,.slice y.2.1 y.1.t.args.length y.2.2],.bool true]) ((w.alloc (.cells #[.string s,.slice a l.length c] 33)).alloc (.cells #[.string s2,.slice a2 m.length c2] 33)):=by
     rw[E9 (P:=prog) underlying110 underlying9 (hz _) N.o.1 s,d]; rfl
    clear C d hy;have aE:∀o,(((w.alloc (.cells #[.string s,.slice a l.length c] 33)).alloc (.cells #[.string s2,.slice a2 m.length c2] 33)).alloc o).cell? (zD (w.heap.size+1) 0)=some (.string s2):=λo=>(u.o.alloc o).cell 0;have aF:∀o,(((w.alloc (.cells #[.string s,.slice a l.length c] 33)).alloc (.cells #[.string s2,.slice a2 m.length c2] 33)).alloc o).cell? (zD (w.heap.size+1) 1)=some (.slice a2 m.length c2):=λo=>(u.o.alloc o).cell 1;have SK:Hid (Calls prog 51 #[.agg #[.string y.1.t.name,.slice y.2.1 y.1.t.args.length y.2.2],.agg #[.string s2,.slice a2 m.length c2]] (((w.alloc (.cells #[.string s,.slice a l.length c] 33)).alloc (.cells #[.string s2,.slice a2 m.length c2] 33)).alloc (.cells #[.string y.1.t.name,.slice y.2.1 y.1.t.args.length y.2.2] 33)) λe w'=>e=.returned (.bool (BK y.1.t ⟨s2,m⟩))/\Below ((w.alloc (.cells #[.string s,.slice a l.length c] 33)).alloc (.cells #[.string s2,.slice a2 m.length c2] 33)).heap.size ((w.alloc (.cells #[.string s,.slice a l.length c] 33)).alloc (.cells #[.string s2,.slice a2 m.length c2] 33)) w'):=by
     refine(Qp y.1.t ⟨s2,m⟩ _ _ _ Y Y ⟨_,_,rfl,bg.o.later ((Af _ _).alloc (Ai _) _)⟩ ⟨_,_,rfl,a6.o.later ((Af _ _).alloc (Ai _) _)⟩).mono ?_;rintro e w5 ⟨rfl,O⟩;exact⟨rfl,((Af _ _).alloc (Ai _) _).trans (O.mono (by simp))⟩
    go_enter func148,ntmps148;go_wp2_with (go_at_call 59; refine(CG _ _).mono ?_; rintro e w' ⟨rfl,rfl⟩; rw[v.o]);refine SK.o.mono ?_;rintro e w5 ⟨rfl,O⟩;have bh:=Aa (M0 M.o O);have bj:=Aa (N.o.below (λb hb=>by have:=(f.o b hb).1; omega) O);clear O aE aF aD;go_wp2_with fail;go_ret;refine⟨bh.o,?_⟩;rw[D.o];cases b6:BK y.1.t ⟨s2,m⟩ with
    |true=>exact Ae ⟨_,Z,by rw[Ar rfl],rfl,rfl,bj.o⟩
    |false=>exact Ad ⟨by rw[Aj (by simp)],rfl⟩
   |none=>
    have d:=Qq.1 C;have D:=Aa (Pn (l:=l) (t:=⟨s2,m⟩) v.o C);have aD:(Instr.lookup 110 (.map (some q)) (.string s) true).run prog ((w.alloc (.cells #[.string s,.slice a l.length c] 33)).alloc (.cells #[.string s2,.slice a2 m.length c2] 33))=.ok (.tuple #[.agg #[.string ⟨#[]⟩,zB],.bool false]) ((w.alloc (.cells #[.string s,.slice a l.length c] 33)).alloc (.cells #[.string s2,.slice a2 m.length c2] 33)):=(by rw[E9 (P:=prog) underlying110 underlying9 (hz _) N.o.1 s,d]; rfl);have au:Below ((w.alloc (.cells #[.string s,.slice a l.length c] 33)).alloc (.cells #[.string s2,.slice a2 m.length c2] 33)).heap.size ((w.alloc (.cells #[.string s,.slice a l.length c] 33)).alloc (.cells #[.string s2,.slice a2 m.length c2] 33)) (((w.alloc (.cells #[.string s,.slice a l.length c] 33)).alloc (.cells #[.string s2,.slice a2 m.length c2] 33)).alloc (.cells #[.string ⟨#[]⟩,zB] 33)):=(Af _ _).alloc (Ai _) _;have aG:=Aa (N.o.below (λb hb=>by have:=(f.o b hb).1; omega) au);have R:=Aa (M0 M.o au);have aH:=Aa (n.o.trans (au.mono n.o.size));have b7:(((w.alloc (.cells #[.string s,.slice a l.length c] 33)).alloc (.cells #[.string s2,.slice a2 m.length c2] 33)).alloc (.cells #[.string ⟨#[]⟩,zB] 33)).cell? (zD S 0)=some (.map (some q)):=(ay.o.below aH.o az).cell 0;have b8:(((w.alloc (.cells #[.string s,.slice a l.length c] 33)).alloc (.cells #[.string s2,.slice a2 m.length c2] 33)).alloc (.cells #[.string ⟨#[]⟩,zB] 33)).cell? (zD w.heap.size 0)=some (.string s):=(W.o.alloc _).cell 0;have aE:(((w.alloc (.cells #[.string s,.slice a l.length c] 33)).alloc (.cells #[.string s2,.slice a2 m.length c2] 33)).alloc (.cells #[.string ⟨#[]⟩,zB] 33)).cell? (zD (w.heap.size+1) 0)=some (.string s2):=(u.o.alloc _).cell 0;have aF:(((w.alloc (.cells #[.string s,.slice a l.length c] 33)).alloc (.cells #[.string s2,.slice a2 m.length c2] 33)).alloc (.cells #[.string ⟨#[]⟩,zB] 33)).cell? (zD (w.heap.size+1) 1)=some (.slice a2 m.length c2):=(u.o.alloc _).cell 1;obtain⟨w8,bk,aI,aJ,aK,aL,aM,av⟩:=JN (P:=prog) underlying110 underlying9 aG.o.1 s (.agg #[.string s2,.slice a2 m.length c2]) d;have bl : Hid (Fu w8 q Y (Z ++ [(⟨s, ⟨s2, m⟩⟩, a2, c2)])) := ⟨by rw [Cr]; exact aI, λx hx => by
     rcases Bg.1 hx with hx|hx
     ·exact(aG.o.2 x hx).kept λb hb=>av b (f.o b hb).2
     ·have e:x=(⟨s,⟨s2,m⟩⟩,a2,c2):=(by simpa using hx);subst e;exact(ax.o.later aH.o).kept λb hb=>av b (f.o b hb).2⟩
    have bm:Hid (w.grownBy w8 (some q)):=⟨aK.trans R.o.os,aL.trans R.o.tape,aM.trans R.o.output,by rw[aJ]; exact R.o.size,λj hj hne=>(av j (λe=>hne (by rw[e]))).trans (R.o.block j hj hne)⟩;clear C d au aI aJ aK aL aM av;go_enter func148,ntmps148;go_wp2_with (go_at_call 59; refine(CG _ _).mono ?_; rintro e w' ⟨rfl,rfl⟩; rw[v.o]);go_ret;refine⟨bm.o,?_⟩;rw[D.o];exact Ae ⟨_,_,rfl,rfl,by simp,bl.o⟩
  |false=>
   have v:=Aa hvb;clear hvb;rw[JW v.o,G5,G5]at L;obtain⟨⟨hn,hm⟩,L⟩:=L;have hm:l.length=m.length:=(by simpa using hm);have bn:=Aa ((Lc l m hm).1 L);clear L;have D:=Aa (ME (h:=Z.map (·.1)) v.o hn hm);have a7:=Aa hm;rw[<-hm]at M n W u bf ba ⊢;clear hm;go_enter func148,ntmps148;go_wp2_with (go_at_call 59; refine(CG _ _).mono ?_; rintro e w' ⟨rfl,rfl⟩; rw[v.o]);generalize (w.alloc (.cells #[.string s,.slice a l.length c] 33)).alloc (.cells #[.string s2,.slice a2 l.length c2] 33)=w2 at *;go_loopw [36] (λi wr=>Xt w2 q Y l m (Z.map (·.1)) i wr) (λi wr=>l.length-(intOf i).toNat);case atStart=>exact⟨0,Z,AG _,rfl,by simp[BM],HM.o.below (λb hb=>(f.o b hb).1) n.o,⟨rfl,rfl,rfl,Ai _,λ_ _ _=>rfl⟩⟩
   case round=>
    obtain⟨k,T,hk,rfl,hT,aN,d⟩:=hrel;have HT:=Aa hT;have aO:=Aa aN;have aP:=Aa d;have b9:w.heap.size+2<=wr.heap.size:=by have:=d.size; omega
    have bo:Hid (Ac wr w.heap.size #[.string s,.slice a l.length c] 33):=(d.block w.heap.size (by omega) (by simp; omega)).trans W.o;have bp:Hid (Ac wr (w.heap.size+1) #[.string s2,.slice a2 l.length c2] 33):=(d.block (w.heap.size+1) (by omega) (by simp; omega)).trans u.o;have aQ:Hid (Ac wr F #[.func (.func 148) #[] #[zC S,zC F]] 60):=(d.block F (by omega) (by simpa using aC)).trans (aZ.o.below n.o bd);have bq:Hid (Ac wr S #[.map (some q)] 110):=(d.block S (by omega) (by simpa using bb)).trans (ay.o.below n.o az);have aR:Hid (Sl wr Y a l):=(HS.o.later n.o).kept λb hb=>by
     have h1:=f.o b hb;exact d.block b (by omega) (by simpa using h1.2)
    have aq:Hid (Sl wr Y a2 m):=(ax.o.later n.o).kept λb hb=>by
     have h1:=f.o b hb;exact d.block b (by omega) (by simpa using h1.2)
    have f0:=aQ.o.c0;have a1:=bo.o.c1;clear hT aN d;by_cases aa:k<l.length
    ·have br:(k:Int)<(l.length:Int):=(by omega);have E:k<m.length:=by have:=a7.o; omega
     obtain⟨b,o,G,c',rfl,d0,d1,hx⟩:=aR.o.get (Af _ _) (λ_ _ h=>h) k aa;obtain⟨g,r,H,I,rfl,e0,e1,aS⟩:=aq.o.get (Af _ _) (λ_ _ h=>h) k E;have HX:=Aa hx;have bs:=Aa aS;have b1:wr.cell? (zD (w.heap.size+1) 1)=some (.slice (some (zD g r)) l.length c2):=bp.o.cell 1;have a8:=Aa (And.intro f0 (And.intro a1 (And.intro b1 (And.intro d0 (And.intro d1 (And.intro e0 e1))))));have aA:b<w.heap.size/\b≠q:=by
      obtain⟨_,h1⟩:=aR.o;rcases h1 with h1|⟨b',o',e',h1⟩
      ·rw[h1]at aa; simp at aa
      ·cases e'; exact f.o _ (Ge _ _ _ h1 k aa).1
     have ag:g<w.heap.size/\g≠q:=by
      obtain⟨_,h1⟩:=aq.o;rcases h1 with h1|⟨b',o',e',h1⟩
      ·rw[h1]at E; simp at E
      ·cases e'; exact f.o _ (Ge _ _ _ h1 k E).1
     have aT:=Aa (IH.o l[k] (AN aa) m[k] T (.agg (zF l[k] G c')) (.agg (zF m[k] H I)) wr.drew (by exact HX.o.later (below_drewN (Af _ _) 1)) (by exact bs.o.later (below_drewN (Af _ _) 1)) (by exact bq.o) (by exact aQ.o) (by exact aO.o.below (λb hb=>by have:=(f.o b hb).1; omega) (below_drewN (Af _ _) 1)) (λb hb=>by have:=f.o b hb; exact⟨by simp; omega,this.2⟩) (bn.o k aa E));have aU:Hid (∀w1,wr.drew.grownBy w1 (some q)->w1.cell? (zD F 0)=some (.func (.func 148) #[] #[zC S,zC F])/\w1.cell? (zD w.heap.size 1)=some (.slice (some (zD b o)) l.length c)/\w1.cell? (zD (w.heap.size+1) 1)=some (.slice (some (zD g r)) l.length c2)/\w1.cell? ⟨b,o+k*2,none⟩=some (.string l[k].name)/\w1.cell? ⟨b,o+k*2+1,none⟩=some (.slice G l[k].args.length c')/\w1.cell? ⟨g,r+k*2,none⟩=some (.string m[k].name)/\w1.cell? ⟨g,r+k*2+1,none⟩=some (.slice H m[k].args.length I)):=λw1 ab=>by
      have kp:∀b o,b<wr.heap.size->b≠q->w1.cell? (zD b o)=wr.cell? (zD b o):=λb o hb hne=>ab.cell_far (zD b o) (by simpa using hb) (by simpa using hne);have h:=a8.o;exact⟨(kp _ _ (by omega) aC).trans h.1,(kp _ _ (by omega) (by omega)).trans h.2.1,(kp _ _ (by omega) (by omega)).trans h.2.2.1,(kp _ _ (by omega) aA.2).trans h.2.2.2.1,(kp _ _ (by omega) aA.2).trans h.2.2.2.2.1,(kp _ _ (by omega) ag.2).trans h.2.2.2.2.2.1,(kp _ _ (by omega) ag.2).trans h.2.2.2.2.2.2⟩
     have bt:=Aa (λh0=>Pl aa a7.o HT.o h0);have bu:=Aa (λaV (h0:A7 l[k] m[k] (T.map (·.1))=some aV)=>Pm aa E HT.o h0);have aW:Hid (∀w1,wr.drew.grownBy w1 (some q)->w2.grownBy w1 (some q)):=λw1 ab=>(M0 aP.o (below_drewN (Af _ _) 1)).andThen ab (λj hj=>Ae hj);clear hx aS aA ag;generalize l[k]=y at *;generalize m[k]=z at *;go_wp2_with fail;cases U:A7 y z (T.map (·.1)) with
     |none=>
      have bw:Hid (Calls prog 148 #[.agg (zF y G c'),.agg (zF z H I),zC S,zC F] wr.drew λe w'=>e=.returned (.bool false)/\wr.drew.grownBy w' (some q)):=by
       refine aT.o.mono ?_;rintro e w1 ⟨ab,⟨_,rfl⟩|⟨h',A,h0,_⟩⟩
       ·exact⟨rfl,ab⟩
       ·rw[U]at h0; cases h0
      have HF:Hid (A7 ⟨s,l⟩ ⟨s2,m⟩ (Z.map (·.1))=none):=Aa (by rw[D.o,bt.o U]);go_region_held3 (λw'=>w'.cell? (zD F 0)=some (.func (.func 148) #[] #[zC S,zC F])/\w'.cell? (zD w.heap.size 1)=some (.slice (some (zD b o)) l.length c)/\w'.cell? (zD (w.heap.size+1) 1)=some (.slice (some (zD g r)) l.length c2)/\w'.cell? ⟨b,o+k*2,none⟩=some (.string y.name)/\w'.cell? ⟨b,o+k*2+1,none⟩=some (.slice G y.args.length c')/\w'.cell? ⟨g,r+k*2,none⟩=some (.string z.name)/\w'.cell? ⟨g,r+k*2+1,none⟩=some (.slice H z.args.length I)) (first|exact a8.o|exact V|go_keep)
       ((go_at_call 148; refine bw.o.mono ?_; rintro e w1 ⟨rfl,ab⟩; have V:=aU.o w1 ab))
      have aB:=Aa (aW.o w1 ab);clear ab V;go_wp2_with fail;go_ret;exact⟨M.o.andThen aB.o (λj hj=>Ae hj),Ad ⟨HF.o,rfl⟩⟩
     |some h'=>
      have bx:Hid (Calls prog 148 #[.agg (zF y G c'),.agg (zF z H I),zC S,zC F] wr.drew λe w'=>e=.returned (.bool true)/\wr.drew.grownBy w' (some q)/\∃A:List Bc,A.map (·.1)=h'/\Fu w' q Y A):=by
       refine aT.o.mono ?_;rintro e w1 ⟨ab,⟨h0,_⟩|⟨aV,A,h0,rfl,h2,h3⟩⟩
       ·rw[U]at h0; cases h0
       ·rw[U]at h0;cases h0;exact⟨rfl,ab,A,h2,h3⟩
      have HN:=Aa (bu.o h' U);go_region_held3 (λw'=>w'.cell? (zD F 0)=some (.func (.func 148) #[] #[zC S,zC F])/\w'.cell? (zD w.heap.size 1)=some (.slice (some (zD b o)) l.length c)/\w'.cell? (zD (w.heap.size+1) 1)=some (.slice (some (zD g r)) l.length c2)/\w'.cell? ⟨b,o+k*2,none⟩=some (.string y.name)/\w'.cell? ⟨b,o+k*2+1,none⟩=some (.slice G y.args.length c')/\w'.cell? ⟨g,r+k*2,none⟩=some (.string z.name)/\w'.cell? ⟨g,r+k*2+1,none⟩=some (.slice H z.args.length I)) (first|exact a8.o|exact V|go_keep)
       ((go_at_call 148; refine bx.o.mono ?_; rintro e w1 ⟨rfl,ab,A,aX,aY⟩; have V:=aU.o w1 ab))
      have aB:=Aa (aW.o w1 ab);have bz:=Aa aX;have b3:=Aa aY;clear ab V aX aY;go_wp2_with fail;go_roundw
      case rel=>exact⟨k+1,A,by omega,by go_num,by rw[bz.o]; exact HN.o,b3.o,aB.o⟩
      case measure=>simp[intOf]; omega
    ·have HF:Hid (A7 ⟨s,l⟩ ⟨s2,m⟩ (Z.map (·.1))=some (T.map (·.1))):=Aa (by rw[D.o,<-HT.o,AX (by omega),AX (by have:=a7.o; omega)]);have b4:=Aa (M.o.andThen aP.o (λj hj=>Ae hj));go_wp2_with fail;go_ret;exact⟨b4.o,Ae ⟨_,T,HF.o,rfl,rfl,aO.o⟩⟩
def ER (w:World) (X:Nat->Prop) (b o:Nat) (t:Tm):Prop:=∃a c,w.cell? (zD b o)=some (.string t.name)/\w.cell? ⟨b,o+1,none⟩=some (.slice a t.args.length c)/\Sl w X a t.args/\b<w.heap.size
theorem ER.later {w w':World} {X:Nat->Prop} {b o:Nat} {t:Tm} (h:ER w X b o t) (hb:Below w.heap.size w w'):ER w' X b o t:=by
 obtain⟨a,c,h1,h2,h3,d⟩:=h;exact⟨a,c,(hb.cell (p:=(zD b o)) d).trans h1,(hb.cell (p:=⟨b,o+1,none⟩) d).trans h2,h3.later hb,Cn d hb.size⟩
theorem ER.lt {w:World} {X:Nat->Prop} {b o:Nat} {t:Tm} (h:ER w X b o t):b<w.heap.size:=by
 obtain⟨a,c,h1,h2,h3,d⟩:=h;exact d
theorem ER.sub {w:World} {X:Nat->Prop} {b o:Nat} {t:Tm} (h:ER w X b o t):∃a c,w.cell? ⟨b,o+1,none⟩=some (.slice a t.args.length c)/\∀k (hk:k<t.args.length),∃b' o',a=some (zD b' o')/\ER w X b' (o'+k*2) t.args[k]:=by
 obtain⟨a,c,h1,h2,h3,h4⟩:=h;refine⟨a,c,h2,λk hk=>?_⟩;obtain⟨b',o',d,c',rfl,d0,d1,hx⟩:=h3.get (Af _ _) (λ_ _ h=>h) k hk;obtain⟨a2,c2,e,hx⟩:=hx;cases e;exact⟨b',o',rfl,d,c',d0,d1,hx,Ej d0⟩
def Xv (w:World) (l m:List Tm) (i:Value) (wr:World):Prop:=
 ∃k:Nat,k<=l.length/\i=zA k/\(∀j (h:j<l.length) (h2:j<m.length),j<k->DB l[j] m[j]=true)/\Below w.heap.size w wr
theorem Xw (X:Nat->Prop) (p:Tm):∀(t:Tm) (b o d f:Nat) (w:World),ER w X b o p->ER w X d f t->
  Calls prog 147 #[.pointer (some (zD b o)),.pointer (some (zD d f))] w λe w'=>e=.returned (.bool (DB p t))/\Below w.heap.size w w':=by
 induction p using Tm.ind with
 |h s l P=>
  intro t b o d f w hp ht;obtain⟨s2,m⟩:=t;have IH:=Aa P;have HP:=Aa hp;have HT:=Aa ht;obtain⟨a,c,A,B,hs,aA⟩:=hp;obtain⟨a2,c2,t0,t1,G,ay⟩:=ht;dsimp only at A B hs t0 t1 G ⊢;have hl:=hs.1;have az:=G.1;clear P hs G;cases r:Al s with
  |true=>have u:=Aa (Qo (l:=l) (t:=⟨s2,m⟩) r);go_enter func147,ntmps147;go_wp2_with (go_at_call 59; refine(CG _ _).mono ?_; rintro e w ⟨rfl,rfl⟩; rw[r]);refine An (v:=.bool true) (by simp[results,results147,go_sem]) rfl ?_;exact⟨by rw[u.o],Af _ _⟩
  |false=>
   have aB:=Aa r;cases hn:(s.toList==s2.toList) with
   |false=>have u:Hid (DB ⟨s,l⟩ ⟨s2,m⟩=false):=Aa (by rw[JW r,hn];rfl);go_enter func147,ntmps147;have z:=Aa (And.intro A (And.intro B (And.intro t0 t1)));go_wp2_with (go_at_call 59; refine(CG _ _).mono ?_; rintro e w ⟨rfl,rfl⟩; rw[r]);refine CR (S:=λw'=>w'.cell? (zD b o)=some (.string s)/\w'.cell? ⟨b,o+1,none⟩=some (.slice a l.length c)/\w'.cell? (zD d f)=some (.string s2)/\w'.cell? ⟨d,f+1,none⟩=some (.slice a2 m.length c2)) (by kernel_rfl) z.o λhH=>?_;refine tkz 0 ?_ (hy:=by intro w' aa;obtain⟨k1,g,n,q⟩:=aa;go_simp<;>with_reducible rfl);refine tkz 1 ?_ (hy:=by intro w' aa;obtain⟨k1,g,n,q⟩:=aa;go_simp<;>with_reducible rfl);refine tkz 2 ?_ (hy:=by intro w' aa;obtain⟨k1,g,n,q⟩:=aa;go_simp<;>with_reducible rfl);refine tkz 3 ?_ (hy:=by intro w' aa;obtain⟨k1,g,n,q⟩:=aa;go_simp<;>with_reducible rfl);refine tkz 4 ?_ (hy:=by intro w' aa;obtain⟨k1,g,n,q⟩:=aa;go_simp<;>with_reducible rfl);refine tkz 5 ?_ (hy:=by intro w' aa;obtain⟨k1,g,n,q⟩:=aa;go_simp<;>with_reducible rfl);refine tkz 6 ?_ (hy:=by intro w' aa;obtain⟨k1,g,n,q⟩:=aa;go_simp<;>with_reducible rfl);refine tkz 7 ?_ (hy:=by intro w' aa;obtain⟨k1,g,n,q⟩:=aa;go_simp<;>with_reducible rfl);refine tkz 8 ?_ (hy:=by intro w' aa;obtain⟨k1,g,n,q⟩:=aa;go_simp<;>with_reducible rfl);refine tkz 9 ?_ (hy:=by intro w' aa;obtain⟨k1,g,n,q⟩:=aa;go_simp<;>with_reducible rfl);refine tkv 10 ?_;refine tkv 11 ?_;refine tkv 12 ?_;refine tkv 13 ?_;refine tkv 14 ?_;refine tkv 15 ?_;refine tkv 16 ?_;refine tkv 17 ?_;refine tkv 18 ?_;refine tkv 19 ?_;refine tkv 20 ?_;refine tkz 21 ?_ (hy:=by intro w' aa;obtain⟨k1,g,n,q⟩:=aa;go_simp<;>with_reducible rfl);refine dnq ?_;go_wp2_with fail;refine An (v:=.bool false) (by simp[results,results147,go_sem]) rfl ?_;exact⟨by rw[u.o],(Af _ _).drew⟩
   |true=>
    by_cases hm:l.length=m.length;case neg=>
     have u:Hid (DB ⟨s,l⟩ ⟨s2,m⟩=false):=Aa (by rw[JW r,hn];simp[hm]);have a1:((l.length:Int)==(m.length:Int))=false:=DU.2 (by omega);have aC:((l.length:Int) !=(m.length:Int))=true:=(by simp[bne,a1]);clear hm;go_enter func147,ntmps147;have z:=Aa (And.intro A (And.intro B (And.intro t0 t1)));go_wp2_with (go_at_call 59; refine(CG _ _).mono ?_; rintro e w ⟨rfl,rfl⟩; rw[r]);go_region_held3 (λw'=>w'.cell? (zD b o)=some (.string s)/\w'.cell? ⟨b,o+1,none⟩=some (.slice a l.length c)/\w'.cell? (zD d f)=some (.string s2)/\w'.cell? ⟨d,f+1,none⟩=some (.slice a2 m.length c2)) (first|exact z.o|go_keep) (fail);go_wp2_with fail;refine An (v:=.bool false) (by simp[results,results147,go_sem]) rfl ?_;exact⟨by rw[u.o],(Af _ _).drew⟩
    case pos=>
     have u:Hid (DB ⟨s,l⟩ ⟨s2,m⟩=Fb l m):=Aa (by rw[JW r,hn];simp[hm]);have C:=Aa hm;rw[<-hm]at t1 az;clear hm;go_enter func147,ntmps147;have z:=Aa (And.intro A (And.intro B (And.intro t0 t1)));go_wp2_with (go_at_call 59; refine(CG _ _).mono ?_; rintro e w ⟨rfl,rfl⟩; rw[r]);go_region_held3 (λw'=>w'.cell? (zD b o)=some (.string s)/\w'.cell? ⟨b,o+1,none⟩=some (.slice a l.length c)/\w'.cell? (zD d f)=some (.string s2)/\w'.cell? ⟨d,f+1,none⟩=some (.slice a2 l.length c2)) (first|exact z.o|go_keep) (fail);go_wp2_with fail;go_loopw [38] (λi wr=>Xv w l m i wr) (λi wr=>l.length-(intOf i).toNat);case atStart=>exact⟨0,AG _,rfl,λj _ _ h=>absurd h (by omega),(Af _ _).drew⟩
     case round=>
      obtain⟨k,hk,rfl,R,D⟩:=hrel;have T:=Aa R;have H:=Aa D;have U:=Aa (HP.o.later D);have V:=Aa (HT.o.later D);clear R D;by_cases I:k<l.length
      ·have W:k<m.length:=by have:=C.o; omega
       obtain⟨a',c',Y,Z⟩:=U.o.sub;obtain⟨b',o',rfl,hx⟩:=Z k I;obtain⟨aD,au,J,ab⟩:=V.o.sub;obtain⟨E,F,rfl,L⟩:=ab k W;dsimp only at Y J hx L;rw[<-C.o]at J;have aE:(k:Int)<(l.length:Int):=(by omega);have M:=Aa (And.intro Y J);have HI:Hid (Calls prog 147 #[.pointer (some ⟨b',o'+k*2,none⟩),.pointer (some ⟨E,F+k*2,none⟩)] wr.drew λe w'=>e=.returned (.bool (DB l[k] m[k]))/\Below wr.drew.heap.size wr.drew w'):=IH.o l[k] (AN I) m[k] b' (o'+k*2) E (F+k*2) wr.drew (hx.later ((Af _ _).drew)) (L.later ((Af _ _).drew));have a6:=Aa (λh0=>Xp C.o I W h0);have a7:Hid (DB l[k] m[k]=true->∀j (h:j<l.length) (h2:j<m.length),j<k+1->DB l[j] m[j]=true):=λh0 j h h2 hj=>by
        by_cases e:j=k
        ·subst e; exact h0
        ·exact T.o j h h2 (by omega)
       have av:∀x,Below wr.drew.heap.size wr.drew x->x.cell? ⟨b,o+1,none⟩=some (.slice (some (zD b' o')) l.length c')/\x.cell? ⟨d,f+1,none⟩=some (.slice (some (zD E F)) l.length au):=λx h5=>⟨(h5.cell (p:=⟨b,o+1,none⟩) (U.o.lt)).trans M.o.1,(h5.cell (p:=⟨d,f+1,none⟩) (V.o.lt)).trans M.o.2⟩;have a8:=Aa av;clear Z ab hx L av;generalize DB l[k] m[k]=y at *;go_wp2_with fail;go_region_held3 (λw'=>w'.cell? ⟨b,o+1,none⟩=some (.slice (some (zD b' o')) l.length c')/\w'.cell? ⟨d,f+1,none⟩=some (.slice (some (zD E F)) l.length au)) (first|exact M.o|exact aw|go_keep)
        ((go_at_call 147; refine HI.o.mono ?_; rintro e x ⟨rfl,N⟩; have aw:=a8.o x N))
       have ax:=Aa (H.o.trans (((Af _ _).drew.trans N).mono H.o.size));clear N aw;cases y with
       |false=>have O:=Aa (u.o.trans (a6.o rfl));go_wp2_with fail;refine An (v:=.bool false) (by simp[results,results147,go_sem]) rfl ?_;exact⟨by rw[O.o],ax.o⟩
       |true=>
        go_wp2_with fail;go_roundw
        case rel=>exact⟨k+1,by omega,by go_num,a7.o rfl,ax.o⟩
        case measure=>simp[intOf]; omega
      ·have O:Hid (DB ⟨s,l⟩ ⟨s2,m⟩=true):=Aa (by rw[u.o,Lc l m C.o];exact λj h h2=>T.o j h h2 (by omega));go_wp2_with fail;refine An (v:=.bool true) (by simp[results,results147,go_sem]) rfl ?_;exact⟨by rw[O.o],H.o⟩
def Xx (w:World) (Y:Nat->Prop) (p t:Tm) (e:Ending) (w':World):Prop:=
 Below w.heap.size w w'/\((A7 p t []=none/\e=.returned (.tuple #[.map none,.bool false]))∨
  ∃(h':List Bd) (q:Nat) (Z':List Bc),A7 p t []=some h'/\e=.returned (.tuple #[.map (some q),.bool true])/\Z'.map (·.1)=h'/\Fu w' q Y Z'/\w.heap.size<=q)
theorem Xy (w:World) (m v:Value) (a b:Nat):Below w.heap.size w (((w.alloc (.map #[] 0)).alloc (.cells #[m] a)).alloc (.cells #[v] b))/\
  Bm (((w.alloc (.map #[] 0)).alloc (.cells #[m] a)).alloc (.cells #[v] b)) w.heap.size []/\Ac (((w.alloc (.map #[] 0)).alloc (.cells #[m] a)).alloc (.cells #[v] b)) (w.heap.size+1) #[m] a/\Ac (((w.alloc (.map #[] 0)).alloc (.cells #[m] a)).alloc (.cells #[v] b)) (w.heap.size+1+1) #[v] b:=by
 refine⟨((((Af _ _).alloc (Ai _) _).alloc (by simp) _).alloc (by simp; omega) _),?_,?_,?_⟩
 ·have h:=Bm.new w;have h1:=(h.below ((Af _ _).alloc (Ai _) (.cells #[m] a)) h.lt);have h2:=(h1.below ((Af _ _).alloc (Ai _) (.cells #[v] b)) h1.lt);simpa using h2
 ·have h:=(Ac.new (w.alloc (.map #[] 0)) #[m] a).alloc (.cells #[v] b);simpa using h
 ·have h:=Ac.new ((w.alloc (.map #[] 0)).alloc (.cells #[m] a)) #[v] b;simpa using h
theorem ER.of_blk {w:World} {X:Nat->Prop} {b:Nat} {t:Tm} {a:Option Addr} {c T:Nat} (h:Ac w b (zF t a c) T) (hs:Sl w X a t.args):ER w X b 0 t:=⟨a,c,h.cell 0,h.cell 1,hs,h.lt⟩
theorem Xz (p t:Tm) (q r:Value) (w:World) (X:Nat->Prop) (hp:TV w X q p) (ht:TV w X r t):
  Calls prog 134 #[q,r] w λe w'=>Xx w (λb=>X b/\b<w.heap.size) p t e w':=by
 obtain⟨a,c,rfl,hs⟩:=hp;obtain⟨a2,c2,rfl,s⟩:=ht;have u:=Aa (hs.mono (Y:=λb=>X b/\b<w.heap.size) λb h1 h2=>⟨h1,h2⟩);have x:=Aa (s.mono (Y:=λb=>X b/\b<w.heap.size) λb h1 h2=>⟨h1,h2⟩);clear hs s;have a1:=@run_makeMap prog;have a6:=@hmq prog;have BH:Below w.heap.size w ((w.alloc (.cells (zF p a c) 33)).alloc (.cells (zF t a2 c2) 33)):=CX _ _;have ab:Ac ((w.alloc (.cells (zF p a c) 33)).alloc (.cells (zF t a2 c2) 33)) w.heap.size (zF p a c) 33:=(Ac.new w _ _).alloc _;have f:Ac ((w.alloc (.cells (zF p a c) 33)).alloc (.cells (zF t a2 c2) 33)) (w.heap.size+1) (zF t a2 c2) 33:=by
  have h:=Ac.new (w.alloc (.cells (zF p a c) 33)) (zF t a2 c2) 33;simpa using h
 go_enter func134,ntmps134;go_wp2_with fail;generalize (w.alloc (.cells (zF p a c) 33)).alloc (.cells (zF t a2 c2) 33)=w2 at *;refine(Xw (λb=>X b/\b<w.heap.size) p t _ _ _ _ w2 (ER.of_blk ab (u.o.later BH)) (ER.of_blk f (x.o.later BH))).mono ?_;rintro e w3 ⟨rfl,g⟩;have i:=Aa (BH.trans (g.mono BH.size));have l:=Aa (ab.below g ab.lt);have m:=Aa (f.below g f.lt);have y:=l.o.lt;have z:=m.o.lt;clear g ab f BH;cases k:DB p t with
 |false=>have d:=Aa (Xr (p:=p) (t:=t) [] k);clear k;go_wp2_with fail;refine An (v:=.tuple #[.map none,.bool false]) (by simp[results,results134,go_sem]) rfl ?_;exact⟨i.o,Ad ⟨d.o,rfl⟩⟩
 |true=>
  have F:=Aa k;clear k;have K3:=Aa (Xy w3 (.map (some w3.heap.size)) (.func (.func 148) #[] #[zC (w3.heap.size+1),.pointer (some (zD (w3.heap.size+1+1) 0))]) 110 60);have p0:(((w3.alloc (.map #[] 0)).alloc (.cells #[.map (some w3.heap.size)] 110)).alloc (.cells #[.func (.func 148) #[] #[zC (w3.heap.size+1),.pointer (some (zD (w3.heap.size+1+1) 0))]] 60)).cell? (zD w.heap.size 0)=some (.string p.name):=(l.o.below K3.o.1 y).cell 0;have p1:(((w3.alloc (.map #[] 0)).alloc (.cells #[.map (some w3.heap.size)] 110)).alloc (.cells #[.func (.func 148) #[] #[zC (w3.heap.size+1),.pointer (some (zD (w3.heap.size+1+1) 0))]] 60)).cell? (zD w.heap.size 1)=some (.slice a p.args.length c):=(l.o.below K3.o.1 y).cell 1;have t0:(((w3.alloc (.map #[] 0)).alloc (.cells #[.map (some w3.heap.size)] 110)).alloc (.cells #[.func (.func 148) #[] #[zC (w3.heap.size+1),.pointer (some (zD (w3.heap.size+1+1) 0))]] 60)).cell? (zD (w.heap.size+1) 0)=some (.string t.name):=(m.o.below K3.o.1 z).cell 0;have t1:(((w3.alloc (.map #[] 0)).alloc (.cells #[.map (some w3.heap.size)] 110)).alloc (.cells #[.func (.func 148) #[] #[zC (w3.heap.size+1),.pointer (some (zD (w3.heap.size+1+1) 0))]] 60)).cell? (zD (w.heap.size+1) 1)=some (.slice a2 t.args.length c2):=(m.o.below K3.o.1 z).cell 1;go_wp2_with fail;generalize (((w3.alloc (.map #[] 0)).alloc (.cells #[.map (some w3.heap.size)] 110)).alloc (.cells #[.func (.func 148) #[] #[zC (w3.heap.size+1),.pointer (some (zD (w3.heap.size+1+1) 0))]] 60))=G at *;have aa:=Aa (i.o.trans (K3.o.1.mono i.o.size));have A:=Aa K3.o.2.2.1;have a7:=aa.o.size;have H:=i.o.size;refine(Xu (w3.heap.size+1) (w3.heap.size+1+1) w3.heap.size (λb=>X b/\b<w.heap.size) p t [] _ _ G ⟨a,c,rfl,u.o.later aa.o⟩ ⟨a2,c2,rfl,x.o.later aa.o⟩ K3.o.2.2.1 K3.o.2.2.2 ⟨K3.o.2.1,by simp⟩ (λb hb=>⟨by omega,by omega⟩) F.o).mono ?_;rintro e B ⟨n,I⟩;have C:Hid (Below w.heap.size w B):=aa.o.grown n aa.o.size (λj hj=>by cases hj; omega);have J:Hid (Ac B (w3.heap.size+1) #[.map (some w3.heap.size)] 110):=(n.block _ A.o.lt (by simp)).trans A.o;have s0:=J.o.c0;clear n;rcases I with ⟨h0,rfl⟩|⟨h',L,h0,rfl,D,E⟩
  ·have d:=Aa h0;clear h0;go_wp2_with fail;refine An (v:=.tuple #[.map none,.bool false]) (by simp[results,results134,go_sem]) rfl ?_;exact⟨C.o,Ad ⟨d.o,rfl⟩⟩
  ·have d:=Aa h0;have M:=Aa D;have N:=Aa E;clear h0 D E;go_wp2_with fail;refine An (v:=.tuple #[.map (some w3.heap.size),.bool true]) (by simp[results,results134,go_sem]) rfl ?_;exact⟨C.o,Ae ⟨h',_,L,d.o,rfl,M.o,N.o,H⟩⟩
def Fv (w:World) (r:Nat) (X:Nat->Prop) (ls:List Bd) (L:List (ByteArray×Value)):Prop:=Bm w r L/\DO w X ls L
theorem Fv.ex {w w':World} {r F:Nat} {X:Nat->Prop} {ls:List Bd} {L:List (ByteArray×Value)} (h:Fv w r X ls L) (he:Ex F w w') (c:r≠F) (d:∀b,X b->b≠F):Fv w' r X ls L:=
 ⟨h.1.kept (he.block r h.1.lt c),h.2.imp λa l hs=>hs.ex he d⟩
theorem Fv.later {w w':World} {r:Nat} {X:Nat->Prop} {ls:List Bd} {L:List (ByteArray×Value)} (h:Fv w r X ls L) (hb:Below w.heap.size w w'):Fv w' r X ls L:=
 ⟨h.1.below hb h.1.lt,h.2.imp λa l hs=>hs.later hb⟩
attribute [local go_sem] G7
abbrev Ft:=Pr×List Bd
def Cq (rs:List Pr) (x:Tm):List Ft:=rs.filterMap λp=>(A7 p.l x []).map λh=>(p,h)
theorem XA {rs:List Pr} {x:Tm} {k:Nat} (h:k<rs.length) (h0:A7 rs[k].l x []=none):Cq (rs.take (k+1)) x=Cq (rs.take k) x:=by
 unfold Cq;rw[Bo h,L7];simp[h0]
theorem XC {rs:List Pr} {x:Tm} {k:Nat} {g:List Bd} (h:k<rs.length) (h0:A7 rs[k].l x []=some g):Cq (rs.take (k+1)) x=Cq (rs.take k) x++[(rs[k],g)]:=by
 unfold Cq;rw[Bo h,L7];simp[h0]
theorem XG (rs:List Pr) (x:Tm) (k:Nat):Cq rs x=Cq (rs.take k) x++Cq (rs.drop k) x:=by
 unfold Cq;rw[<-L7,EJ]
def Gi (x:Ft) (args:Array Value) (W:World) (Z:Nat->Prop):Prop:=
 ∃ra rc q L,args=#[.agg #[.string x.1.r.name,.slice ra x.1.r.args.length rc,.map (some q)]]/\Sl W Z ra x.1.r.args/\Z q/\Fv W q Z x.2 L
theorem Qr {w:World} {Y:Nat->Prop}:∀ {a:List Bc},(∀x∈a,Sl w Y x.2.1 x.1.t.args)->DO w Y (a.map (·.1)) (a.map GI)
 | [],_=>rfl
 |x::r,h=>⟨x.2.1,x.2.2,_,rfl,h x (by simp),Qr λy hy=>h y (by simp[hy])⟩
def XH {J:Tk Ft} (w:World) (f:Nat->Prop) (pre:List Ft) (rs:List Pr) (x:Tm) (i:Value) (wr:World):Prop:=
 ∃(k:Nat) (f':Nat->Prop),k<=rs.length/\i=zA k/\J (pre++Cq (rs.take k) x) true f' wr/\Am f w wr/\∀b,f' b->f b∨w.heap.size<=b
theorem XI {J:Tk Ft} {K:Nat->Prop} {all:List Ft} (O:FT J K) (lp:Nat) {S:World->Prop} (P:JT lp Gi J all S) (rs:List Pr) (x:Tm) (R T:Nat) (U:Value) (aa:Option Addr) (ca:Nat) (pre:List Ft) (f:Nat->Prop) (w:World) (X:Nat->Prop) (t:Ac w R #[U] 23) (hu:QV w X U rs) (G:Ac w T (zF x aa ca) 33) (hs:Sl w X aa x.args) (V:∀b,X b->b<w.heap.size/\¬f b) (aW:¬f R) (aH:¬f T) (hj:J pre true f w) (W:(pre++Cq rs x) <+: all):
  Calls prog 133 #[.func (.yield lp) #[] #[],zC R,zC T] w λe w'=>P7 J (Cq rs x) pre f S w e w':=by
 have aI:=Aa W;clear W;have HU:=Aa hu;have HS:=Aa hs;have u:=Aa V;have s:=Aa O;have aJ:=Aa P;have HT:=Aa G;have aK:=Aa hj;have r0:=t.cell 0;have aX:=t.lt;have aY:=G.lt;obtain⟨ua,uc,rfl,aZ,_⟩:=hu;clear hs V O P G hj t;simp only[IE,Kn] at r0;go_enter func133,ntmps133;go_wp2_with fail;go_loopw [10] (λv wr=>XH (J:=J) w f pre rs x v wr) (λv wr=>rs.length-(intOf v).toNat);case atStart=>exact⟨0,f,AG _,rfl,by simpa [Cq] using aK.o,Am.refl _ _,λb hb=>Ad hb⟩
 case round=>
  obtain⟨k,f2,hk,rfl,Z,z,ai⟩:=hrel;have c:=Aa Z;have A:=Aa z;have ab:=Aa ai;have aL:Hid (∀b,X b->b<wr.heap.size/\¬f2 b):=λb hb=>⟨Cn (u.o b hb).1 z.size,λh=>by
   rcases ab.o b h with h|h
   ·exact(u.o b hb).2 h
   ·have:=(u.o b hb).1; omega⟩
  have H:=Aa (HT.o.exq z aH);have aM:=Aa (HS.o.exq z λb hb=>(u.o b hb).2);have aN:Hid (QV wr X (.slice ua rs.length uc) rs):=((HU.o.mono (Y:=λb=>X b/\b<w.heap.size) λb h1 h2=>⟨h1,h2⟩).kept λb hb=>A.o.block b hb.2 (u.o b hb.1).2).mono λb hb _=>hb.1;clear Z z ai;by_cases I:k<rs.length
  ·obtain⟨b,o,a1,c1,a2,c2,rfl,d0,d1,d2,d3,a6,a7⟩:=aN.o.get k I;have aO:(k:Int)<(rs.length:Int):=(by omega);have aP:=Aa a6;have aQ:=Aa a7;have aR:=λh=>Aa (XA (x:=x) I h);have av:=λg h=>Aa (XC (x:=x) (g:=g) I h);have L:=Aa (XG rs x (k+1));have ba:=H.o.lt;clear a6 a7;generalize rs[k]=d at *;have t0:∀o,(wr.alloc o).cell? (zD T 0)=some (.string x.name):=λo=>(H.o.alloc o).cell 0;have t1:∀o,(wr.alloc o).cell? (zD T 1)=some (.slice aa x.args.length ca):=λo=>(H.o.alloc o).cell 1;have B:Below wr.heap.size wr (wr.alloc (.cells #[.string d.l.name,.slice a1 d.l.args.length c1,.string d.r.name,.slice a2 d.r.args.length c2] 38)):=(Af _ _).alloc (Ai _) _;have m:=Aa B;have P0:=Aa (Ac.new wr #[.string d.l.name,.slice a1 d.l.args.length c1,.string d.r.name,.slice a2 d.r.args.length c2] 38);refine(wpIn_wide (n:=1)).1 ?_;gi_wp2
   clear t0 t1 d0 d1 d2 d3;refine⟨trivial,(DW.2 (Xz d.l x _ _ _ X ⟨a1,c1,rfl,aP.o.later B⟩ ⟨aa,ca,rfl,aM.o.later B⟩)).mono ?_⟩;clear B;rintro e w3 ⟨a,⟨h0,rfl⟩|⟨h',q,Z',h0,rfl,a8,C,hq⟩⟩
   ·have M:Hid (J (pre++Cq (rs.take k) x) true f2 w3):=s.o.abide c.o (AY m.o.size a.size) λj hj=>((a.block j (by have:=s.o.inside c.o j hj; simp; omega))).trans (m.o.block j (s.o.inside c.o j hj));have D:Hid (Am f w w3):=(A.o.trans (Am.ofBelow m.o)).trans (Am.ofBelow a);have HN:=aR h0;clear a h0;gi_wp2
    refine⟨λ_ h=>(by cases h),?_⟩;gi_wp2
    go_roundw
    case rel=>exact⟨k+1,f2,by omega,by go_num,by rw[HN.o]; exact M.o,D.o,ab.o⟩
    case measure=>simp[intOf]; omega
   ·have bb:=AY m.o.size a.size;have M:Hid (J (pre++Cq (rs.take k) x) true f2 w3):=s.o.abide c.o (AY m.o.size a.size) λj hj=>((a.block j (by have:=s.o.inside c.o j hj; simp; omega))).trans (m.o.block j (s.o.inside c.o j hj));have D:Hid (Am f w w3):=(A.o.trans (Am.ofBelow m.o)).trans (Am.ofBelow a);have N:=av h' h0;have P3:=Aa (P0.o.below a P0.o.lt);have p2:=P3.o.c2;have p3:=P3.o.c3;have bc:wr.heap.size<=q:=by simp at hq; omega
    have aA:Sl w3 X a2 d.r.args:=(aQ.o.later m.o).later a;have aS:=aJ.o 0 _ (d,h') #[.agg #[.string d.r.name,.slice a2 d.r.args.length c2,.map (some q)]] (λb=>(X b∨b=q)/\b<w3.heap.size) f2 w3 (List.IsPrefix.trans ⟨Cq (rs.drop (k+1)) x,by rw[L.o,N.o]; simp⟩ aI.o) M.o ⟨a2,c2,q,Z'.map GI,rfl,aA.mono λb hb E=>⟨Ad hb,E⟩,⟨Ae rfl,C.1.lt⟩,C.1,by rw[<-a8]; exact Qr λy hy=>(C.2 y hy).mono λb hb E=>⟨Ad hb.1,E⟩⟩ (λb hb=>⟨hb.2,λh=>by
     rcases hb.1 with h1|h1
     ·exact(aL.o b h1).2 h
     ·have:=s.o.inside c.o b (Ad h); omega⟩)
    obtain⟨bd,aB,aT,aC,hy,t⟩:=aS;have HR:=Aa t;clear t C a8 h0 a aA;gi_wp2
    refine HR.o.mono ?_;rintro e W5 ⟨s5,rfl,f5,aD,F,aj,aE⟩;have aU:=Aa aE;clear aE;have aF:=Aa aD;have bf:=Aa F;have ax:=Aa aj;have bg:=F.size;have aG:Hid (Am f w W5):=D.o.transN F λi hi E=>by
     rcases ab.o i hi with h|h
     ·exact h
     ·omega
    have ak:Hid (∀b,f5 b->f b∨w.heap.size<=b):=λb hb=>by
     have:=D.o.size;rcases ax.o b hb with h|h
     ·exact ab.o b h
     ·right; omega
    clear aD F aj hy;cases s5 with
    |true=>
     gi_wp2
     go_roundw
     case rel=>exact⟨k+1,f5,by omega,by go_num,by rw[N.o]; simpa using aF.o,aG.o,ak.o⟩
     case measure=>simp[intOf]; omega
    |false=>
     gi_wp2
     refine An (results_none rfl _ _ _) rfl ?_;refine⟨⟨_,rfl⟩,false,⟨(Cq (rs.take (k+1)) x).length,f5,by rw[L.o]; simp,by simp,?_,aG.o.mono λb hb _=>Ad hb,ak.o⟩,λ_=>aU.o rfl⟩;rw[L.o,List.take_left,N.o];simpa using aF.o
  ·have aV:rs.take k=rs:=AX (by omega);rw[aV]at c;have bh:¬((k:Int)<(rs.length:Int)):=(by omega);go_wp2_with fail;go_end0
   exact⟨⟨_,rfl⟩,true,⟨(Cq rs x).length,f2,Ai _,λ_=>rfl,by rw[E5]; exact c.o,A.o.mono λb hb _=>Ad hb,ab.o⟩,λh=>by cases h⟩
def JL {α β:Type} (J:Tk α) (K':Nat->Prop) (G:β->List α) (pre:List α) (L:Nat) (r rd:Loop) (W0:World):Tk β:=λpre2 s f2 W=>
 ∃(f:Nat->Prop) (m:Nat),(∀b,f2 b↔f b∨b=L)/\m<=(pre2.flatMap G).length/\(s=true->m=(pre2.flatMap G).length)/\J (pre++(pre2.flatMap G).take m) s f W/\¬f L/\W.heap[L]? = some (.loop (if s=true then r else rd))/\(∀b,K' b->b<W0.heap.size/\¬f b/\b≠L)/\W0.heap.size<=W.heap.size/\∀b,K' b->W.heap[b]? = W0.heap[b]?
theorem JL.ok {α β:Type} {J:Tk α} {K c:Nat->Prop} {G:β->List α} {pre:List α} {L:Nat} {r rd:Loop} {W0:World} (i:FT J K) (k:∀b,K b->c b):FT (JL J c G pre L r rd W0) c where
 inside:=by
  rintro j s f2 W ⟨f,m,aa,hm,d,hj,e,a,ab,hz,g⟩ b hb;rcases hb with hb|hb
  ·rcases(aa b).1 hb with h|h
   ·exact i.inside hj b (Ad h)
   ·subst h; exact(DV.1 a).1
  ·have:=(ab b hb).1; omega
 apart:=by
  rintro j s f2 W ⟨f,m,aa,hm,d,hj,e,a,ab,hz,g⟩ b hb h;rcases(aa b).1 h with h|h
  ·exact(ab b hb).2.1 h
  ·exact(ab b hb).2.2 h
 abide:=by
  rintro j s f2 W W' ⟨f,m,aa,hm,d,hj,e,a,ab,hz,g⟩ hs hk;refine⟨f,m,aa,hm,d,i.abide hj hs (λb hb=>hk b ?_),e,(hk L (Ad ((aa L).2 (Ae rfl)))).trans a,ab,AY hz hs,λb hb=>(hk b (Ae hb)).trans (g b hb)⟩;rcases hb with hb|hb
  ·exact Ad ((aa b).2 (Ad hb))
  ·exact Ae (k b hb)
theorem JL.start {α β:Type} {J:Tk α} {a f:Nat->Prop} {G:β->List α} {pre:List α} {L:Nat} {r rd:Loop} {W0:World} (hj:J pre true f W0) (aa:¬f L) (c:W0.heap[L]? = some (.loop r)) (d:∀b,a b->b<W0.heap.size/\¬f b/\b≠L):JL J a G pre L r rd W0 [] true (λb=>f b∨b=L) W0:=
 ⟨f,0,λb=>Iff.rfl,AG _,λ_=>rfl,by simpa using hj,aa,c,d,Ai _,λb _=>rfl⟩
attribute [local go_sem] G7
theorem XJ {J:Tk Dn} {K:Nat->Prop} {all:List Dn} (c:FT J K) (lp:Nat) {S:World->Prop} (g:JT lp MY J all S) (t:Tm) (a:List Int) (T F:Nat) (aa:Option Addr) (ca:Nat) (fv:Value) (pre:List Dn) (f:Nat->Prop) (w:World) (X:Nat->Prop) (d:Ac w T (zF t aa ca) 33) (hs:Sl w X aa t.args) (hF:Ac w F #[fv] 22) (m:PV w X fv a) (ab:(AV t a).isSome=true) (h:∀b,X b->b<w.heap.size/\¬f b) (hj:J pre true f w) (hz:Ab [t]<=800000) (i:(pre++AQ [] a t) <+: all):
  Calls prog 68 #[.func (.yield lp) #[] #[],zC T,zC F] w λe w'=>P7 J (AQ [] a t) pre f S w e w':=by
 have t0:=d.cell 0;have t1:=d.cell 1;have f0:=hF.cell 0;have j:∀b,K b->b<w.heap.size:=λb hb=>c.inside hj b (Ae hb);obtain⟨fa,fc,rfl,k,l⟩:=m;have n:=Aa (Xo c w.heap.size lp j g t (.agg (zF t aa ca)) zB (.slice fa a.length fc) [] a pre f w X ⟨aa,ca,rfl,hs⟩ ⟨fa,fc,rfl,k,l⟩ ab h (Ai _) (Gy _ _ _ _) (by simp[Value.ownBlock]) hj (by simp; omega) i);simp only[IE,Kn,L4] at t0 t1 f0;clear d hs hF k l ab h hj hz j g c i;go_enter func68,ntmps68;go_wp2_with fail;refine n.o.mono ?_;rintro e w1 ⟨b,rfl,hw,_,q⟩;go_wp2_with fail;go_end0
 exact⟨⟨_,rfl⟩,b,(hw.mono λb hb _=>by simp[Value.ownBlock] at hb),q⟩
theorem Qs (b:Value) (ab:∃a n c,b=.slice a n c) (s:ByteArray) (aa:Option Addr) (n ca:Nat) (w:World):
  Calls prog 115 #[b,.agg #[.string s,.slice aa n ca]] w λe w'=>e=.returned (.func (.func 133) #[] #[zC w.heap.size,zC (w.heap.size+1)])/\w'=(w.alloc (.cells #[b] 23)).alloc (.cells #[.string s,.slice aa n ca] 33):=by
 obtain⟨a,n1,c,rfl⟩:=ab;have ad:=@hmq prog;go_enter func115,ntmps115;go_wp2_with fail;go_ret;exact⟨rfl,rfl⟩
abbrev Ch:=Dn×Ft
def XK:Go.Shelf.Ren:=⟨fun|41=>97|n=>n,fun|22=>31|23=>33|4=>4|n=>n,fun|n=>n⟩
theorem XL:Go.Proofs.SlLaysE0.n41 prog XK:={
 mixed:=by kernel_rfl
 f41:=⟨Tryz.f97.name,by decide,func97.trans (Bx some (by kernel_rfl))⟩
 t4:=underlying4
 a4:=isAgg4
 z4:=sizeOf4
 v4:=zeroValue4
 t22:=underlying31
 a22:=isAgg31
 z22:=sizeOf31
 v22:=zeroValue31}
theorem XM (b off n c:Nat) (news:List Value) (w:World) (d:news.length=n*2) (hn:n<=1000000) (hc:∀j u,news[j]? = some u->w.cell? ⟨b,off+j,none⟩=some u) (h1:∀u∈news,u.oneCell'=true):
  Calls prog 97 #[.slice (some (zD b off)) n c] w λe w'=>∃a,e=.returned a/\w'.ownsRow w.heap.size 33 2 a n news/\a≠zB/\Below w.heap.size w w':=by
 obtain⟨i0,hi,aa,ab,f⟩:=CE Tryz.infoTerm;exact AnyE.slices_Clone XL i0 _ 2 40 hi aa ab f rfl (by decide) sizeOf33 b off n c news w d (by unfold maxLen; omega) (by omega) hc h1
theorem BL.put {w:World} {X:Nat->Prop} {y:Tm} {a:Option Addr} {c:Nat} (hy:Sl w X a y.args):∀ {l:List Tm} {xs:List Value} (k:Nat),BL w X l xs->k<l.length->BL w X (l.set k y) ((xs.set (k*2) (.string y.name)).set (k*2+1) (.slice a y.args.length c))
  | [],xs,k,h,hk=>by simp at hk
  |t::l,xs,0,h,_=>by
    obtain⟨b,c',r,rfl,h1,h2⟩:=h;exact⟨a,c,r,by simp,hy,h2⟩
  |t::l,xs,k+1,h,hk=>by
    obtain⟨b,c',r,rfl,h1,h2⟩:=h;refine⟨b,c',(r.set (k*2) (.string y.name)).set (k*2+1) (.slice a y.args.length c),?_,h1,BL.put hy k h2 (by simpa using hk)⟩;have e:(k+1)*2=k*2+1+1:=(by omega);rw[e];simp
theorem M1 (f:Tm->Tm):∀(l:List Tm) (j k:Nat) (h:k<l.length),BR f ((j+k:Nat):Int) j l=l.set k (f l[k])
  | [],j,k,h=>by simp at h
  |a::r,j,0,h=>by
    simp only[F9,BR,if_true,List.set_cons_zero,EI];have:∀(r:List Tm) (m:Nat),j<m->BR f (j:Int) m r=r:=λr=>by
      induction r with
      |nil=>intro m _; rfl
      |cons b r c=>intro m hm; rw[BR,Aj (by omega),c (m+1) (by omega)]
    rw[this r (j+1) (by omega)]
  |a::r,j,k+1,h=>by
    rw[BR,Aj (by omega)];have:=M1 f r (j+1) k (by simpa using h);rw[show j+(k+1)=j+1+k by omega,this];simp
theorem M2 {w:World} {N M e z n:Nat} {v:Value} {xs:List Value} (h:w.ownsRow N e z v n xs) (a:M<=N):w.ownsRow M e z v n xs:=
  ⟨h.1,h.2.imp id λ⟨g,cap,cur,h1,h2,h3⟩=>⟨g,cap,cur,h1,AY a h2,h3⟩⟩
theorem XN {w:World} {N e z n G cap O i j:Nat} {u a:Value} {xs:List Value} (h:w.ownsRow N e z (.slice (some (zD G 0)) n cap) n xs) (hO:O≠G):((w.setCell (zD O i) u).setCell (zD O j) a).ownsRow N e z (.slice (some (zD G 0)) n cap) n xs:=by
  obtain⟨b,h1⟩:=h;refine⟨b,?_⟩;rcases h1 with h1|⟨g,aa,cur,hv,c,d,f⟩
  · exact Ad h1
  · refine Ae ⟨g,aa,cur,hv,c,?_,f⟩
    have e:g=G:=by simp at hv; exact hv.1.symm
    rw[Aq _ _ _ _ (by simp; omega),Aq _ _ _ _ (by simp; omega)];exact d
def M3 (W:World) (N:Nat) (s:ByteArray) (n:Nat) (xs:List Value) (o7:Value) (wc:World):Prop:=
  ∃G O cap:Nat,o7=zC O/\N<=G/\N<=O/\G≠O/\Ac wc O #[.string s,.slice (some (zD G 0)) n cap] 33/\wc.ownsRow N 33 2 (.slice (some (zD G 0)) n cap) n xs/\Below N W wc
theorem XP {W w1:World} {N n G cap:Nat} {s:ByteArray} {xs:List Value} (hN:W.heap.size=N) (aa:w1.ownsRow N 33 2 (.slice (some (zD G 0)) n cap) n xs) (hb:Below N W w1):
    M3 W N s n xs (zC w1.heap.size) (w1.alloc (.cells #[.string s,.slice (some (zD G 0)) n cap] 33)):=by
  have a:=aa.lt G rfl;have hs:=hb.size;exact⟨G,w1.heap.size,cap,rfl,a.1,by omega,by omega,Ac.new _ _ _,aa.alloc _,hb.alloc (by omega) _⟩
theorem XQ {W w1:World} {N n G cap O:Nat} {s:ByteArray} {xs:List Value} (a:N<=O) (b:Ac w1 O #[.string ⟨#[]⟩,zB] 33) (ab:O<G) (aa:w1.ownsRow N 33 2 (.slice (some (zD G 0)) n cap) n xs) (hb:Below N W w1):
    M3 W N s n xs (zC O) ((w1.setCell (zD O 0) (.string s)).setCell (zD O 1) (.slice (some (zD G 0)) n cap)):=by
  have c:=aa.lt G rfl;refine⟨G,O,cap,rfl,c.1,a,by omega,?_,XN aa (by omega),(hb.setCell (by simpa using a) _).setCell (by simpa using a) _⟩;have:=(b.set 0 (.string s)).set 1 (.slice (some (zD G 0)) n cap);simpa using this
theorem XU {w d:World} {X:Nat->Prop} {l:List Tm} {k G R M T n9 c9:Nat} {xs:List Value} {cur:Array Value} {f:ByteArray} {a9:Option Addr} {y:Tm} (g:∀b,X b->b<w.heap.size) (hk:k<l.length) (i:l.length<=9223372036854775807) (aa:BL w X l xs) (ab:cur.toList.take (l.length*2)=xs) (m:w.heap.size<=G) (ag:G<M) (hR:w.heap.size<=R) (n:R≠G) (ah:R<M) (o:Ac d G cur T) (hb:Below w.heap.size w d)
    (ht:TV d (λb=>(X b/\b<M)∨M<=b) (.agg #[.string f,.slice a9 n9 c9]) y):∀wF:World,(∀b,b≠R->wF.heap[b]? = ((d.setCell ⟨G,k*2,none⟩ (.string f)).setCell ⟨G,k*2+1,none⟩ (.slice a9 n9 c9)).heap[b]?)->Sl wF (λb=>X b∨w.heap.size<=b) (some (zD G 0)) (l.set k y):=by
  intro wF hF;obtain⟨a',c',e,q⟩:=ht;simp at e;obtain⟨rfl,rfl,rfl,rfl⟩:=e;have keep:∀b,b≠G->b≠R->wF.heap[b]? = d.heap[b]? := λb h1 h2=>by
    rw[hF b h2,Aq _ _ _ _ (by simpa using h1),Aq _ _ _ _ (by simpa using h1)]
  have h1:BL wF (λb=>X b∨w.heap.size<=b) l xs:=aa.imp λa kk hs=>(hs.kept λb hb2=>by
    have:=g b hb2;rw[keep b (by omega) (by omega),hb.block b this]).mono λb hb2 _=>Ad hb2
  have h2:Sl wF (λb=>X b∨w.heap.size<=b) a9 y.args:=(q.kept λb hb2=>by
    rcases hb2 with hb2|hb2
    · have:=g b hb2.1
      exact keep b (by omega) (by omega)
    · exact keep b (by omega) (by omega)).mono λb hb2 _=>by
    rcases hb2 with hb2|hb2
    · exact Ad hb2.1
    · exact Ae (by omega)
  have h3:=BL.put (c:=c9) h2 k h1 hk;have r:Ac wF G ((cur.setIfInBounds (k*2) (.string y.name)).setIfInBounds (k*2+1) (.slice a9 y.args.length c9)) T:=(by have s:=(o.set (k*2) (.string y.name)).set (k*2+1) (.slice a9 y.args.length c9);unfold Ac at *;rw[hF G (λe=>n e.symm)];exact s);refine⟨by simpa using i,Ae ⟨G,0,rfl,Om G (Ae m) _ _ 0 h3 (λ_ _ h=>h) λj u hj=>?_⟩⟩;rw[EL];refine(r.cell j).trans ?_;rw[<-ab,<-List.take_set,<-List.take_set,List.getElem?_take]at hj;split at hj
  · rw[<-Array.getElem?_toList]
    simpa using hj
  · cases hj
theorem XV (x:Tm) (d:List Int):∀(t:Tm) (v p u:Value) (w:World) (X Y:Nat->Prop),TV w X v t->PV w Y p d->TV w X u x->(AV t d).isSome=true->Ab [t]<=1000000->
    Calls prog 75 #[v,p,u] w λe w'=>∃N,e=.returned N/\TV w' (λb=>(X b/\b<w.heap.size)∨w.heap.size<=b) N (AP x d t)/\Below w.heap.size w w':=by
  induction d with
  |nil=>
    intro t v p u w X Y hv hp hu E aI;obtain⟨a,c,rfl,hs⟩:=hv;obtain⟨f,i,rfl,P⟩:=hu;obtain⟨pa,B,rfl,av,hz⟩:=hp;have HU:=Aa P;go_enter func75,ntmps75;go_wp2_with fail;refine An (v:=.agg (zF x f i)) (by simp[results,results75,go_sem]) rfl ⟨_,rfl,?_,?_⟩
    · exact⟨f,i,by simp[AP],(HU.o.mono (Y:=λb=>(X b/\b<w.heap.size)∨w.heap.size<=b) λb h1 h2=>Ad ⟨h1,h2⟩).later (Fr _ _ _)⟩
    · exact Fr _ _ _
  |cons z d ih=>
    intro t v p u w X0 Y0 aJ aK aL E aI;have IH:=Aa ih;clear ih;obtain⟨X,Y,T,aT,aU,hv,hp,hu⟩:∃X Y:Nat->Prop,(∀b,X b->b<w.heap.size)/\(∀b,Y b->b<w.heap.size)/\(∀b,X b->X0 b)/\TV w X v t/\PV w Y p (z::d)/\TV w X u x:=⟨λb=>X0 b/\b<w.heap.size,λb=>Y0 b/\b<w.heap.size,λ_ h=>h.2,λ_ h=>h.2,λ_ h=>h.1,aJ.mono λb h1 h2=>⟨h1,h2⟩,aK.mono λb h1 h2=>⟨h1,h2⟩,aL.mono λb h1 h2=>⟨h1,h2⟩⟩;clear aJ aK aL;obtain⟨a,c,rfl,hs⟩:=hv;obtain⟨f,i,rfl,P⟩:=hu;have HU:=Aa (show TV w X (.agg (zF x f i)) x from ⟨f,i,rfl,P⟩);clear P;obtain⟨pa,B,rfl,av,hz⟩:=hp;obtain⟨b,o,rfl,GP,ab⟩:=hz.resolve_left (λh=>by cases h);have h0:=ab 0 (by simp);simp only[F9,EI] at h0;have aw:d.length+1<=9223372036854775807/\d.length+1<=B:=(by simpa using av);obtain⟨ay,ai⟩:=aw;obtain⟨s,l⟩:=t;have aM:Ab [(⟨s,l⟩:Tm)]=1+Ab l:=(by simp[Ab]);rw[aM]at aI;clear aM;have hlen:=EM l;rw[AV]at E;split at E;case isFalse=>cases E
    case isTrue aN=>
    obtain⟨k,rfl⟩:∃k:Nat,z=(k:Int):=⟨z.toNat,by omega⟩;have hk:k<l.length:=(by simpa using aN.2);have aV:Hid ((AV l[k] d).isSome=true):=Aa (by simpa using E);obtain⟨I,aW,HT⟩:∃I:Option Addr,Hid ((if B=1 then some ((zD b o):Addr) else some ⟨b,o+1,none⟩)=I)/\Hid (PV w Y (.slice I d.length (B-1)) d):=by
      by_cases h1:B=1
      · refine⟨_,rfl,?_⟩
        have:d=[]:=EK.1 (by omega);subst this;exact⟨_,_,rfl,by simp,Ad rfl⟩
      · refine⟨_,rfl,?_⟩
        rw[Aj h1];exact PV.tail ⟨ay,ai⟩ GP ab
    simp only[Bu] at *;clear ab av hz E aN;go_enter func75,ntmps75;go_upto_region 3 with fail;have aO:Below w.heap.size w (((w.alloc (.cells #[.string s,.slice a l.length c] 33)).alloc (.cells (zF x f i) 33)).alloc (.cells #[.string ⟨#[]⟩,zB] 33)):=Fr _ _ _;have U:(((w.alloc (.cells #[.string s,.slice a l.length c] 33)).alloc (.cells (zF x f i) 33)).alloc (.cells #[.string ⟨#[]⟩,zB] 33)).heap.size=w.heap.size+3:=(by simp);obtain⟨ba,m,rfl,ae⟩:=hs.2.resolve_left (λe=>by rw[e] at hk; simp at hk);obtain⟨xs,az,aX⟩:=Vj l ba m ae;have aY:=Aa az;have a1:ba<w.heap.size:=T _ (Ge _ _ _ ae 0 (by omega)).1;have CL:Hid (∀w',Below w.heap.size w w'->Calls prog 97 #[.slice (some (zD ba m)) l.length c] w' λe aa=>∃G cap,e=.returned (.slice (some (zD G 0)) l.length cap)/\aa.ownsRow w'.heap.size 33 2 (.slice (some (zD G 0)) l.length cap) l.length xs/\Below w'.heap.size w' aa):=λw' hb=>by
      refine(XM ba m l.length c xs w' az.len (by omega) (λj u hj=>(hb.cell (p:=⟨ba,m+j,none⟩) a1).trans (aX j u hj)) az.one).mono ?_;rintro e aa ⟨N,rfl,ho,hne,hb2⟩;rcases ho.2 with ⟨h1,_⟩|⟨g,cap,cur,hv,_⟩
      · exact absurd h1 hne
      · subst hv
        exact⟨g,cap,rfl,ho,hb2⟩
    go_cut [7] (λo7 wc=>M3 (((w.alloc (.cells #[.string s,.slice (some (zD ba m)) l.length c] 33)).alloc (.cells (zF x f i) 33)).alloc (.cells #[.string ⟨#[]⟩,zB] 33)) (w.heap.size+3) s l.length xs o7 wc);case first=>
      have V:Ac (((w.alloc (.cells #[.string s,.slice (some (zD ba m)) l.length c] 33)).alloc (.cells (zF x f i) 33)).alloc (.cells #[.string ⟨#[]⟩,zB] 33)) w.heap.size #[.string s,.slice (some (zD ba m)) l.length c] 33:=((Ac.new w _ _).alloc _).alloc _;have aZ:=Aa aO;generalize (((w.alloc (.cells #[.string s,.slice (some (zD ba m)) l.length c] 33)).alloc (.cells (zF x f i) 33)).alloc (.cells #[.string ⟨#[]⟩,zB] 33))=W at *;have t0:=V.c0;have t1:=V.c1;have a6:=Aa (And.intro t0 t1);have J:Hid (∀w',Below (w.heap.size+3) W w'->w'.cell? (zD w.heap.size 0)=some (.string s)/\w'.cell? (zD w.heap.size 1)=some (.slice (some (zD ba m)) l.length c)):=λw' hb=>⟨(hb.cell (p:=(zD w.heap.size 0)) (by simp)).trans t0,(hb.cell (p:=(zD w.heap.size 1)) (by simp)).trans t1⟩;have HD:Hid (Below (w.heap.size+3) W W.drew):=(Af _ _).drew;have HA:Hid (∀o,Below (w.heap.size+3) W (W.drew.alloc o)):=λo=>((Af _ _).drew).alloc (by simp; omega) o;have aP:Hid (∀w',Below (w.heap.size+3) W w'->Calls prog 97 #[.slice (some (zD ba m)) l.length c] w' λe aa=>∃G cap,e=.returned (.slice (some (zD G 0)) l.length cap)/\aa.ownsRow w'.heap.size 33 2 (.slice (some (zD G 0)) l.length cap) l.length xs/\Below w'.heap.size w' aa/\Below (w.heap.size+3) W aa):=λw' hb=>(CL.o w' (aZ.o.trans (hb.mono (by omega)))).mono λe aa ⟨G,cap,h1,h2,h3⟩=>⟨G,cap,h1,h2,h3,hb.trans (h3.mono (by have:=hb.size; omega))⟩;have a7:=Aa U;have nW:w.heap.size≠W.heap.size:=(by omega);clear U;go_region_held3 (λw'=>w'.cell? (zD w.heap.size 0)=some (.string s)/\w'.cell? (zD w.heap.size 1)=some (.slice (some (zD ba m)) l.length c)) (first|exact r|exact a6.o|exact J.o _ (HA.o _)|exact⟨Fq r.1 nW,Fq r.2 nW⟩|go_keep)
        (first
          | (go_at_call 97;
              first
                | (refine(aP.o _ (by first|exact Af _ _|exact HD.o)).mono ?_; rintro e C ⟨G,cap,rfl,Z,A,L⟩; have r:=J.o _ L)
                | (refine(aP.o _ (by exact HA.o (.cells #[.string ⟨#[]⟩,zB] 33))).mono ?_; rintro e C ⟨G,cap,rfl,Z,A,L⟩; have r:=J.o _ L; have QB:Ac C W.heap.size #[.string ⟨#[]⟩,zB] 33:=(Ac.new W.drew _ _).below A (by simp); have q0:C.cell? (zD W.heap.size 0)=some (.string ⟨#[]⟩):=QB.cell 0; have q1:C.cell? (zD W.heap.size 1)=some (zB):=QB.cell 1; have qf:=QB.frozen)))
      all_goals have au:=Z.lt G rfl
      all_goals go_wp2_with fail
      all_goals go_meet
      all_goals first
        |exact XP (by exact a7.o) (M2 Z (by have:=a7.o; simp; omega)) L
        | (have U:=a7.o; have e:W.heap.size=w.heap.size+3:=U; exact XQ (by omega) QB (by have:=au.1; simp at this; omega) (M2 Z (by simp; omega)) L)
    case rest=>
      obtain⟨G,O,cap,rfl,bw,bx,bb,a8,aA,F⟩:=hcut;have V:Ac (((w.alloc (.cells #[.string s,.slice (some (zD ba m)) l.length c] 33)).alloc (.cells (zF x f i) 33)).alloc (.cells #[.string ⟨#[]⟩,zB] 33)) w.heap.size #[.string s,.slice (some (zD ba m)) l.length c] 33:=((Ac.new w _ _).alloc _).alloc _;have X3:Ac (((w.alloc (.cells #[.string s,.slice (some (zD ba m)) l.length c] 33)).alloc (.cells (zF x f i) 33)).alloc (.cells #[.string ⟨#[]⟩,zB] 33)) (w.heap.size+1) (zF x f i) 33:=by
        have:=(Ac.new (w.alloc (.cells #[.string s,.slice (some (zD ba m)) l.length c] 33)) (zF x f i) 33).alloc (.cells #[.string ⟨#[]⟩,zB] 33);rw[CW]at this;exact this
      have H:Below w.heap.size w wc:=aO.trans (F.mono (by omega));have aB:wc.cell? (zD w.heap.size 1)=some (.slice (some (zD ba m)) l.length c):=(F.cell (p:=(zD w.heap.size 1)) (by simp)).trans (V.cell 1);have cz:wc.cell? (zD b o)=some (zA k):=(H.cell (p:=(zD b o)) (by simpa using aT b GP)).trans h0;have bz:(k:Int)<(l.length:Int):=(by omega);have x0:wc.cell? (zD (w.heap.size+1) 0)=some (.string x.name):=(F.cell (p:=(zD (w.heap.size+1) 0)) (by simp)).trans (X3.cell 0);have x1:wc.cell? (zD (w.heap.size+1) 1)=some (.slice f x.args.length i):=(F.cell (p:=(zD (w.heap.size+1) 1)) (by simp)).trans (X3.cell 1);obtain⟨n,q,a',c',aC,d0,d1,hx⟩:=hs.get H (λb hb _=>T b hb) k hk;have bc:n=ba/\q=m:=by simp at aC; exact⟨aC.1.symm,aC.2.symm⟩
      obtain⟨rfl,rfl⟩:=bc;have aD:=a8.c1;have HX:=Aa hx;have aE:Ab [l[k]]<=1000000:=by
        have:=De l k hk; have:=Df l (k+1); omega
      have bd:∀w':World,Sem.run prog (Instr.slice 22 (.slice (some (zD b o)) (d.length+1) B) (some (zA 1)) none none) w'=.ok (.slice I d.length (B-1)) w':=λw'=>by
        rw[PW b o d.length B ai w',aW.o]
      have b0:∀b,b<w.heap.size+3->b≠G:=λb hb=>by omega
      have ak:=hs.1;have al:AP x ((k:Int)::d) ⟨s,l⟩=⟨s,l.set k (AP x d l[k])⟩:=(by have:=M1 (AP x d) l 0 k hk;rw[EL]at this;rw[AP,this]);have PU:Hid (∀w',Below wc.heap.size wc w'->Calls prog 75 #[.agg (zF l[k] a' c'),.slice I d.length (B-1),.agg (zF x f i)] w' λe aa=>∃D a9 n9 c9,e=.returned (.agg #[.string D,.slice a9 n9 c9])/\TV aa (λb=>(X b/\b<w'.heap.size)∨w'.heap.size<=b) (.agg #[.string D,.slice a9 n9 c9]) (AP x d l[k])/\Below wc.heap.size wc aa):=λw' hb=>by
        refine(IH.o l[k] _ _ _ w' X Y (HX.o.later hb) ((HT.o.later H).later hb) ((HU.o.later H).later hb) aV.o aE).mono ?_;rintro e aa ⟨N,rfl,ht,hb2⟩;obtain⟨a9,c9,rfl,bf⟩:=ht;exact⟨_,a9,_,c9,rfl,⟨a9,c9,rfl,bf⟩,hb.trans (hb2.mono hb.size)⟩
      have an:wc.cell? (zD O 1)=some (.slice (some (zD G 0)) l.length cap)/\wc.cell? (zD w.heap.size 1)=some (.slice (some (zD n q)) l.length c)/\wc.cell? ⟨n,q+k*2,none⟩=some (.string l[k].name)/\wc.cell? ⟨n,q+k*2+1,none⟩=some (.slice a' l[k].args.length c')/\wc.cell? (zD (w.heap.size+1) 0)=some (.string x.name)/\wc.cell? (zD (w.heap.size+1) 1)=some (.slice f x.args.length i):=⟨aD,aB,d0,d1,x0,x1⟩;have a6:=Aa an;have aQ:O<wc.heap.size:=a8.lt;have aF:w.heap.size+3<=wc.heap.size:=by have:=F.size; omega
      have J:Hid (∀w',Below wc.heap.size wc w'->w'.cell? (zD O 1)=some (.slice (some (zD G 0)) l.length cap)/\w'.cell? (zD w.heap.size 1)=some (.slice (some (zD n q)) l.length c)/\w'.cell? ⟨n,q+k*2,none⟩=some (.string l[k].name)/\w'.cell? ⟨n,q+k*2+1,none⟩=some (.slice a' l[k].args.length c')/\w'.cell? (zD (w.heap.size+1) 0)=some (.string x.name)/\w'.cell? (zD (w.heap.size+1) 1)=some (.slice f x.args.length i)):=λw' hb=>⟨(hb.cell (p:=(zD O 1)) aQ).trans aD,(hb.cell (p:=(zD w.heap.size 1)) (by simp; omega)).trans aB,(hb.cell (p:=⟨n,q+k*2,none⟩) (by simp; omega)).trans d0,(hb.cell (p:=⟨n,q+k*2+1,none⟩) (by simp; omega)).trans d1,(hb.cell (p:=(zD (w.heap.size+1) 0)) (by simp; omega)).trans x0,(hb.cell (p:=(zD (w.heap.size+1) 1)) (by simp; omega)).trans x1⟩;obtain⟨cur,aR,bg,bh,bj⟩:∃cur:Array Value,Ac wc G cur 33/\cur.size=cap*2/\cur.toList.take (l.length*2)=xs/\l.length<=cap:=by
        rcases aA.2 with ⟨h1,_⟩|⟨g,bk,cur,hv,_,hh,bl,_,hz,ht⟩
        · cases h1
        · simp at hv
          obtain⟨rfl,rfl⟩:=hv;exact⟨cur,hh,hz,ht,bl⟩
      have bm:=Aa aR;obtain⟨y0,bn⟩:∃y,cur[k*2]? = some y:=⟨_,Array.getElem?_eq_getElem (by omega)⟩;obtain⟨y1,bo⟩:∃y,cur[k*2+1]? = some y:=⟨_,Array.getElem?_eq_getElem (by omega)⟩;have nO:O≠G:=λe=>bb e.symm;have n1:w.heap.size≠G:=(by omega);have n2:n≠G:=(by omega);have n3:w.heap.size+1≠G:=(by omega);have n4:w.heap.size+1+1≠G:=(by omega);have bp:Ac wc (w.heap.size+1+1) #[.string ⟨#[]⟩,zB] 33:=(by have h1:=Ac.new ((w.alloc (.cells #[.string s,.slice (some (zD n q)) l.length c] 33)).alloc (.cells (zF x f i) 33)) #[.string ⟨#[]⟩,zB] 33;rw[CW,CW]at h1;unfold Ac at *;rw[F.block _ (by omega)];exact h1);have au:G<wc.heap.size:=aR.lt;clear aD aB d0 d1 x0 x1 an;go_wp2_with fail;go_region_held3 (λw'=>w'.cell? (zD O 1)=some (.slice (some (zD G 0)) l.length cap)/\w'.cell? (zD w.heap.size 1)=some (.slice (some (zD n q)) l.length c)/\w'.cell? ⟨n,q+k*2,none⟩=some (.string l[k].name)/\w'.cell? ⟨n,q+k*2+1,none⟩=some (.slice a' l[k].args.length c')/\w'.cell? (zD (w.heap.size+1) 0)=some (.string x.name)/\w'.cell? (zD (w.heap.size+1) 1)=some (.slice f x.args.length i)) (first|exact r|exact a6.o|exact⟨Fq r.1 nO,Fq r.2.1 n1,Fq r.2.2.1 n2,Fq r.2.2.2.1 n2,Fq r.2.2.2.2.1 n3,Fq r.2.2.2.2.2 n3⟩|go_keep)
        (first
          | (go_at_call 75; refine(PU.o _ (by first|exact Af _ _|exact(Af _ _).drew)).mono ?_; rintro e C ⟨D,a9,n9,c9,rfl,bq,A⟩; have r:=J.o _ A; have M:=bm.o.below A au; have gf:=M.frozen; have g0:C.cell? ⟨G,k*2,none⟩=some y0:=(M.cell (k*2)).trans bn; have g1:C.cell? ⟨G,k*2+1,none⟩=some y1:=(M.cell (k*2+1)).trans bo))
      all_goals
        have OB:=(a8.below A aQ);have aS:=(OB.setOther (k*2) (.string D) nO).setOther (k*2+1) (.slice a9 n9 c9) nO;have b2:=(M.set (k*2) (.string D)).set (k*2+1) (.slice a9 n9 c9);have aG:=((bp.below A (by omega)).setOther (k*2) (.string D) n4).setOther (k*2+1) (.slice a9 n9 c9) n4;have br:Below w.heap.size w ((C.setCell ⟨G,k*2,none⟩ (.string D)).setCell ⟨G,k*2+1,none⟩ (.slice a9 n9 c9)):=((H.trans (A.mono (by omega))).setCell (p:=⟨G,k*2,none⟩) (by simp; omega) _).setCell (p:=⟨G,k*2+1,none⟩) (by simp; omega) _;have aH:=Aa (XU (R:=w.heap.size+1+1) T hk ak aY.o bh (by omega) (by exact au) (by omega) n4 (by have:=aF; simp; omega) M (H.trans (A.mono (by omega))) bq);have bs:=A.size;generalize ((C.setCell ⟨G,k*2,none⟩ (.string D)).setCell ⟨G,k*2+1,none⟩ (.slice a9 n9 c9))=w9 at *;have u0:=aS.c0;have u1:=aS.c1;have bt:=aG.c0;have bu:=aG.c1;have rf:=aG.frozen;go_wp2_with fail;refine An (v:=.agg #[.string s,.slice (some (zD G 0)) l.length cap]) (by simp[results,results75,go_sem,bt,bu,Ay,Aw]) rfl ⟨_,rfl,?_,?_⟩
        · refine⟨some (zD G 0),cap,?_,?_⟩
          · rw[al]; simp
          · rw[al]
            exact(aH.o _ (λb hb=>by rw[Aq _ _ _ _ (by simpa using hb),Aq _ _ _ _ (by simpa using hb)])).mono λb hb _=>hb.imp (λh=>⟨aU b h,T b h⟩) id
        · exact(br.setCell (by simp; omega) _).setCell (by simp; omega) _
def Qt (y:Ft):Tm:=fT y.2 y.1.r
def Qu (t:Tm) (d:Dn) (y:Ft):Prop:=2000<Ab [t]-Ab [d.2]+Ab [Qt y]
attribute [local go_sem] G7
theorem XX (s:ByteArray) (aa fa:Option Addr) (n ca fn fc:Nat) (w:World):
  Calls prog 46 #[.agg #[.string s,.slice aa n ca],.slice fa fn fc] w λe w'=>e=.returned (.func (.func 68) #[] #[zC w.heap.size,zC (w.heap.size+1)])/\w'=(w.alloc (.cells #[.string s,.slice aa n ca] 33)).alloc (.cells #[.slice fa fn fc] 22):=by
 have ab:=@hmq prog;go_enter func46,ntmps46;go_wp2_with fail;go_ret;exact⟨rfl,rfl⟩
def Hm (w:World) (os:List Obj):World:=os.foldl (λw o=>w.alloc o) w
theorem Gj:∀(os:List Obj) (w:World),Below w.heap.size w (Hm w os)/\(Hm w os).heap.size=w.heap.size+os.length/\∀(i:Nat) (o:Obj),os[i]? = some o->(Hm w os).heap[w.heap.size+i]? = some o
 | [],w=>⟨Af _ _,rfl,λi o h=>by simp at h⟩
 |o::os,w=>by
  obtain⟨h1,h2,h3⟩:=Gj os (w.alloc o);have e:Hm w (o::os)=Hm (w.alloc o) os:=rfl;rw[e];refine⟨((Af _ _).alloc (Ai _) o).trans (h1.mono (by simp)),by rw[h2]; simp; omega,λi o' hi=>?_⟩;cases i with
  |zero=>simp at hi;subst hi;have:=h1.block w.heap.size (by simp);rw[F9,this];exact World.alloc_heap_new w o
  |succ i=>have:=h3 i o' (by simpa using hi);rw[CW]at this;rw[show w.heap.size+(i+1)=w.heap.size+1+i by omega];exact this
theorem XY:∀(l:List Tm) (hs:List Int) (j st:Nat) (r:List Int) (d:Dn),d∈Ct hs j st r l->∃(k:Nat) (p:List Int) (h:k<l.length),d.1=hs++((j+k:Nat):Int)::p/\AV l[k] p=some d.2:=by
 intro l;induction l using Tm.indL with
 |h0=>intro hs j st r d h; simp[Ct] at h
 |h s l rest aa ab=>
  intro hs j st r d h;rw[Il]at h;rcases Bg.1 h with h|h
  ·split at h
   ·simp at h
   ·unfold AQ at h;rcases Bq.1 h with h|h
    ·subst h;exact⟨0,[],by simp,by simp,by simp[AV]⟩
    ·obtain⟨k,p,hk,a,b⟩:=aa _ _ _ _ _ h;refine⟨0,((0+k:Nat):Int)::p,by simp,by rw[a]; simp,?_⟩;have e:((0+k:Nat):Int).toNat=k:=(by omega);simp only[EI,AV];rw[D7 ⟨by omega,by rw[e]; exact hk⟩];simp only[e];exact b
  ·obtain⟨k,p,hk,a,b⟩:=ab _ _ _ _ _ h;exact⟨k+1,p,by simp; omega,by rw[a,show j+1+k=j+(k+1) by omega],by simpa using b⟩
theorem Qv {hs a:List Int} {t:Tm} {d:Dn} (h:d∈AQ hs a t):∃p,d.1=hs++p/\AV t p=some d.2:=by
 unfold AQ at h;rcases Bq.1 h with h|h
 ·subst h;exact⟨[],by simp,by simp[AV]⟩
 ·obtain⟨k,p,hk,b,c⟩:=XY _ _ _ _ _ _ h;refine⟨((0+k:Nat):Int)::p,b,?_⟩;have e:((0+k:Nat):Int).toNat=k:=by omega
  rw[AV,D7 ⟨by omega,by rw[e]; exact hk⟩];simp only[e];exact c
theorem Qw:∀(l:List Tm) (hs:List Int) (j st:Nat) (r:List Int),(Ct hs j st r l).length<=Ab l:=by
 intro l;induction l using Tm.indL with
 |h0=>intro hs j st r; simp[Ct]
 |h s l rest aa ab=>
  intro hs j st r;rw[Il,Dx];have h2:=ab hs (j+1) st r;have e:Ab ((⟨s,l⟩:Tm)::rest)=1+Ab l+Ab rest:=by simp[Ab]
  rw[e];split
  ·simp; omega
  ·unfold AQ;have h1:=aa (hs++[(j:Int)]) 0 (Cl (if j=st then r else [])) (if j=st then r else []).tail;rw[Bu];have a:(⟨s,l⟩:Tm).args=l:=rfl;rw[a];omega
theorem Ac.set1R {w:World} {A T:Nat} {q v:Value} (h:Ac w A #[q] T):Ac (w.setCell (zD A 0) v) A #[v] T:=by
 unfold Ac at *;simp[World.setCell,Array.getElem?_modify,h]
structure nS (w3:World) (A g n cap T:Nat) (u1 u2:Value) (wF:World):Prop where
 os:wF.os=w3.os
 tape:wF.tape=w3.tape
 output:wF.output=w3.output
 size:wF.heap.size=w3.heap.size
 other:∀b,b≠g->b≠A->wF.heap[b]? = w3.heap[b]?
 box:Ac wF A #[.slice (some (zD g 0)) (n+1) cap] T
 row:wF.heap[g]? = ((w3.setCell ⟨g,n*2,none⟩ u1).setCell ⟨g,n*2+1,none⟩ u2).heap[g]?
theorem DX {w:World} {N e z n:Nat} {v:Value} {xs:List Value} (h:w.ownsRow N e z v n xs):∃a c,v=.slice a n c:=by
 rcases h.2 with ⟨rfl,rfl⟩|⟨g,cap,cur,hv,_⟩
 ·exact⟨none,0,rfl⟩
 ·exact⟨_,_,hv⟩
def XZ (t:Tm) (c:Ch):Tm:=AP (Qt c.2) c.1.1 t
def JA (t:Tm) (X K:Nat->Prop) (A R4 R5 L:Nat) (r rd:Loop) (W0:World):Tk Ch:=λpre s f W=>
 (∀b,K b->b<W0.heap.size/\¬f b)/\W0.heap.size<=W.heap.size/\(∀b,K b->W.heap[b]? = W0.heap[b]?)/\W.heap[L]? = some (.loop (if s=true then r else rd))/\Ac W R4 #[zB] 31/\Ac W R5 #[zA (if s=true then 0 else 8)] 34/\
 (∃(v:Value) (l:List Tm) (xs:List Value) (E:Nat->Prop),(∀b,f b↔b=L∨b=A∨b=R4∨b=R5∨v.ownBlock=some b∨E b)/\(∀b,E b->W0.heap.size<=b/\b<W.heap.size/\v.ownBlock≠some b)/\Ac W A #[v] 31/\W.ownsRow W0.heap.size 33 2 v l.length xs/\BL W (λb=>X b∨E b) l xs/\(s=true->l=pre.map (XZ t)))/\
 (s=true->∀c∈pre,¬Qu t c.1 c.2)/\(s=false->∃c∈pre,Qu t c.1 c.2)
theorem JA.ok {t:Tm} {X K:Nat->Prop} {A R4 R5 L:Nat} {r rd:Loop} {W0:World} (aa:∀b,X b->K b):FT (JA t X K A R4 R5 L r rd W0) K where
 inside:=by
  rintro pre s f W ⟨e,hz,n,i,j,k,⟨v,l,xs,E,c,d,m,ho,o,q⟩,h1,h2⟩ b hb;rcases hb with hb|hb
  ·rcases(c b).1 hb with h|h|h|h|h|h
   ·subst h; exact(DV.1 i).1
   ·subst h; exact m.lt
   ·subst h; exact j.lt
   ·subst h; exact k.lt
   ·exact(ho.lt b h).2
   ·exact(d b h).2.1
  ·have:=(e b hb).1; omega
 apart:=by
  rintro pre s f W ⟨e,hz,n,i,j,k,⟨v,l,xs,E,c,d,m,ho,o,q⟩,h1,h2⟩ b hb;exact(e b hb).2
 abide:=by
  rintro pre s f W W' ⟨e,hz,n,i,j,k,⟨v,l,xs,E,c,d,m,ho,o,q⟩,h1,h2⟩ hs hk;refine⟨e,AY hz hs,λb hb=>(hk b (Ae hb)).trans (n b hb),(hk L (Ad ((c L).2 (Ad rfl)))).trans i,(hk R4 (Ad ((c R4).2 (Ae (Ae (Ad rfl)))))).trans j,(hk R5 (Ad ((c R5).2 (Ae (Ae (Ae (Ad rfl))))))).trans k,⟨v,l,xs,E,c,λb hb=>⟨(d b hb).1,Cn (d b hb).2.1 hs,(d b hb).2.2⟩,(hk A (Ad ((c A).2 (Ae (Ad rfl))))).trans m,DP ho λg u=>hk g (Ad ((c g).2 (Ae (Ae (Ae (Ae (Ad u))))))),o.imp λa l ab=>ab.kept λb hb=>?_,q⟩,h1,h2⟩;rcases hb with hb|hb
  ·exact hk b (Ae (aa b hb))
  ·exact hk b (Ad ((c b).2 (Ae (Ae (Ae (Ae (Ae hb)))))))
theorem I2 {s:ByteArray} {a r:List Tm} (h:Ah (⟨s,a⟩::r)=0):(Al s=true->a=[])/\Ah a=0/\Ah r=0:=by
 rw[Ah]at h;split at h
 ·split at h
  ·cases h
  ·rename_i h1 h2;split at h
   ·rename_i h3;refine⟨λhv=>?_,h3,h⟩;cases a with
    |nil=>rfl
    |cons x y=>simp[hv] at h2
   ·rename_i h3; exact absurd h h3
 ·cases h
def ES (ls:List Bd):Prop:=∀d∈ls,Al d.nm=true
theorem Ld:∀ {ls:List Bd} {s:ByteArray} {x:Tm},As ls s=some x->∃d∈ls,d.nm=s
 | [],s,x,h=>by simp[As] at h
 |d::ls,s,x,h=>by
  unfold As at h;split at h
  ·rename_i h1;exact⟨d,by simp,h1⟩
  ·obtain⟨d',hd,e⟩:=Ld h;exact⟨d',by simp[hd],e⟩
theorem Qx {ls:List Bd} (h:ES ls) (s:ByteArray) (a b:List Tm) (hv:Al s=true->a=[]):fN ls s b=E7 ls s a b:=by
 unfold fN E7;cases hs:Al s with
 |true=>rw[hv hs]; cases As ls s<;>rfl
 |false=>
  cases c:As ls s with
  |none=>rfl
  |some x=>obtain⟨d,hd,e⟩:=Ld c;have:=h d hd;rw[e,hs]at this;cases this
theorem Le {ls:List Bd} (h:ES ls):∀l:List Tm,Ah l=0->fL ls l=Ap ls l
 | [],_=>by simp[fL,Ap]
 | ⟨s,a⟩::r,he=>by
  obtain⟨h1,h2,h3⟩:=I2 he;rw[fL,Ap,Le h a h2,Le h r h3,Qx h s a _ h1]
theorem X2 {ls:List Bd} (h:ES ls) (t:Tm) (ht:AA t=0):fT ls t=Ag ls t:=by
 unfold AA at ht;split at ht
 ·cases ht
 ·obtain⟨s,a⟩:=t;obtain⟨h1,h2,_⟩:=I2 ht;unfold fT Ag;rw[Le h a h2,Qx h s a _ h1]
theorem Qy {p t:Tm} {h h':List Bd} (b:∀c g g',BM p.args c g=some g'->ES g->ES g') (he:A7 p t h=some h') (hv:ES h):ES h':=by
 unfold A7 at he;obtain⟨s,l⟩:=p;simp only at he;cases hs:Al s with
 |true=>
  simp only[hs,if_true] at he;cases a:As h s with
  |none=>
   simp only[a] at he;cases he;intro d hd;rcases Bg.1 hd with hd|hd
   ·exact hv d hd
   ·simp at hd; subst hd; exact hs
  |some x=>
   simp only[a] at he;split at he
   ·cases he; exact hv
   ·cases he
 |false=>
  simp only[hs] at he;split at he
  ·rename_i h0; cases h0
  ·split at he
   ·exact b _ _ _ he hv
   ·cases he
theorem X4:∀(l a:List Tm) (h h':List Bd),BM l a h=some h'->ES h->ES h':=by
 intro l;induction l using Tm.indL with
 |h0=>
  intro a h h' he hv;cases a with
  |nil=>simp[BM] at he; subst he; exact hv
  |cons t a=>first|(simp[BM] at he; done)|(simp[BM] at he; subst he; exact hv)
 |h s l r aa ab=>
  intro a h h' he hv;cases a with
  |nil=>first|(simp[BM] at he; done)|(simp[BM] at he; subst he; exact hv)
  |cons t a=>
   rw[Hf]at he;cases h1:A7 ⟨s,l⟩ t h with
   |none=>simp only[h1] at he; cases he
   |some g=>simp only[h1] at he;exact ab _ _ _ he (Qy (p:=⟨s,l⟩) aa h1 hv)
theorem Qz {p t:Tm} {h':List Bd} (he:A7 p t []=some h'):ES h':=Qy (λa g g' h1 h2=>X4 p.args a g g' h1 h2) he (by intro d hd; simp at hd)
