import Derived.Deep.RegionHeld3
import Derived.Laws.EntriesVeiled
import Derived.Test.YthaililgaompeaaGreatDoorW60
namespace Go.Proofs.YthaililgaompeaaGreatDoor
set_option linter.all false
set_option maxRecDepth 20000
set_option maxHeartbeats 8000000
open Go.RowKit Go.Shelf Go.Proofs.Tryz
attribute [local go_sem] Ho
variable {K X Y c:Nat->Prop} {S:World->Prop} {s:ByteArray} {l m:List Tm} {t x:Tm} {L b k o q r:Nat} {W0 w w':World} {ls:List Bd} {rs:List Pr} {α β:Type}
def MK (x:Dn) (args:Array Value) (W:World) (Z:Nat->Prop):Prop:=∃u v,args=#[u,v]/\PV W Z u x.1/\TV W Z v x.2
theorem Y8 (f:List Int) (v:Value) (w:World) (X:Nat->Prop) (hv:PV w X v f) (h0:∀z∈f.take 1,0<=z):
  Calls prog 89 #[v] w λe w'=>Below w.heap.size w w'/\∃g,e=.returned (.tuple #[zA (Bv f:Int),g])/\PV w' X g f.tail:=by
 obtain⟨a,c,rfl,j,hc⟩:=hv;cases f with
 |nil=>go_enter func89,ntmps89;go_wp2_with fail;refine Aq (v:=.tuple #[zA 0,zB]) (by simp[results,results89,go_sem]) rfl ?_;exact⟨Ag _ _,_,rfl,none,0,rfl,by simp,Ae rfl⟩
 |cons z d=>
  have hz:=h0 z (by simp);have e:(Bv (z::d):Int)=z:=by unfold Bv; simp; omega
  rcases hc with hc|⟨b,o,rfl,Lj,aa⟩
  ·cases hc
  obtain⟨ab,h⟩:=j;simp only[Bg] at ab h;have k:=aa 0 (by simp);simp only[Hp,Gs] at k;have i:=Aa e;by_cases h1:c=1
  ·have h2:d=[]:=Fj.1 (by omega);subst h1; subst h2;clear aa h0 e;go_enter func89,ntmps89;go_wp2_with fail;go_region_held3 (λw'=>w'.cell? (zD b o)=some (zA z)) (go_keep) (fail);go_wp2_with fail;refine Aq (v:=.tuple #[zA z,.slice (some (zD b o)) 0 0]) (by simp[results,results89,go_sem]) rfl ?_;exact⟨(Ag _ _).drew,.slice (some (zD b o)) 0 0,by rw[i.o],some (zD b o),0,rfl,by simp,Ae rfl⟩
  ·have l:Hid (PV w X (.slice (some ⟨b,o+1,none⟩) d.length (c-1)) d):=PV.tail ⟨ab,h⟩ Lj aa;simp only[Bg] at *;have b1:¬((d.length:Int)+1<1):=(by omega);have b2:¬((c:Int)<(d.length:Int)+1):=(by omega);clear aa h0 e;go_enter func89,ntmps89;go_wp2_with fail;go_region_held3 (λw'=>w'.cell? (zD b o)=some (zA z)) (go_keep) (fail);go_wp2_with fail;refine Aq (v:=.tuple #[zA z,.slice (some ⟨b,o+1,none⟩) d.length (c-1)]) (by simp[results,results89,go_sem]) rfl ?_;exact⟨(Ag _ _).drew,_,by rw[i.o],l.o.later ((Ag _ _).drew)⟩
def Za {J:Tk Dn} (w0:World) (N:Nat) (u:Value) (hs:List Int) (f:Nat->Prop) (pre:List Dn) (t:Tm) (st:Nat) (rl:List Int) (rv:Value) (l:List Tm) (rest i:Value) (wr:World):Prop:=
 ∃(k:Nat) (f':Nat->Prop),st<=k/\k<=l.length/\i=zA k/\rest=(if k=st then rv else zB)/\J (pre++(hs,t)::Cg hs 0 st rl (l.take k)) true f' wr/\Ak (λb=>f b∨u.ownBlock=some b) w0 wr/\(∀b,f' b->f b∨w0.heap.size<=b)/\wr.ownsRow N 3 1 u hs.length (hs.map λz=>zA z)
def Zb (J:Tk Dn) (N:Nat) (S:World->Prop) (t:Tm) (u:Value) (hs fs:List Int) (pre:List Dn) (f:Nat->Prop) (w:World) (e:Ending) (w':World):Prop:=
 ∃b,e=.returned (.bool b)/\B9 J (BB hs fs t) pre f (λb=>u.ownBlock=some b) w b w'/\(b=true->w'.ownsRow N 3 1 u hs.length (hs.map λz=>zA z))/\JV b (S w')
theorem Zc {J:Tk Dn} {all:List Dn} (T:EQ J K) (N lp:Nat) (hK:∀b,K b->b<N) (RH:Hu lp MK J all S) (t:Tm):∀(v u fv:Value) (hs d:List Int) (pre:List Dn) (f:Nat->Prop) (w:World) (X:Nat->Prop),TV w X v t->PV w X fv d->(AA t d).isSome=true->(∀b,X b->b<N/\¬f b)->N<=w.heap.size->w.ownsRow N 3 1 u hs.length (hs.map λz=>zA z)->(∀k,u.ownBlock=some k->¬f k)->J pre true f w->hs.length+Ab [t]<=900000->(pre++BB hs d t) <+: all->
  Calls prog 61 #[v,u,fv,.func (.yield lp) #[] #[]] w λe w'=>Zb J N S t u hs d pre f w e w':=by
 induction t using Tm.ind with
 |h s l ih=>
  intro v u fv hs d pre f w X hv bd ab U hN V aF hj b7 bf;have bg:=Aa bf;clear bf;obtain⟨a,c,rfl,aG⟩:=hv;have IH:=Aa ih;clear ih;have W:=aG.1;have hz:Ab [(⟨s,l⟩:Tm)]=1+Ab l:=by simp[Ab]
  rw[hz]at b7;clear hz;have aH:Below w.heap.size w (w.alloc (zh #[.string s,.slice a l.length c] 31)):=(Ag _ _).alloc (Al _) _;have aI:Ak (λ_=>False) w (w.alloc (zh #[.string s,.slice a l.length c] 31)):=(Ak.refl _ _).alloc _;have aJ:=Aa aI;have b8:=Aa (T.exq hj aI (λ_ _ h=>h));have b9:=Aa (T.inside hj);have ad:((w.alloc (zh #[.string s,.slice a l.length c] 31))).ownsRow N 3 1 u hs.length (hs.map λz=>zA z):=Dc V λg m=>Ay _ _ _ (V.lt g m).2;have I:=Aa V.lt;have Z:Hid (∀b,X b->some b≠u.ownBlock):=λb hb e=>by have:=(I.o b e.symm).1; have:=U b hb; omega
  have aK:Hid (u.ownBlock≠some w.heap.size):=λe=>by have:=(I.o _ e).2; omega
  have aL:Hid (¬f w.heap.size):=λe=>by have:=b9.o _ (Ae e); omega
  have C:Hid (((w.alloc (zh #[.string s,.slice a l.length c] 31))).heap.size=w.heap.size+1):=by simp[Hid]
  have aM:=Aa (aG.later aH);have bA:=Aa (bd.later aH);have D:=Aa U;have HK:=Aa hK;clear hK;have bh:=Aa aF;have aN:∀z∈d.take 1,0<=z:=by
   cases d with
   |nil=>simp
   |cons z zs=>intro y hy; simp at hy; subst hy; rw[AA] at ab; split at ab; (next h=>exact h.1); (next=>cases ab)
  have aO:Bv d<=l.length:=by
   cases d with
   |nil=>simp[Bv]
   |cons z zs=>rw[AA] at ab; split at ab; (next h=>have:=h.2; simp[Bv]; simp at this; omega); (next=>cases ab)
  have bB:Hid (∀k (h:k<l.length),Bv d<=k->(AA l[k] (if k=Bv d then d.tail else [])).isSome=true):=λk h hk=>by
   by_cases e:k=Bv d
   ·rw[Ao e];cases d with
    |nil=>rfl
    |cons z zs=>
     simp only[AA] at ab;split at ab;next h2=>
      have e2:z.toNat=k:=by rw[e]; simp[Bv]
      simp only[e2] at ab;exact ab
     next=>simp at ab
   ·rw[Ah e]; rfl
  have aC:=Aa T;have bC:hs.length<=1000000:=by omega
  have bD:=RH 0 pre (hs,⟨s,l⟩) #[u,.agg #[.string s,.slice a l.length c]] (λb=>(X b∨u.ownBlock=some b)/\b<((w.alloc (zh #[.string s,.slice a l.length c] 31))).heap.size) f (w.alloc (zh #[.string s,.slice a l.length c] 31)) (List.IsPrefix.trans ⟨Cg hs 0 (Bv d) d.tail l,by simp[BB]⟩ bg.o) b8.o ⟨u,_,rfl,(X2 ad).mono λb hb W=>⟨Ad hb.2,W⟩,a,c,rfl,aM.o.mono λb hb W=>⟨Ae hb,W⟩⟩ (λb hb=>⟨hb.2,by
   rcases hb.1 with h|h
   ·exact(U b h).2
   ·exact aF b h⟩)
  obtain⟨ca,bj,bE,bk,hy,hR⟩:=bD;have HR:=Aa hR;have cb:=Aa RH;have bF:=Aa ad;clear aG bd U aH aI hR RH V ad aF hj ab T;have cc:Fence.wide.fn 89:=trivial;go_enter func61,ntmps61;refine(wpIn_wide (n:=1)).1 ?_;gi_wp2
  refine HR.o.mono ?_;rintro e L ⟨s1,rfl,f1,aP,M,aj,bl⟩;have bG:=Aa bl;clear bl;clear hy;have K1:L.cell? (zD w.heap.size 1)=some (.slice a l.length c):=by
   have h1:=M.block w.heap.size (by simp) aL.o;rw[Fk]at h1;simp[World.cell?,h1]
  cases s1 with
  |false=>
   gi_wp2
   go_ret;refine⟨false,rfl,?_,by simp,λ_=>bG.o rfl⟩;exact B9.from (B9.stop (a1:=([(hs,(⟨s,l⟩:Tm))]:List Dn)) (B9.one aP M aj)) (aJ.o.mono λ_ h _=>h.elim) (λb hb=>Ae hb)
  |true=>
   have bm:=Aa aP;have aQ:=Aa M;have aR:=Aa aj;have bn:PV L X fv d:=((bA.o.mono (Y:=λb=>X b/\b<(w.alloc (zh #[.string s,.slice a l.length c] 31)).heap.size) λb h1 h2=>⟨h1,h2⟩).kept (w':=L) λb hb=>aQ.o.block b hb.2 (D.o b hb.1).2).mono λb hb _=>hb.1;have bo:Hid (L.ownsRow N 3 1 u hs.length (hs.map λz=>zA z)):=Dc bF.o λg m=>aQ.o.block g (by have:=(I.o g m).2; have:=C.o; omega) (bh.o g m);have bH:w.heap.size<L.heap.size:=by have:=M.size; have:=C.o; omega
   clear aP M aj;gi_wp2_with (gi_at_call 89; refine(CP.2 (Y8 d fv _ X bn aN)).mono ?_; rintro e q ⟨hb2,rv,rfl,bp⟩; have K2:=(hb2.cell (p:=(zD w.heap.size 1)) bH).trans K1)
   have bI:=Aa bp;have F:=Aa hb2;clear bn bp hb2;refine wpIn_wide.2 ?_;go_loopw [10,11] (λq' i wr=>Za (J:=J) (w.alloc (zh #[.string s,.slice a l.length c] 31)) N u hs f pre ⟨s,l⟩ (Bv d) d.tail rv l q' i wr/\PV wr X (if (intOf i).toNat=Bv d then rv else zB) (if (intOf i).toNat=Bv d then d.tail else [])) (λq' i wr=>l.length-(intOf i).toNat);case atStart=>
    refine⟨⟨Bv d,f1,Al _,aO,rfl,by rw[Ao rfl],?_,(aQ.o.mono λb hb _=>Ae hb).trans (Ak.ofBelow F.o),aR.o,Dc bo.o λg m=>F.o.block g (bo.o.lt g m).2⟩,by simpa [intOf] using bI.o⟩;rw[Sc hs (Bv d) d.tail (l.take (Bv d)) 0 (by simp; omega)];exact aC.o.abide bm.o F.o.size λb hb=>F.o.block b (aC.o.inside bm.o b hb)
   case round=>
    obtain⟨⟨k,f2,bq,hk,rfl,rfl,G,r,aw,H⟩,ak⟩:=hrel;have ek:(intOf (zA k)).toNat=k:=(by simp[intOf]);rw[ek]at ak;clear ek;have O:=Aa G;have aD:=Aa r;have aa:=Aa aw;have aS:=Aa H;have aT:=Aa ak;have cd:w.heap.size+1<=wr.heap.size:=by have:=r.size; have:=C.o; omega
    have bJ:Hid (∀b,X b->¬(f b∨u.ownBlock=some b)):=λb hb h=>by
     rcases h with h|h
     ·exact(D.o b hb).2 h
     ·exact Z.o b hb h.symm
    have br:Hid (∀b,X b->b<N/\¬f2 b):=λb hb=>⟨(D.o b hb).1,λh=>by
     rcases aa.o b h with h|h
     ·exact(D.o b hb).2 h
     ·have:=(D.o b hb).1; have:=C.o; omega⟩
    have ay:Hid (∀b,f2 b∨K b->b<wr.heap.size):=aC.o.inside G;have al:Hid (∀g,u.ownBlock=some g->¬f2 g):=λg m h=>by
     rcases aa.o g h with h|h
     ·exact bh.o g m h
     ·have:=(I.o g m).2; have:=C.o; omega
    have F:Hid (¬f2 w.heap.size):=λh=>by
     rcases aa.o _ h with h|h
     ·exact aL.o h
     ·have:=C.o; omega
    have K2:wr.cell? (zD w.heap.size 1)=some (.slice a l.length c):=by
     have h1:=r.block w.heap.size (by simp) (λh=>by
      rcases h with h|h
      ·exact aL.o h
      ·exact aK.o h)
     rw[Fk]at h1;simp[World.cell?,h1]
    clear G r aw H ak;have az:BB hs d ⟨s,l⟩=(hs,⟨s,l⟩)::Cg hs 0 (Bv d) d.tail l:=rfl;have an:=Aa az;clear az;by_cases B:k<l.length
    ·have aU:=Sd l k B;obtain⟨b,o,a',c',rfl,d0,d1,hx⟩:=(aM.o.exq aD.o bJ.o).get (Ag wr.heap.size wr) (λ_ _ h=>h) k B;have aE:X b:=by
      obtain⟨_,h1⟩:=aM.o;rcases h1 with h1|⟨b',o',e',h1⟩
      ·rw[h1]at B; simp at B
      ·cases e'; exact(Ip _ _ _ h1 k B).1
     have bK:=Aa hx;have HT:=Aa (YX hs (Bv d) d.tail l k B bq);have bL:Hid ((hs++[(k:Int)]).length+Ab [l[k]]<=900000):=Aa (by simp;omega);have aV:=Aa (bB.o k B bq);have a6:Hid (Cg hs 0 (Bv d) d.tail l=Cg hs 0 (Bv d) d.tail (l.take k)++(BB (hs++[(k:Int)]) (if k=Bv d then d.tail else []) l[k]++Cg hs (0+(l.take (k+1)).length) (Bv d) d.tail (l.drop (k+1)))):=Aa (by rw[<-DN,<-HT.o,<-Sb,DM]);have aW:Hid (((pre++(hs,⟨s,l⟩)::Cg hs 0 (Bv d) d.tail (l.take k))++BB (hs++[(k:Int)]) (if k=Bv d then d.tail else []) l[k]) <+: all):=List.IsPrefix.trans ⟨Cg hs (0+(l.take (k+1)).length) (Bv d) d.tail (l.drop (k+1)),by rw[an.o,a6.o]; simp⟩ bg.o;generalize bM:(if k=Bv d then rv else zB)=qv at *;clear bM;generalize (if k=Bv d then d.tail else [])=ql at *;clear hx aU;have E:=Aa (And.intro K2 (And.intro d0 d1));go_wp2_with fail;have aX:Below wr.heap.size wr (wr.alloc (zh #[zA k] 3)).drew:=((Ag _ _).alloc (Al _) _).drew;have bN:=Aa aX;have bs:Hid (((wr.alloc (zh #[zA k] 3)).drew).ownsRow N 3 1 u hs.length (hs.map λz=>zA z)):=Dc aS.o λg m=>aX.block g (aS.o.lt g m).2;have bO:Hid (N<=((wr.alloc (zh #[zA k] 3)).drew).heap.size):=Aa (by simp;omega);have bP:Hid (((wr.alloc (zh #[zA k] 3)).drew).heap[wr.heap.size]? = some (.cells #[zA k] 3 (0,0))):=Fk wr (.cells #[zA k] 3);have bQ:Hid (∀u2 q,((wr.alloc (zh #[zA k] 3)).drew).grownBy q u.ownBlock->Iy (wr.alloc (zh #[zA k] 3)).drew q u u2 hs.length->(q.cell? (zD w.heap.size 1)=some (.slice (some (zD b o)) l.length c)/\q.cell? ⟨b,o+k*2,none⟩=some (.string l[k].name)/\q.cell? ⟨b,o+k*2+1,none⟩=some (.slice a' l[k].args.length c'))/\(∀b,f2 b∨K b->q.heap[b]? = wr.heap[b]?)/\(∀b,X b->q.heap[b]? = wr.heap[b]?)/\wr.heap.size<q.heap.size/\(∀g,u2.ownBlock=some g->¬f2 g)/\(∀g,u2.ownBlock=some g->u.ownBlock=some g∨wr.heap.size<=g)/\Ak (λb=>u.ownBlock=some b) wr q/\
       ∀x,Ak (λb=>f2 b∨u2.ownBlock=some b) q x->x.cell? (zD w.heap.size 1)=some (.slice (some (zD b o)) l.length c)/\x.cell? ⟨b,o+k*2,none⟩=some (.string l[k].name)/\x.cell? ⟨b,o+k*2+1,none⟩=some (.slice a' l[k].args.length c')):=λu2 q A r=>by
      have cf:=D.o b aE;have bR:=A.size;simp at bR;have kp:∀j,j<wr.heap.size->u.ownBlock≠some j->q.heap[j]? = wr.heap[j]? := λj hj P=>(A.block j (by simp; omega) (λe=>P e.symm)).trans (bN.o.block j hj);have hE:∀g,u2.ownBlock=some g->u.ownBlock=some g∨wr.heap.size<=g:=λg m=>by
       rcases r with ⟨g2,cap,e3,e4⟩|⟨hn,_⟩
       ·left; rw[e4] at m; rw[e3]; exact m
       ·right; have:=hn g m; simp at this; omega
      have e0:=kp w.heap.size (by omega) aK.o;have R:=kp b (by omega) (λe=>Z.o b aE e.symm);refine⟨⟨(Ce e0).trans E.o.1,(Ce R).trans E.o.2.1,(Ce R).trans E.o.2.2⟩,λj hj=>kp j (ay.o j hj) (λe=>by
       rcases hj with hj|hj
       ·exact al.o j e hj
       ·have:=HK.o j hj; have:=(I.o j e).1; omega),λj hj=>kp j (by have:=D.o j hj; omega) (λe=>Z.o j hj e.symm),by omega,λg m h=>?_,hE,⟨A.os,A.tape,A.output,by omega,λj hj P=>kp j hj P⟩,λx hf=>?_⟩
      ·rcases hE g m with e|e
       ·exact al.o g e h
       ·have:=ay.o g (Ae h); omega
      ·have f0 : x.heap[w.heap.size]? = wr.heap[w.heap.size]? := (hf.block _ (by omega) (λh => by
        rcases h with h|h
        ·exact F.o h
        ·rcases hE _ h with h|h
         ·exact aK.o h
         ·omega)).trans e0
       have f1 : x.heap[b]? = wr.heap[b]? := (hf.block _ (by omega) (λh => by
        rcases h with h|h
        ·exact(br.o b aE).2 h
        ·rcases hE _ h with h|h
         ·exact Z.o b aE h.symm
         ·omega)).trans R
       exact⟨(Ce f0).trans E.o.1,(Ce f1).trans E.o.2.1,(Ce f1).trans E.o.2.2⟩
     clear aX;go_region_held3 (λw'=>w'.cell? (zD w.heap.size 1)=some (.slice (some (zD b o)) l.length c)/\w'.cell? ⟨b,o+k*2,none⟩=some (.string l[k].name)/\w'.cell? ⟨b,o+k*2+1,none⟩=some (.slice a' l[k].args.length c')) (first|exact E.o|exact bt|exact bu|go_keep)
      (first
       | (refine Y5 (N:=N) (hs:=hs) (u:=u) rfl _ _ rfl rfl rfl (k:Int) _ rfl bs.o bO.o bP.o bC ?_; intro u2 q H A r; obtain⟨bu,kf,kX,cg,bw,a7,bx,bz⟩:=bQ.o u2 q A r; have bS:=Aa H; have bT:=Aa A; have aY:=Aa r; have b0:=Aa bx; have b1:=Aa a7; have b2:=bK.o.kept kX; have b3:=aT.o.kept kX; have G:=aC.o.abide O.o (by omega) kf)
       | (go_at_call 61; refine(IH.o _ (AM B) _ _ _ _ _ _ f2 _ X b2 b3 aV.o br.o (by omega) H bw G bL.o aW.o).mono ?_; rintro e x ⟨s5,rfl,aZ,b4,a8⟩; have ba:=Aa a8; clear a8; have bb:=Aa aZ; have bt:=bz x aZ.exq; have bU:=Aa b4; clear aZ b4))
     clear bt b2 b3 bu H A r kf kX bw a7 bx G bz;cases s5 with
     |false=>go_wp2_with fail;go_ret;refine⟨false,rfl,?_,by simp,λ_=>ba.o rfl⟩;rw[an.o,a6.o,<-Bj];refine B9.from (B9.trans O.o aD.o aa.o (B9.stop (B9.from (g':=λb=>u.ownBlock=some b) bb.o b0.o b1.o)) (λb hb=>Ae hb)) (aJ.o.mono λ_ h _=>h.elim) (λb hb=>Ae hb)
     |true=>
      have bV:=B9.end_true (B9.trans O.o aD.o aa.o (B9.from (g':=λb=>u.ownBlock=some b) bb.o b0.o b1.o) (λb hb=>Ae hb));obtain⟨f5,b5,b6,aA⟩:=bV;have bW:=Aa b5;have bX:=Aa b6;have bc:=Aa aA;clear b5 b6 aA;have bY:Hid (x.ownsRow N 3 1 u hs.length (hs.map λz=>zA z)):=YZ bs.o bT.o aY.o (bU.o rfl) bb.o.exq (λg m P h=>by
       rcases h with h|h
       ·exact al.o g m h
       ·exact P h)
      go_wp2_with fail;go_roundw
      case rel=>
       refine⟨⟨k+1,f5,by omega,by omega,by go_num,by rw[Ah (by omega)],?_,bX.o,bc.o,bY.o⟩,?_⟩
       ·rw[HT.o];simpa using bW.o
       ·have R:(intOf (zA ((k:Int)+1))).toNat=k+1:=(by simp[intOf]);have e2:¬(k+1=Bv d):=(by omega);simp only[R,e2,if_false];exact⟨none,0,rfl,by simp,Ae rfl⟩
      case measure=>simp[intOf]; omega
    ·have bZ:l.take k=l:=BH (by omega);have HF:Hid (B9 J (BB hs d ⟨s,l⟩) pre f (λb=>u.ownBlock=some b) w true wr):=by
      rw[bZ]at O;exact ⟨_, f2, Al _, λ_ => rfl, by rw [an.o, D8]; exact O.o, (aJ.o.mono λ_ h _ => h.elim).trans aD.o, λb hb => by
       rcases aa.o b hb with h|h
       ·exact Ae h
       ·right; have:=C.o; omega⟩
     generalize (if k=Bv d then rv else zB)=qv at *;go_wp2_with fail;gi_wp2
     go_ret;exact⟨true,rfl,HF.o,(λ_=>aS.o),λh=>by cases h⟩
open Go.RowKit
def Fr:List Tm->List Tm->Bool
 | [],_=>true
 | ⟨s,a⟩::r,ts=>match ts with
  | []=>false
  |t::ts'=>(Aj s||((s.toList==t.name.toList)&&(a.length==t.args.length)&&Fr a t.args))&&Fr r ts'
def Dx (p t:Tm):Bool:=Aj p.name||((p.name.toList==t.name.toList)&&(p.args.length==t.args.length)&&Fr p.args t.args)
theorem OU (p t:Tm) (r b:List Tm):Fr (p::r) (t::b)=(Dx p t&&Fr r b):=by obtain⟨s,a⟩:=p; simp only[Fr,Dx]
theorem Ld {s2:ByteArray} (hv:Aj s=false):Dx ⟨s,l⟩ ⟨s2,m⟩=((s.toList==s2.toList)&&(l.length==m.length)&&Fr l m):=by simp[Dx,hv]
theorem Sf (hv:Aj s=true):Dx ⟨s,l⟩ t=true:=by simp[Dx,hv]
theorem ML:∀(l m:List Tm),l.length=m.length->(Fr l m=true↔∀k (h:k<l.length) (h2:k<m.length),Dx l[k] m[k]=true)
 | [],m,_=>by simp[Fr]
 |_::_,[],e=>by simp at e
 |p::r,t::a,e=>by
  have b:=ML r a (by simpa using e);rw[OU,FZ,b];refine⟨λh k h1 h2=>?_,λh=>⟨h 0 (by simp) (by simp),λk h1 h2=>h (k+1) (by simpa using h1) (by simpa using h2)⟩⟩;cases k with
  |zero=>exact h.1
  |succ k=>exact h.2 k (by simpa using h1) (by simpa using h2)
theorem Zd (aa:l.length=m.length) (h:k<l.length) (h2:k<m.length) (h0:Dx l[k] m[k]=false):Fr l m=false:=by
 cases hs:Fr l m with
 |false=>rfl
 |true=>rw[(ML l m aa).1 hs k h h2] at h0; cases h0
theorem Ze:∀(l m:List Tm) (h:List Bd),l.length=m.length->Fr l m=false->Bx l m h=none:=by
 intro l;induction l using Tm.indL with
 |h0=>intro m h _ hs; simp[Fr] at hs
 |h s a r ab d=>
  intro m h aa hs;cases m with
  |nil=>simp at aa
  |cons t f=>
   rw[OU]at hs;rw[F7];cases h1:Dx ⟨s,a⟩ t with
   |true=>
    rw[h1,Bool.true_and]at hs;cases AX ⟨s,a⟩ t h with
    |none=>rfl
    |some h'=>exact d f h' (by simpa using aa) hs
   |false=>
    obtain⟨s2,m2⟩:=t;have hv:Aj s=false:=by
     cases hv:Aj s with
     |false=>rfl
     |true=>rw[Sf hv] at h1; cases h1
    rw[Ld hv]at h1;have e:AX ⟨s,a⟩ ⟨s2,m2⟩ h=none:=by
     cases b:((s.toList==s2.toList)&&(a.length==m2.length)) with
     |false=>exact Rc hv b
     |true=>rw[b,Bool.true_and]at h1;rw[FZ]at b;have c:a.length=m2.length:=(by simpa using b.2);rw[Mu hv b.1 c];exact ab m2 h c h1
    rw[e]
theorem Zf {p:Tm} (h:List Bd) (hs:Dx p t=false):AX p t h=none:=by
 have:=Ze [p] [t] h rfl (by rw[OU,hs]; rfl);rw[F7]at this;cases hm:AX p t h with
 |none=>rfl
 |some h'=>rw[hm] at this; simp[Bx] at this
theorem Sg (t:Tm):∀(x:Tm) (v u:Value) (w:World) (X Y:Nat->Prop),TV w X v t->TV w Y u x->
  Calls prog 31 #[v,u] w λe w'=>e=.returned (.bool (AP t x))/\Below w.heap.size w w':=by
 induction t using Tm.ind with
 |h s l G=>
  intro x v u w X Y hv hu;obtain⟨s2,m⟩:=x;have P:=Aa G;clear G;obtain⟨a,c,rfl,hs⟩:=hv;obtain⟨a2,c2,rfl,H⟩:=hu;have hl:=hs.1;have ar:=H.1;(try dsimp only[zF]);(try dsimp only[zG]);(try dsimp only[zE]);(try dsimp only);cases B:(s.toList==s2.toList) with
  |false=>have d:Hid (false=AP ⟨s,l⟩ ⟨s2,m⟩):=Aa (by unfold AP;rw[B];rfl);go_enter func31,ntmps31;go_wp2_with fail;go_ret;exact⟨Ck d.o,EJ _ _⟩
  |true=>
   by_cases hm:l.length=m.length
   ·have d:Hid (Dw l m=AP ⟨s,l⟩ ⟨s2,m⟩):=Aa (by unfold AP;simp[B,hm]);have j:=Aa hm;rw[<-hm];clear hm;go_enter func31,ntmps31;go_wp2_with fail;go_loopw [23] (λi wr=>QX w l m a a2 c c2 i wr) (λi wr=>l.length-(intOf i).toNat);case atStart=>exact⟨0,Be _,rfl,by simp[Dw],EJ _ _,by simp,by simp,by simp⟩
    case round=>
     obtain⟨k,hk,rfl,hq,hb,R,T,au⟩:=hrel;have I:=Aa hq;clear hq;by_cases q:k<l.length
     ·obtain⟨b,o,a',c',rfl,d0,d1,hx⟩:=hs.get hb (λ_ _ h=>h) k q;obtain⟨f,g,C,D,rfl,U,V,J⟩:=H.get hb (λ_ _ h=>h) k (by have:=j.o; omega);have W:k<m.length:=by have:=j.o; omega
      have L:=Aa hx;have M:=Aa J;have N:=Aa hb;have r:=Aa (And.intro R (And.intro T (And.intro d0 (And.intro d1 (And.intro U V)))));have A:=Aa (λ(w':World)=>P.o l[k] (AM q) m[k] (.agg (zF l[k] a' c')) (.agg (zF m[k] C D)) w' X Y);have O:=Aa (Og q W);have Z:=Aa (QW q j.o);clear hx J hb;generalize l[k]=y at *;generalize m[k]=z at *;go_wp2_with fail;cases E:AP y z with
      |true=>
       rw[E]at A O;go_region_held3 (λw'=>w'.cell? (zD w.heap.size 1)=some (.slice (some (zD b o)) l.length c)/\w'.cell? (zD (w.heap.size+1) 1)=some (.slice (some (zD f g)) l.length c2)/\w'.cell? ⟨b,o+k*2,none⟩=some (.string y.name)/\w'.cell? ⟨b,o+k*2+1,none⟩=some (.slice a' y.args.length c')/\w'.cell? ⟨f,g+k*2,none⟩=some (.string z.name)/\w'.cell? ⟨f,g+k*2+1,none⟩=some (.slice C z.args.length D)) (first|exact r.o|exact ab|go_keep)
        ((go_at_call 31; refine(A.o _ (by exact L.o.later (below_drewN (Ag _ _) 1)) (by exact M.o.later (below_drewN (Ag _ _) 1))).mono ?_; rintro e w1 ⟨rfl,aa⟩; have ab:=Ml (n:=1) aa r.o))
       go_wp2_with fail;go_roundw
       case rel=>exact⟨k+1,by omega,by go_num,by rw[O.o,I.o]; rfl,(N.o.trans (below_drewN (Ag _ _) 1)).trans (aa.mono (by simp; omega)),ab.1,ab.2.1,by have:=aa.size; simp at this; omega⟩
       case measure=>simp[intOf]; omega
      |false=>
       have F:Hid (false=AP ⟨s,l⟩ ⟨s2,m⟩):=Aa (by rw[<-d.o,Z.o E]);rw[E]at A;go_region_held3 (λw'=>w'.cell? (zD w.heap.size 1)=some (.slice (some (zD b o)) l.length c)/\w'.cell? (zD (w.heap.size+1) 1)=some (.slice (some (zD f g)) l.length c2)/\w'.cell? ⟨b,o+k*2,none⟩=some (.string y.name)/\w'.cell? ⟨b,o+k*2+1,none⟩=some (.slice a' y.args.length c')/\w'.cell? ⟨f,g+k*2,none⟩=some (.string z.name)/\w'.cell? ⟨f,g+k*2+1,none⟩=some (.slice C z.args.length D)) (first|exact r.o|exact ab|go_keep)
        ((go_at_call 31; refine(A.o _ (by exact L.o.later (below_drewN (Ag _ _) 1)) (by exact M.o.later (below_drewN (Ag _ _) 1))).mono ?_; rintro e w1 ⟨rfl,aa⟩; have ab:=Ml (n:=1) aa r.o))
       go_wp2_with fail;go_ret;exact⟨Ck F.o,(N.o.trans (below_drewN (Ag _ _) 1)).trans (aa.mono (by simp; omega))⟩
     ·have F:Hid (true=AP ⟨s,l⟩ ⟨s2,m⟩):=Aa (by rw[<-d.o,<-I.o,BH (by omega),BH (by have:=j.o; omega)]);go_wp2_with fail;go_ret;exact⟨Ck F.o,hb⟩
   ·have d:Hid (false=AP ⟨s,l⟩ ⟨s2,m⟩):=Aa (by unfold AP;simp[B,hm]);have av:((l.length:Int)==(m.length:Int))=false:=FY.2 (by omega);clear hm;go_enter func31,ntmps31;go_wp2_with fail;go_ret;exact⟨Ck d.o,EJ _ _⟩
def F9 (w:World) (q:Nat) (Y:Nat->Prop) (Z:List Bc):Prop:=AO w q (Z.map Hq)/\∀x∈Z,Sl w Y x.2.1 x.1.t.args
def Zg (w:World) (q:Nat) (Y:Nat->Prop) (r:Option (List Bd)) (e:Ending) (w':World):Prop:=
 w.grownBy w' (some q)/\((r=none/\e=.returned (.bool false))∨∃(h':List Bd) (Z':List Bc),r=some h'/\e=.returned (.bool true)/\Z'.map (·.1)=h'/\F9 w' q Y Z')
theorem F9.kept {Z:List Bc} (h:F9 w q Y Z) (a:∀b,Y b->b<w.heap.size) (hk:∀b,b<w.heap.size->w'.heap[b]? = w.heap[b]?):F9 w' q Y Z:=
 ⟨h.1.kept (hk q h.1.lt),λx hx=>(h.2 x hx).kept λb hb=>hk b (a b hb)⟩
theorem F9.below {Z:List Bc} (h:F9 w q Y Z) (a:∀b,Y b->b<w.heap.size) (hb:Below w.heap.size w w'):F9 w' q Y Z:=h.kept a λb aa=>hb.block b aa
theorem Sh {Z:List Bc} {n:ByteArray}:(As (Z.map (·.1)) n=none->AG (Z.map Hq) n=none)/\(∀t,As (Z.map (·.1)) n=some t->∃x∈Z,x.1.t=t/\AG (Z.map Hq) n=some (.agg #[.string t.name,.slice x.2.1 t.args.length x.2.2])):=by
 induction Z with
 |nil=>exact⟨λ_=>rfl,λt h=>by simp[As] at h⟩
 |cons y r b=>
  simp only[Bo];by_cases a:y.1.nm=n
  ·refine⟨λh=>by simp[As,a] at h,λt h=>?_⟩;rw[As,Ao a]at h;cases h;exact⟨y,by simp,rfl,by simp[AG,Hq,a]⟩
  ·refine⟨λh=>?_,λt h=>?_⟩
   ·rw[As,Ah a]at h;rw[AG,Ah (by simpa [Hq] using a)];exact b.1 h
   ·rw[As,Ah a]at h;obtain⟨x,hx,h1,h2⟩:=b.2 t h;exact⟨x,by simp[hx],h1,by rw[AG,Ah (by simpa [Hq] using a)]; exact h2⟩
def Zh (w2:World) (q:Nat) (Y:Nat->Prop) (l m:List Tm) (h:List Bd) (i:Value) (wr:World):Prop:=
 ∃(k:Nat) (Z':List Bc),k<=l.length/\i=zA k/\Bx (l.take k) (m.take k) h=some (Z'.map (·.1))/\F9 wr q Y Z'/\w2.grownBy wr (some q)
theorem OV {aa:World} {row:Option Nat} (h:w.grownBy w' row) (hb:Below w'.heap.size w' aa):w.grownBy aa row:=
 h.andThen (row':=none) ⟨hb.os,hb.tape,hb.output,hb.size,λj hj _=>hb.block j hj⟩ (by simp)
theorem Zi (S F q:Nat) (Y:Nat->Prop) (p:Tm):∀(t:Tm) (Z:List Bc) (pv tv:Value) (w:World),TV w Y pv p->TV w Y tv t->Ac w S #[.map (some q)] 69->Ac w F #[.func (.func 113) #[] #[zC S,zC F]] 41->F9 w q Y Z->(∀b,Y b->b<w.heap.size/\b≠q)->Dx p t=true->
  Calls prog 113 #[pv,tv,zC S,zC F] w λe w'=>Zg w q Y (AX p t (Z.map (·.1))) e w':=by
 induction p using Tm.ind with
 |h s l ih=>
  intro t Z pv tv w hp ht B hF I hY J;obtain⟨s2,m⟩:=t;obtain⟨a,c,rfl,hs⟩:=hp;obtain⟨a2,c2,rfl,aw⟩:=ht;have IH:=Aa ih;have HS:=Aa hs;have ax:=Aa aw;have ay:=Aa B;have aZ:=Aa hF;have HM:=Aa I;have f:=Aa hY;have hl:=hs.1;have ba:=aw.1;have b4:=I.1.lt;have bb:S≠q:=λe=>by
   obtain⟨es,bc,h1,_⟩:=I.1;subst e;unfold Ac at B;rw[h1]at B; cases B
  have aC:F≠q:=λe=>by
   obtain⟨es,bc,h1,_⟩:=I.1;subst e;unfold Ac at hF;rw[h1]at hF; cases hF
  have az:=B.lt;have bd:=hF.lt;clear ih hs aw B hF I hY;(try dsimp only[zF]);(try dsimp only[zG]);(try dsimp only[zE]);(try dsimp only);have n:Hid (Below w.heap.size w ((w.alloc (zh #[.string s,.slice a l.length c] 31)).alloc (zh #[.string s2,.slice a2 m.length c2] 31))):=EJ _ _;have V:=Aa ((Ac.new w #[.string s,.slice a l.length c] 31).alloc (zh #[.string s2,.slice a2 m.length c2] 31));have u:Hid (Ac ((w.alloc (zh #[.string s,.slice a l.length c] 31)).alloc (zh #[.string s2,.slice a2 m.length c2] 31)) (w.heap.size+1) #[.string s2,.slice a2 m.length c2] 31):=Aa (by have h:=Ac.new (w.alloc (zh #[.string s,.slice a l.length c] 31)) #[.string s2,.slice a2 m.length c2] 31;simpa using h);have bf:((w.alloc (zh #[.string s,.slice a l.length c] 31)).alloc (zh #[.string s2,.slice a2 m.length c2] 31)).heap.size=w.heap.size+2:=by simp
  have L:Hid (w.grownBy ((w.alloc (zh #[.string s,.slice a l.length c] 31)).alloc (zh #[.string s2,.slice a2 m.length c2] 31)) (some q)):=(World.grownBy_alloc w _ _).andThen (World.grownBy_alloc _ _ none) (by simp);have hz:∀w',(zeroValue 31).run prog w'=.ok (.agg zd) w':=λw'=>zeroValue31 w';cases W:Aj s with
  |true=>
   have v:=Aa W;clear W;have M:=Aa (HM.o.below (λb hb=>(f.o b hb).1) n.o);have a6:=Aa (ax.o.later n.o);have s0:((w.alloc (zh #[.string s,.slice a l.length c] 31)).alloc (zh #[.string s2,.slice a2 m.length c2] 31)).cell? (zD S 0)=some (.map (some q)):=(ay.o.below n.o az).cell 0;have a0:=V.o.cell 0;have b0:=u.o.cell 0;have b1:=u.o.cell 1;cases C:As (Z.map (·.1)) s with
   |some x=>
    obtain⟨y,hy,rfl,d⟩:=Sh.2 x C;have D:=Aa (Oq (l:=l) (t:=⟨s2,m⟩) v.o C);have bg:=Aa (M.o.2 y hy);have aD:(Instr.lookup 69 (.map (some q)) (.string s) true).run prog ((w.alloc (zh #[.string s,.slice a l.length c] 31)).alloc (zh #[.string s2,.slice a2 m.length c2] 31))=.ok (.tuple #[.agg #[.string y.1.t.name,.slice y.2.1 y.1.t.args.length y.2.2],.bool true]) ((w.alloc (zh #[.string s,.slice a l.length c] 31)).alloc (zh #[.string s2,.slice a2 m.length c2] 31)):=by
     rw[El (P:=prog) underlying69 underlying9 (hz _) M.o.1 s,d]; rfl
    clear C d hy;have aE:∀o,(((w.alloc (zh #[.string s,.slice a l.length c] 31)).alloc (zh #[.string s2,.slice a2 m.length c2] 31)).alloc o).cell? (zD (w.heap.size+1) 0)=some (.string s2):=λo=>(u.o.alloc o).cell 0;have aF:∀o,(((w.alloc (zh #[.string s,.slice a l.length c] 31)).alloc (zh #[.string s2,.slice a2 m.length c2] 31)).alloc o).cell? (zD (w.heap.size+1) 1)=some (.slice a2 m.length c2):=λo=>(u.o.alloc o).cell 1;have SK:Hid (Calls prog 31 #[.agg #[.string y.1.t.name,.slice y.2.1 y.1.t.args.length y.2.2],.agg #[.string s2,.slice a2 m.length c2]] (((w.alloc (zh #[.string s,.slice a l.length c] 31)).alloc (zh #[.string s2,.slice a2 m.length c2] 31)).alloc (zh #[.string y.1.t.name,.slice y.2.1 y.1.t.args.length y.2.2] 31)) λe w'=>e=.returned (.bool (AP y.1.t ⟨s2,m⟩))/\Below ((w.alloc (zh #[.string s,.slice a l.length c] 31)).alloc (zh #[.string s2,.slice a2 m.length c2] 31)).heap.size ((w.alloc (zh #[.string s,.slice a l.length c] 31)).alloc (zh #[.string s2,.slice a2 m.length c2] 31)) w'):=by
     refine(Sg y.1.t ⟨s2,m⟩ _ _ _ Y Y ⟨_,_,rfl,bg.o.later ((Ag _ _).alloc (Al _) _)⟩ ⟨_,_,rfl,a6.o.later ((Ag _ _).alloc (Al _) _)⟩).mono ?_;rintro e w5 ⟨rfl,N⟩;exact⟨rfl,((Ag _ _).alloc (Al _) _).trans (N.mono (by simp))⟩
    go_enter func113,ntmps113;go_wp2_with (go_at_call 65; refine(BR _ _).mono ?_; rintro e w' ⟨rfl,rfl⟩; rw[v.o]);refine SK.o.mono ?_;rintro e w5 ⟨rfl,N⟩;have bh:=Aa (OV L.o N);have bj:=Aa (M.o.below (λb hb=>by have:=(f.o b hb).1; omega) N);clear N aE aF aD;go_wp2_with fail;go_ret;refine⟨bh.o,?_⟩;rw[D.o];cases b5:AP y.1.t ⟨s2,m⟩ with
    |true=>exact Ad ⟨_,Z,by rw[Ao rfl],rfl,rfl,bj.o⟩
    |false=>exact Ae ⟨by rw[Ah (by simp)],rfl⟩
   |none=>
    have d:=Sh.1 C;have D:=Aa (Oo (l:=l) (t:=⟨s2,m⟩) v.o C);have aD:(Instr.lookup 69 (.map (some q)) (.string s) true).run prog ((w.alloc (zh #[.string s,.slice a l.length c] 31)).alloc (zh #[.string s2,.slice a2 m.length c2] 31))=.ok (.tuple #[.agg zd,.bool false]) ((w.alloc (zh #[.string s,.slice a l.length c] 31)).alloc (zh #[.string s2,.slice a2 m.length c2] 31)):=(by rw[El (P:=prog) underlying69 underlying9 (hz _) M.o.1 s,d]; rfl);have au:Below ((w.alloc (zh #[.string s,.slice a l.length c] 31)).alloc (zh #[.string s2,.slice a2 m.length c2] 31)).heap.size ((w.alloc (zh #[.string s,.slice a l.length c] 31)).alloc (zh #[.string s2,.slice a2 m.length c2] 31)) (((w.alloc (zh #[.string s,.slice a l.length c] 31)).alloc (zh #[.string s2,.slice a2 m.length c2] 31)).alloc zc):=(Ag _ _).alloc (Al _) _;have aG:=Aa (M.o.below (λb hb=>by have:=(f.o b hb).1; omega) au);have O:=Aa (OV L.o au);have aH:=Aa (n.o.trans (au.mono n.o.size));have b6:(((w.alloc (zh #[.string s,.slice a l.length c] 31)).alloc (zh #[.string s2,.slice a2 m.length c2] 31)).alloc zc).cell? (zD S 0)=some (.map (some q)):=(ay.o.below aH.o az).cell 0;have b7:(((w.alloc (zh #[.string s,.slice a l.length c] 31)).alloc (zh #[.string s2,.slice a2 m.length c2] 31)).alloc zc).cell? (zD w.heap.size 0)=some (.string s):=(V.o.alloc _).cell 0;have aE:(((w.alloc (zh #[.string s,.slice a l.length c] 31)).alloc (zh #[.string s2,.slice a2 m.length c2] 31)).alloc zc).cell? (zD (w.heap.size+1) 0)=some (.string s2):=(u.o.alloc _).cell 0;have aF:(((w.alloc (zh #[.string s,.slice a l.length c] 31)).alloc (zh #[.string s2,.slice a2 m.length c2] 31)).alloc zc).cell? (zD (w.heap.size+1) 1)=some (.slice a2 m.length c2):=(u.o.alloc _).cell 1;obtain⟨w8,hrun,aI,aJ,aK,aL,aM,av⟩:=Iw (P:=prog) underlying69 underlying9 aG.o.1 s (.agg #[.string s2,.slice a2 m.length c2]) d;have bk : Hid (F9 w8 q Y (Z ++ [(⟨s, ⟨s2, m⟩⟩, a2, c2)])) := ⟨by rw [CI]; exact aI, λx hx => by
     rcases Ba.1 hx with hx|hx
     ·exact(aG.o.2 x hx).kept λb hb=>av b (f.o b hb).2
     ·have e:x=(⟨s,⟨s2,m⟩⟩,a2,c2):=(by simpa using hx);subst e;exact(ax.o.later aH.o).kept λb hb=>av b (f.o b hb).2⟩
    have bl:Hid (w.grownBy w8 (some q)):=⟨aK.trans O.o.os,aL.trans O.o.tape,aM.trans O.o.output,by rw[aJ]; exact O.o.size,λj hj hne=>(av j (λe=>hne (by rw[e]))).trans (O.o.block j hj hne)⟩;clear C d au aI aJ aK aL aM av;go_enter func113,ntmps113;go_wp2_with (go_at_call 65; refine(BR _ _).mono ?_; rintro e w' ⟨rfl,rfl⟩; rw[v.o]);go_ret;refine⟨bl.o,?_⟩;rw[D.o];exact Ad ⟨_,_,rfl,rfl,by simp,bk.o⟩
  |false=>
   have v:=Aa W;clear W;rw[Ld v.o,FZ,FZ]at J;obtain⟨⟨hn,hm⟩,J⟩:=J;have hm:l.length=m.length:=(by simpa using hm);have bm:=Aa ((ML l m hm).1 J);clear J;have D:=Aa (Mu (h:=Z.map (·.1)) v.o hn hm);have a7:=Aa hm;rw[<-hm]at L n V u bf ba ⊢;clear hm;go_enter func113,ntmps113;go_wp2_with (go_at_call 65; refine(BR _ _).mono ?_; rintro e w' ⟨rfl,rfl⟩; rw[v.o]);generalize (w.alloc (zh #[.string s,.slice a l.length c] 31)).alloc (zh #[.string s2,.slice a2 l.length c2] 31)=w2 at *;go_loopw [36] (λi wr=>Zh w2 q Y l m (Z.map (·.1)) i wr) (λi wr=>l.length-(intOf i).toNat);case atStart=>exact⟨0,Z,Be _,rfl,by simp[Bx],HM.o.below (λb hb=>(f.o b hb).1) n.o,⟨rfl,rfl,rfl,Al _,λ_ _ _=>rfl⟩⟩
   case round=>
    obtain⟨k,R,hk,rfl,hT,aN,d⟩:=hrel;have HT:=Aa hT;have aO:=Aa aN;have aP:=Aa d;have b8:w.heap.size+2<=wr.heap.size:=by have:=d.size; omega
    have bn:Hid (Ac wr w.heap.size #[.string s,.slice a l.length c] 31):=(d.block w.heap.size (by omega) (by simp; omega)).trans V.o;have bo:Hid (Ac wr (w.heap.size+1) #[.string s2,.slice a2 l.length c2] 31):=(d.block (w.heap.size+1) (by omega) (by simp; omega)).trans u.o;have aQ:Hid (Ac wr F #[.func (.func 113) #[] #[zC S,zC F]] 41):=(d.block F (by omega) (by simpa using aC)).trans (aZ.o.below n.o bd);have bp:Hid (Ac wr S #[.map (some q)] 69):=(d.block S (by omega) (by simpa using bb)).trans (ay.o.below n.o az);have aR:Hid (Sl wr Y a l):=(HS.o.later n.o).kept λb hb=>by
     have h1:=f.o b hb;exact d.block b (by omega) (by simpa using h1.2)
    have aq:Hid (Sl wr Y a2 m):=(ax.o.later n.o).kept λb hb=>by
     have h1:=f.o b hb;exact d.block b (by omega) (by simpa using h1.2)
    have f0:=aQ.o.c0;have a1:=bn.o.c1;clear hT aN d;by_cases aa:k<l.length
    ·have bq:(k:Int)<(l.length:Int):=(by omega);have E:k<m.length:=by have:=a7.o; omega
     obtain⟨b,o,a',c',rfl,d0,d1,hx⟩:=aR.o.get (Ag _ _) (λ_ _ h=>h) k aa;obtain⟨g,r,G,H,rfl,e0,e1,aS⟩:=aq.o.get (Ag _ _) (λ_ _ h=>h) k E;have HX:=Aa hx;have br:=Aa aS;have b1:wr.cell? (zD (w.heap.size+1) 1)=some (.slice (some (zD g r)) l.length c2):=bo.o.cell 1;have a8:=Aa (And.intro f0 (And.intro a1 (And.intro b1 (And.intro d0 (And.intro d1 (And.intro e0 e1))))));have aA:b<w.heap.size/\b≠q:=by
      obtain⟨_,h1⟩:=aR.o;rcases h1 with h1|⟨b',o',e',h1⟩
      ·rw[h1]at aa; simp at aa
      ·cases e'; exact f.o _ (Ip _ _ _ h1 k aa).1
     have ag:g<w.heap.size/\g≠q:=by
      obtain⟨_,h1⟩:=aq.o;rcases h1 with h1|⟨b',o',e',h1⟩
      ·rw[h1]at E; simp at E
      ·cases e'; exact f.o _ (Ip _ _ _ h1 k E).1
     have aT:=Aa (IH.o l[k] (AM aa) m[k] R (.agg (zF l[k] a' c')) (.agg (zF m[k] G H)) wr.drew (by exact HX.o.later (below_drewN (Ag _ _) 1)) (by exact br.o.later (below_drewN (Ag _ _) 1)) (by exact bp.o) (by exact aQ.o) (by exact aO.o.below (λb hb=>by have:=(f.o b hb).1; omega) (below_drewN (Ag _ _) 1)) (λb hb=>by have:=f.o b hb; exact⟨by simp; omega,this.2⟩) (bm.o k aa E));have aU:Hid (∀w1,wr.drew.grownBy w1 (some q)->w1.cell? (zD F 0)=some (.func (.func 113) #[] #[zC S,zC F])/\w1.cell? (zD w.heap.size 1)=some (.slice (some (zD b o)) l.length c)/\w1.cell? (zD (w.heap.size+1) 1)=some (.slice (some (zD g r)) l.length c2)/\w1.cell? ⟨b,o+k*2,none⟩=some (.string l[k].name)/\w1.cell? ⟨b,o+k*2+1,none⟩=some (.slice a' l[k].args.length c')/\w1.cell? ⟨g,r+k*2,none⟩=some (.string m[k].name)/\w1.cell? ⟨g,r+k*2+1,none⟩=some (.slice G m[k].args.length H)):=λw1 ab=>by
      have kp:∀b o,b<wr.heap.size->b≠q->w1.cell? (zD b o)=wr.cell? (zD b o):=λb o hb hne=>ab.cell_far (zD b o) (by simpa using hb) (by simpa using hne);have h:=a8.o;exact⟨(kp _ _ (by omega) aC).trans h.1,(kp _ _ (by omega) (by omega)).trans h.2.1,(kp _ _ (by omega) (by omega)).trans h.2.2.1,(kp _ _ (by omega) aA.2).trans h.2.2.2.1,(kp _ _ (by omega) aA.2).trans h.2.2.2.2.1,(kp _ _ (by omega) ag.2).trans h.2.2.2.2.2.1,(kp _ _ (by omega) ag.2).trans h.2.2.2.2.2.2⟩
     have bs:=Aa (λh0=>XP aa a7.o HT.o h0);have bt:=Aa (λaV (h0:AX l[k] m[k] (R.map (·.1))=some aV)=>XQ aa E HT.o h0);have aW:Hid (∀w1,wr.drew.grownBy w1 (some q)->w2.grownBy w1 (some q)):=λw1 ab=>(OV aP.o (below_drewN (Ag _ _) 1)).andThen ab (λj hj=>Ad hj);clear hx aS aA ag;generalize l[k]=y at *;generalize m[k]=z at *;go_wp2_with fail;cases T:AX y z (R.map (·.1)) with
     |none=>
      have bu:Hid (Calls prog 113 #[.agg (zF y a' c'),.agg (zF z G H),zC S,zC F] wr.drew λe w'=>e=.returned (.bool false)/\wr.drew.grownBy w' (some q)):=by
       refine aT.o.mono ?_;rintro e w1 ⟨ab,⟨_,rfl⟩|⟨h',A,h0,_⟩⟩
       ·exact⟨rfl,ab⟩
       ·rw[T]at h0; cases h0
      have HF:Hid (AX ⟨s,l⟩ ⟨s2,m⟩ (Z.map (·.1))=none):=Aa (by rw[D.o,bs.o T]);go_region_held3 (λw'=>w'.cell? (zD F 0)=some (.func (.func 113) #[] #[zC S,zC F])/\w'.cell? (zD w.heap.size 1)=some (.slice (some (zD b o)) l.length c)/\w'.cell? (zD (w.heap.size+1) 1)=some (.slice (some (zD g r)) l.length c2)/\w'.cell? ⟨b,o+k*2,none⟩=some (.string y.name)/\w'.cell? ⟨b,o+k*2+1,none⟩=some (.slice a' y.args.length c')/\w'.cell? ⟨g,r+k*2,none⟩=some (.string z.name)/\w'.cell? ⟨g,r+k*2+1,none⟩=some (.slice G z.args.length H)) (first|exact a8.o|exact U|go_keep)
       ((go_at_call 113; refine bu.o.mono ?_; rintro e w1 ⟨rfl,ab⟩; have U:=aU.o w1 ab))
      have aB:=Aa (aW.o w1 ab);clear ab U;go_wp2_with fail;go_ret;exact⟨L.o.andThen aB.o (λj hj=>Ad hj),Ae ⟨HF.o,rfl⟩⟩
     |some h'=>
      have bw:Hid (Calls prog 113 #[.agg (zF y a' c'),.agg (zF z G H),zC S,zC F] wr.drew λe w'=>e=.returned (.bool true)/\wr.drew.grownBy w' (some q)/\∃A:List Bc,A.map (·.1)=h'/\F9 w' q Y A):=by
       refine aT.o.mono ?_;rintro e w1 ⟨ab,⟨h0,_⟩|⟨aV,A,h0,rfl,h2,h3⟩⟩
       ·rw[T]at h0; cases h0
       ·rw[T]at h0;cases h0;exact⟨rfl,ab,A,h2,h3⟩
      have HN:=Aa (bt.o h' T);go_region_held3 (λw'=>w'.cell? (zD F 0)=some (.func (.func 113) #[] #[zC S,zC F])/\w'.cell? (zD w.heap.size 1)=some (.slice (some (zD b o)) l.length c)/\w'.cell? (zD (w.heap.size+1) 1)=some (.slice (some (zD g r)) l.length c2)/\w'.cell? ⟨b,o+k*2,none⟩=some (.string y.name)/\w'.cell? ⟨b,o+k*2+1,none⟩=some (.slice a' y.args.length c')/\w'.cell? ⟨g,r+k*2,none⟩=some (.string z.name)/\w'.cell? ⟨g,r+k*2+1,none⟩=some (.slice G z.args.length H)) (first|exact a8.o|exact U|go_keep)
       ((go_at_call 113; refine bw.o.mono ?_; rintro e w1 ⟨rfl,ab,A,aX,aY⟩; have U:=aU.o w1 ab))
      have aB:=Aa (aW.o w1 ab);have bx:=Aa aX;have bz:=Aa aY;clear ab U aX aY;go_wp2_with fail;go_roundw
      case rel=>exact⟨k+1,A,by omega,by go_num,by rw[bx.o]; exact HN.o,bz.o,aB.o⟩
      case measure=>simp[intOf]; omega
    ·have HF:Hid (AX ⟨s,l⟩ ⟨s2,m⟩ (Z.map (·.1))=some (R.map (·.1))):=Aa (by rw[D.o,<-HT.o,BH (by omega),BH (by have:=a7.o; omega)]);have b3:=Aa (L.o.andThen aP.o (λj hj=>Ad hj));go_wp2_with fail;go_ret;exact⟨b3.o,Ad ⟨_,R,HF.o,rfl,rfl,aO.o⟩⟩
def Fa (w:World) (X:Nat->Prop) (b o:Nat) (t:Tm):Prop:=∃a c,w.cell? (zD b o)=some (.string t.name)/\w.cell? ⟨b,o+1,none⟩=some (.slice a t.args.length c)/\Sl w X a t.args/\b<w.heap.size
theorem Fa.later (h:Fa w X b o t) (hb:Below w.heap.size w w'):Fa w' X b o t:=by
 obtain⟨a,c,h1,h2,h3,d⟩:=h;exact⟨a,c,(hb.cell (p:=(zD b o)) d).trans h1,(hb.cell (p:=⟨b,o+1,none⟩) d).trans h2,h3.later hb,B7 d hb.size⟩
theorem Fa.lt (h:Fa w X b o t):b<w.heap.size:=by
 obtain⟨a,c,h1,h2,h3,d⟩:=h;exact d
theorem Fa.sub (h:Fa w X b o t):∃a c,w.cell? ⟨b,o+1,none⟩=some (.slice a t.args.length c)/\∀k (hk:k<t.args.length),∃b' o',a=some (zD b' o')/\Fa w X b' (o'+k*2) t.args[k]:=by
 obtain⟨a,c,h1,h2,h3,h4⟩:=h;refine⟨a,c,h2,λk hk=>?_⟩;obtain⟨b',o',a',c',rfl,d0,d1,hx⟩:=h3.get (Ag _ _) (λ_ _ h=>h) k hk;obtain⟨a2,c2,d,hx⟩:=hx;cases d;exact⟨b',o',rfl,a',c',d0,d1,hx,DR d0⟩
def Zj (w:World) (l m:List Tm) (i:Value) (wr:World):Prop:=
 ∃k:Nat,k<=l.length/\i=zA k/\(∀j (h:j<l.length) (h2:j<m.length),j<k->Dx l[j] m[j]=true)/\Below w.heap.size w wr
theorem Zk (X:Nat->Prop) (p:Tm):∀(t:Tm) (b o d f:Nat) (w:World),Fa w X b o p->Fa w X d f t->
  Calls prog 112 #[.pointer (some (zD b o)),.pointer (some (zD d f))] w λe w'=>e=.returned (.bool (Dx p t))/\Below w.heap.size w w':=by
 induction p using Tm.ind with
 |h s l O=>
  intro t b o d f w hp ht;obtain⟨s2,m⟩:=t;have IH:=Aa O;have HP:=Aa hp;have HT:=Aa ht;obtain⟨a,c,x,z,hs,aA⟩:=hp;obtain⟨a2,c2,t0,t1,E,ay⟩:=ht;dsimp only at x z hs t0 t1 E ⊢;have hl:=hs.1;have az:=E.1;clear O hs E;cases n:Aj s with
  |true=>have q:=Aa (Sf (l:=l) (t:=⟨s2,m⟩) n);go_enter func112,ntmps112;go_wp2_with (go_at_call 65; refine(BR _ _).mono ?_; rintro e w ⟨rfl,rfl⟩; rw[n]);refine Aq (v:=.bool true) (by simp[results,results112,go_sem]) rfl ?_;exact⟨by rw[q.o],Ag _ _⟩
  |false=>
   have aB:=Aa n;cases F:(s.toList==s2.toList) with
   |false=>have q:Hid (Dx ⟨s,l⟩ ⟨s2,m⟩=false):=Aa (by rw[Ld n,F];rfl);go_enter func112,ntmps112;have u:=Aa (And.intro x (And.intro z (And.intro t0 t1)));go_wp2_with (go_at_call 65; refine(BR _ _).mono ?_; rintro e w ⟨rfl,rfl⟩; rw[n]);refine D9 (S:=λw'=>w'.cell? (zD b o)=some (.string s)/\w'.cell? ⟨b,o+1,none⟩=some (.slice a l.length c)/\w'.cell? (zD d f)=some (.string s2)/\w'.cell? ⟨d,f+1,none⟩=some (.slice a2 m.length c2)) (by kernel_rfl) u.o λhH=>?_;refine tkz 0 ?_ (hy:=by intro w' aa;obtain⟨k1,k2,k3,g⟩:=aa;go_simp<;>with_reducible rfl);refine tkz 1 ?_ (hy:=by intro w' aa;obtain⟨k1,k2,k3,g⟩:=aa;go_simp<;>with_reducible rfl);refine tkz 2 ?_ (hy:=by intro w' aa;obtain⟨k1,k2,k3,g⟩:=aa;go_simp<;>with_reducible rfl);refine tkz 3 ?_ (hy:=by intro w' aa;obtain⟨k1,k2,k3,g⟩:=aa;go_simp<;>with_reducible rfl);refine tkz 4 ?_ (hy:=by intro w' aa;obtain⟨k1,k2,k3,g⟩:=aa;go_simp<;>with_reducible rfl);refine tkz 5 ?_ (hy:=by intro w' aa;obtain⟨k1,k2,k3,g⟩:=aa;go_simp<;>with_reducible rfl);refine tkz 6 ?_ (hy:=by intro w' aa;obtain⟨k1,k2,k3,g⟩:=aa;go_simp<;>with_reducible rfl);refine tkz 7 ?_ (hy:=by intro w' aa;obtain⟨k1,k2,k3,g⟩:=aa;go_simp<;>with_reducible rfl);refine tkz 8 ?_ (hy:=by intro w' aa;obtain⟨k1,k2,k3,g⟩:=aa;go_simp<;>with_reducible rfl);refine tkz 9 ?_ (hy:=by intro w' aa;obtain⟨k1,k2,k3,g⟩:=aa;go_simp<;>with_reducible rfl);refine tkv 10 ?_;refine tkv 11 ?_;refine tkv 12 ?_;refine tkv 13 ?_;refine tkv 14 ?_;refine tkv 15 ?_;refine tkv 16 ?_;refine tkv 17 ?_;refine tkv 18 ?_;refine tkv 19 ?_;refine tkv 20 ?_;refine tkz 21 ?_ (hy:=by intro w' aa;obtain⟨k1,k2,k3,g⟩:=aa;go_simp<;>with_reducible rfl);refine dnq ?_;go_wp2_with fail;refine Aq (v:=.bool false) (by simp[results,results112,go_sem]) rfl ?_;exact⟨by rw[q.o],(Ag _ _).drew⟩
   |true=>
    by_cases hm:l.length=m.length;case neg=>
     have q:Hid (Dx ⟨s,l⟩ ⟨s2,m⟩=false):=Aa (by rw[Ld n,F];simp[hm]);have a1:((l.length:Int)==(m.length:Int))=false:=FY.2 (by omega);have aC:((l.length:Int) !=(m.length:Int))=true:=(by simp[bne,a1]);clear hm;go_enter func112,ntmps112;have u:=Aa (And.intro x (And.intro z (And.intro t0 t1)));go_wp2_with (go_at_call 65; refine(BR _ _).mono ?_; rintro e w ⟨rfl,rfl⟩; rw[n]);go_region_held3 (λw'=>w'.cell? (zD b o)=some (.string s)/\w'.cell? ⟨b,o+1,none⟩=some (.slice a l.length c)/\w'.cell? (zD d f)=some (.string s2)/\w'.cell? ⟨d,f+1,none⟩=some (.slice a2 m.length c2)) (first|exact u.o|go_keep) (fail);go_wp2_with fail;refine Aq (v:=.bool false) (by simp[results,results112,go_sem]) rfl ?_;exact⟨by rw[q.o],(Ag _ _).drew⟩
    case pos=>
     have q:Hid (Dx ⟨s,l⟩ ⟨s2,m⟩=Fr l m):=Aa (by rw[Ld n,F];simp[hm]);have A:=Aa hm;rw[<-hm]at t1 az;clear hm;go_enter func112,ntmps112;have u:=Aa (And.intro x (And.intro z (And.intro t0 t1)));go_wp2_with (go_at_call 65; refine(BR _ _).mono ?_; rintro e w ⟨rfl,rfl⟩; rw[n]);go_region_held3 (λw'=>w'.cell? (zD b o)=some (.string s)/\w'.cell? ⟨b,o+1,none⟩=some (.slice a l.length c)/\w'.cell? (zD d f)=some (.string s2)/\w'.cell? ⟨d,f+1,none⟩=some (.slice a2 l.length c2)) (first|exact u.o|go_keep) (fail);go_wp2_with fail;go_loopw [38] (λi wr=>Zj w l m i wr) (λi wr=>l.length-(intOf i).toNat);case atStart=>exact⟨0,Be _,rfl,λj _ _ h=>absurd h (by omega),(Ag _ _).drew⟩
     case round=>
      obtain⟨k,hk,rfl,P,B⟩:=hrel;have R:=Aa P;have G:=Aa B;have T:=Aa (HP.o.later B);have U:=Aa (HT.o.later B);clear P B;by_cases H:k<l.length
      ·have V:k<m.length:=by have:=A.o; omega
       obtain⟨a',c',W,Y⟩:=T.o.sub;obtain⟨b',o',rfl,hx⟩:=Y k H;obtain⟨aD,Z,I,ab⟩:=U.o.sub;obtain⟨C,D,rfl,J⟩:=ab k V;dsimp only at W I hx J;rw[<-A.o]at I;have aE:(k:Int)<(l.length:Int):=(by omega);have L:=Aa (And.intro W I);have HI:Hid (Calls prog 112 #[.pointer (some ⟨b',o'+k*2,none⟩),.pointer (some ⟨C,D+k*2,none⟩)] wr.drew λe w'=>e=.returned (.bool (Dx l[k] m[k]))/\Below wr.drew.heap.size wr.drew w'):=IH.o l[k] (AM H) m[k] b' (o'+k*2) C (D+k*2) wr.drew (hx.later ((Ag _ _).drew)) (J.later ((Ag _ _).drew));have a6:=Aa (λh0=>Zd A.o H V h0);have a7:Hid (Dx l[k] m[k]=true->∀j (h:j<l.length) (h2:j<m.length),j<k+1->Dx l[j] m[j]=true):=λh0 j h h2 hj=>by
        by_cases e:j=k
        ·subst e; exact h0
        ·exact R.o j h h2 (by omega)
       have av:∀r,Below wr.drew.heap.size wr.drew r->r.cell? ⟨b,o+1,none⟩=some (.slice (some (zD b' o')) l.length c')/\r.cell? ⟨d,f+1,none⟩=some (.slice (some (zD C D)) l.length Z):=λr h5=>⟨(h5.cell (p:=⟨b,o+1,none⟩) (T.o.lt)).trans L.o.1,(h5.cell (p:=⟨d,f+1,none⟩) (U.o.lt)).trans L.o.2⟩;have a8:=Aa av;clear Y ab hx J av;generalize Dx l[k] m[k]=y at *;go_wp2_with fail;go_region_held3 (λw'=>w'.cell? ⟨b,o+1,none⟩=some (.slice (some (zD b' o')) l.length c')/\w'.cell? ⟨d,f+1,none⟩=some (.slice (some (zD C D)) l.length Z)) (first|exact L.o|exact aw|go_keep)
        ((go_at_call 112; refine HI.o.mono ?_; rintro e r ⟨rfl,M⟩; have aw:=a8.o r M))
       have ax:=Aa (G.o.trans (((Ag _ _).drew.trans M).mono G.o.size));clear M aw;cases y with
       |false=>have N:=Aa (q.o.trans (a6.o rfl));go_wp2_with fail;refine Aq (v:=.bool false) (by simp[results,results112,go_sem]) rfl ?_;exact⟨by rw[N.o],ax.o⟩
       |true=>
        go_wp2_with fail;go_roundw
        case rel=>exact⟨k+1,by omega,by go_num,a7.o rfl,ax.o⟩
        case measure=>simp[intOf]; omega
      ·have N:Hid (Dx ⟨s,l⟩ ⟨s2,m⟩=true):=Aa (by rw[q.o,ML l m A.o];exact λj h h2=>R.o j h h2 (by omega));go_wp2_with fail;refine Aq (v:=.bool true) (by simp[results,results112,go_sem]) rfl ?_;exact⟨by rw[N.o],G.o⟩
def Zl (w:World) (Y:Nat->Prop) (p t:Tm) (e:Ending) (w':World):Prop:=
 Below w.heap.size w w'/\((AX p t []=none/\e=.returned (.tuple #[.map none,.bool false]))∨
  ∃(h':List Bd) (q:Nat) (Z':List Bc),AX p t []=some h'/\e=.returned (.tuple #[.map (some q),.bool true])/\Z'.map (·.1)=h'/\F9 w' q Y Z'/\w.heap.size<=q)
theorem Zm (w:World) (m v:Value) (a b:Nat):Below w.heap.size w (((w.alloc (.map #[] 0)).alloc (zh #[m] a)).alloc (zh #[v] b))/\
  AO (((w.alloc (.map #[] 0)).alloc (zh #[m] a)).alloc (zh #[v] b)) w.heap.size []/\Ac (((w.alloc (.map #[] 0)).alloc (zh #[m] a)).alloc (zh #[v] b)) (w.heap.size+1) #[m] a/\Ac (((w.alloc (.map #[] 0)).alloc (zh #[m] a)).alloc (zh #[v] b)) (w.heap.size+1+1) #[v] b:=by
 refine⟨((((Ag _ _).alloc (Al _) _).alloc (by simp) _).alloc (by simp; omega) _),?_,?_,?_⟩
 ·have h:=AO.new w;have h1:=(h.below ((Ag _ _).alloc (Al _) (.cells #[m] a)) h.lt);have h2:=(h1.below ((Ag _ _).alloc (Al _) (.cells #[v] b)) h1.lt);simpa using h2
 ·have h:=(Ac.new (w.alloc (.map #[] 0)) #[m] a).alloc (zh #[v] b);simpa using h
 ·have h:=Ac.new ((w.alloc (.map #[] 0)).alloc (zh #[m] a)) #[v] b;simpa using h
theorem Fa.of_blk {a:Option Addr} {c T:Nat} (h:Ac w b (zF t a c) T) (hs:Sl w X a t.args):Fa w X b 0 t:=⟨a,c,h.cell 0,h.cell 1,hs,h.lt⟩
theorem Zn (p t:Tm) (q r:Value) (w:World) (X:Nat->Prop) (hp:TV w X q p) (ht:TV w X r t):
  Calls prog 88 #[q,r] w λe w'=>Zl w (λb=>X b/\b<w.heap.size) p t e w':=by
 obtain⟨a,c,rfl,hs⟩:=hp;obtain⟨a2,c2,rfl,s⟩:=ht;have u:=Aa (hs.mono (Y:=λb=>X b/\b<w.heap.size) λb h1 h2=>⟨h1,h2⟩);have x:=Aa (s.mono (Y:=λb=>X b/\b<w.heap.size) λb h1 h2=>⟨h1,h2⟩);clear hs s;have a1:=@run_makeMap prog;have a6:=@hmq prog;have BP:Below w.heap.size w ((w.alloc (ze p a c)).alloc (ze t a2 c2)):=EJ _ _;have ab:Ac ((w.alloc (ze p a c)).alloc (ze t a2 c2)) w.heap.size (zF p a c) 31:=(Ac.new w _ _).alloc _;have f:Ac ((w.alloc (ze p a c)).alloc (ze t a2 c2)) (w.heap.size+1) (zF t a2 c2) 31:=by
  have h:=Ac.new (w.alloc (ze p a c)) (zF t a2 c2) 31;simpa using h
 go_enter func88,ntmps88;go_wp2_with fail;generalize (w.alloc (ze p a c)).alloc (ze t a2 c2)=w2 at *;refine(Zk (λb=>X b/\b<w.heap.size) p t _ _ _ _ w2 (Fa.of_blk ab (u.o.later BP)) (Fa.of_blk f (x.o.later BP))).mono ?_;rintro e w3 ⟨rfl,g⟩;have i:=Aa (BP.trans (g.mono BP.size));have l:=Aa (ab.below g ab.lt);have m:=Aa (f.below g f.lt);have y:=l.o.lt;have z:=m.o.lt;clear g ab f BP;cases k:Dx p t with
 |false=>have d:=Aa (Zf (p:=p) (t:=t) [] k);clear k;go_wp2_with fail;refine Aq (v:=.tuple #[.map none,.bool false]) (by simp[results,results88,go_sem]) rfl ?_;exact⟨i.o,Ae ⟨d.o,rfl⟩⟩
 |true=>
  have F:=Aa k;clear k;have K5:=Aa (Zm w3 (.map (some w3.heap.size)) (.func (.func 113) #[] #[zC (w3.heap.size+1),.pointer (some (zD (w3.heap.size+1+1) 0))]) 69 41);have p0:(((w3.alloc (.map #[] 0)).alloc (zh #[.map (some w3.heap.size)] 69)).alloc (zh #[.func (.func 113) #[] #[zC (w3.heap.size+1),.pointer (some (zD (w3.heap.size+1+1) 0))]] 41)).cell? (zD w.heap.size 0)=some (.string p.name):=(l.o.below K5.o.1 y).cell 0;have p1:(((w3.alloc (.map #[] 0)).alloc (zh #[.map (some w3.heap.size)] 69)).alloc (zh #[.func (.func 113) #[] #[zC (w3.heap.size+1),.pointer (some (zD (w3.heap.size+1+1) 0))]] 41)).cell? (zD w.heap.size 1)=some (.slice a p.args.length c):=(l.o.below K5.o.1 y).cell 1;have t0:(((w3.alloc (.map #[] 0)).alloc (zh #[.map (some w3.heap.size)] 69)).alloc (zh #[.func (.func 113) #[] #[zC (w3.heap.size+1),.pointer (some (zD (w3.heap.size+1+1) 0))]] 41)).cell? (zD (w.heap.size+1) 0)=some (.string t.name):=(m.o.below K5.o.1 z).cell 0;have t1:(((w3.alloc (.map #[] 0)).alloc (zh #[.map (some w3.heap.size)] 69)).alloc (zh #[.func (.func 113) #[] #[zC (w3.heap.size+1),.pointer (some (zD (w3.heap.size+1+1) 0))]] 41)).cell? (zD (w.heap.size+1) 1)=some (.slice a2 t.args.length c2):=(m.o.below K5.o.1 z).cell 1;go_wp2_with fail;generalize (((w3.alloc (.map #[] 0)).alloc (zh #[.map (some w3.heap.size)] 69)).alloc (zh #[.func (.func 113) #[] #[zC (w3.heap.size+1),.pointer (some (zD (w3.heap.size+1+1) 0))]] 41))=G at *;have aa:=Aa (i.o.trans (K5.o.1.mono i.o.size));have A:=Aa K5.o.2.2.1;have a7:=aa.o.size;have H:=i.o.size;refine(Zi (w3.heap.size+1) (w3.heap.size+1+1) w3.heap.size (λb=>X b/\b<w.heap.size) p t [] _ _ G ⟨a,c,rfl,u.o.later aa.o⟩ ⟨a2,c2,rfl,x.o.later aa.o⟩ K5.o.2.2.1 K5.o.2.2.2 ⟨K5.o.2.1,by simp⟩ (λb hb=>⟨by omega,by omega⟩) F.o).mono ?_;rintro e B ⟨n,I⟩;have C:Hid (Below w.heap.size w B):=aa.o.grown n aa.o.size (λj hj=>by cases hj; omega);have J:Hid (Ac B (w3.heap.size+1) #[.map (some w3.heap.size)] 69):=(n.block _ A.o.lt (by simp)).trans A.o;have s0:=J.o.c0;clear n;rcases I with ⟨h0,rfl⟩|⟨h',L,h0,rfl,D,E⟩
  ·have d:=Aa h0;clear h0;go_wp2_with fail;refine Aq (v:=.tuple #[.map none,.bool false]) (by simp[results,results88,go_sem]) rfl ?_;exact⟨C.o,Ae ⟨d.o,rfl⟩⟩
  ·have d:=Aa h0;have M:=Aa D;have N:=Aa E;clear h0 D E;go_wp2_with fail;refine Aq (v:=.tuple #[.map (some w3.heap.size),.bool true]) (by simp[results,results88,go_sem]) rfl ?_;exact⟨C.o,Ad ⟨h',_,L,d.o,rfl,M.o,N.o,H⟩⟩
def Dy (w:World) (r:Nat) (X:Nat->Prop) (ls:List Bd) (L:List (ByteArray×Value)):Prop:=AO w r L/\DC w X ls L
theorem Dy.ex {F:Nat} {L:List (ByteArray×Value)} (h:Dy w r X ls L) (he:Ex F w w') (c:r≠F) (d:∀b,X b->b≠F):Dy w' r X ls L:=
 ⟨h.1.kept (he.block r h.1.lt c),h.2.imp λa l hs=>hs.ex he d⟩
theorem Dy.later {L:List (ByteArray×Value)} (h:Dy w r X ls L) (hb:Below w.heap.size w w'):Dy w' r X ls L:=
 ⟨h.1.below hb h.1.lt,h.2.imp λa l hs=>hs.later hb⟩
theorem Si (ls:List Bd) (n:ByteArray) (r g rc:Nat) (h:ByteArray) (ra:Option Addr) (L:List (ByteArray×Value)) (w:World) (X:Nat->Prop) (d:AO w r L) (hP:DC w X ls L):
  Calls prog 63 #[.agg #[.string h,.slice ra g rc,.map (some r)],.string n] w λe w'=>Below w.heap.size w w'/\((∃t a c,As ls n=some t/\e=.returned (.tuple #[.agg (zF t a c),.bool true])/\Sl w X a t.args)∨(As ls n=none/\e=.returned (.tuple #[.agg zd,.bool false]))):=by
 have hz:∀w',(zeroValue 31).run prog w'=.ok (.agg zd) w':=λw'=>zeroValue31 w';have ab:=λo o':Obj=>(d.kept (Ay w o _ d.lt)).kept (Ay (w.alloc o) o' _ (by have:=d.lt; simp; omega));cases b:As ls n with
 |none=>
  have f:=(hP.get n).1 b;have aa:∀o o',(Instr.lookup 69 (.map (some r)) (.string n) true).run prog ((w.alloc o).alloc o')=.ok (.tuple #[.agg zd,.bool false]) ((w.alloc o).alloc o'):=λo o'=>by
   rw[El (P:=prog) underlying69 underlying9 (hz _) (ab o o') n,f]; rfl
  have i:=Aa b;clear b f ab hP d;go_enter func63,ntmps63;go_wp2_with fail;refine Aq (v:=.tuple #[.agg zd,.bool false]) (by simp[results,results63,go_sem,Az,Aw]) rfl ?_;exact⟨by first|exact EP _ _ _|exact((EP _ _ _).setCell (by simp) _).setCell (by simp) _,Ad ⟨by trivial,rfl⟩⟩
 |some t=>
  obtain⟨a,c,f,hs⟩:=(hP.get n).2 t b;have aa:∀o o',(Instr.lookup 69 (.map (some r)) (.string n) true).run prog ((w.alloc o).alloc o')=.ok (.tuple #[.agg (zF t a c),.bool true]) ((w.alloc o).alloc o'):=λo o'=>by
   rw[El (P:=prog) underlying69 underlying9 (hz _) (ab o o') n,f]; rfl
  have i:=Aa b;have j:=Aa hs;clear b f hs ab hP d;go_enter func63,ntmps63;go_wp2_with fail;refine Aq (v:=.tuple #[.agg (zF t a c),.bool true]) (by simp[results,results63,go_sem,Az,Aw]) rfl ?_;exact⟨by first|exact EP _ _ _|exact((EP _ _ _).setCell (by simp) _).setCell (by simp) _,Ae ⟨t,a,c,rfl,rfl,j.o⟩⟩
theorem Sj (F:Nat) (r s rc:Nat) (u:ByteArray) (ra:Option Addr) (ls:List Bd) (L:List (ByteArray×Value)) (t:Tm) (n:Nat) (a:Option Addr) (c:Nat) (w:World) (X:Nat->Prop) (hn:n<=1000000) (az:∀b,X b->b≠F) (a8:r≠F) (hs:Sl w X a t.args) (hF:Ac w F #[zA n,.func (.func 63) #[.agg #[.string u,.slice ra s rc,.map (some r)]] #[]] 146) (hE:Dy w r X ls L)
  (h:∀w',Sl w' X a t.args->Ac w' F #[zA n,.func (.func 63) #[.agg #[.string u,.slice ra s rc,.map (some r)]] #[]] 146->Dy w' r X ls L->Calls prog 114 #[zC F,.agg (zF t a c),.func (.func 90) #[zC F] #[]] w' λe R=>E6 w' F (.func (.func 63) #[.agg #[.string u,.slice ra s rc,.map (some r)]] #[]) ⟨t.name,fL ls t.args⟩ n e R):
  Calls prog 90 #[zC F,.agg (zF t a c)] w λe w'=>E6 w F (.func (.func 63) #[.agg #[.string u,.slice ra s rc,.map (some r)]] #[]) (fT ls t) n e w':=by
 have aA:=@hmq prog;have H:=Aa h;have HS:=Aa hs;have HF:=Aa hF;have HE:=Aa hE;have aB:F<w.heap.size:=hF.lt;clear h hs hF hE;have ar:=Aa (((Ag w.heap.size w).alloc (Al _) (ze t a c)).alloc (by simp) zc);have f1:∀o o',((w.alloc o).alloc o').cell? (zD F 1)=some (.func (.func 63) #[.agg #[.string u,.slice ra s rc,.map (some r)]] #[]):=λo o'=>((HF.o.alloc o).alloc o').cell 1;cases hv:Aj t.name with
 |false=>have HV:=Aa hv;have U:Hid (fT ls t=⟨t.name,fL ls t.args⟩):=Aa (by unfold fT fN;rw[hv];rfl);clear hv;go_enter func90,ntmps90;go_wp2_with (go_at_call 65; refine(BR _ _).mono ?_; rintro e w' ⟨rfl,rfl⟩; rw[HV.o]);have E:Hid (Ac ((w.alloc (ze t a c)).alloc zc) (w.heap.size+1) zd 31):=Aa (by have h:=Ac.new (w.alloc (ze t a c)) zd 31;simpa using h);have V:=Aa (((Ex.refl F w).alloc (ze t a c)).alloc zc);have C:Hid (w.heap.size+2<=((w.alloc (ze t a c)).alloc zc).heap.size):=Aa (by simp);refine(H.o _ (HS.o.later ar.o) (by exact(HF.o.alloc _).alloc _) (HE.o.later ar.o)).mono ?_;rintro e w9 ⟨s',a',l',c',m,rfl,j,aa,k,q⟩;have f:=Aa (E.o.ex aa (by omega));have G:=Aa (V.o.trans aa);have I:=Aa j;have J:=Aa k;have M:=Aa q;have av:=Aa (V.o.size);clear j aa k q;have N:=f.o.c0;have O:=f.o.c1;have rf:=f.o.frozen;go_wp2_with fail;refine Aq (v:=.agg #[.string s',.slice a' l' c']) (by simp[results,results90,go_sem,Az,Aw,N,O]) rfl ?_;rw[U.o];exact G3 (by omega) C.o I.o G.o J.o M.o
 |true=>
  have HV:=Aa hv;clear hv;have E:Hid (Ac ((w.alloc (ze t a c)).alloc zc) (w.heap.size+1) zd 31):=Aa (by have h:=Ac.new (w.alloc (ze t a c)) zd 31;simpa using h);have V:=Aa (((Ex.refl F w).alloc (ze t a c)).alloc zc);have C:Hid (w.heap.size+2<=((w.alloc (ze t a c)).alloc zc).heap.size):=Aa (by simp);have E0:=Aa (HE.o.later ar.o);have z:=Aa ((HF.o.alloc (ze t a c)).alloc zc);have S0:=Aa (HS.o.later ar.o);have A:=Aa ((Ac.new w (zF t a c) 31).alloc zc);have g1:=z.o.cell 1;have g0:=A.o.cell 0;simp only[D7,Et,Ei] at g1 g0;cases W:As ls t.name with
  |some x=>
   have U:Hid (fT ls t=x):=Aa (by unfold fT fN;rw[HV.o,W];rfl);have aw:Hid (∀w',Below ((w.alloc (ze t a c)).alloc zc).heap.size ((w.alloc (ze t a c)).alloc zc) w'->Calls prog 63 #[.agg #[.string u,.slice ra s rc,.map (some r)],.string t.name] w' λe R=>∃D T,e=.returned (.tuple #[.agg (zF x D T),.bool true])/\Below w'.heap.size w' R/\Sl R (λb=>X b/\b<w.heap.size) D x.args):=λw' hb=>by
    have E1:Dy w r (λb=>X b/\b<w.heap.size) ls L:=⟨HE.o.1,HE.o.2.imp λa l hs=>hs.mono λb h1 h2=>⟨h1,h2⟩⟩;obtain⟨h2,h3⟩:=(E1.later ar.o).later hb;refine(Si ls t.name r s rc u ra L w' _ h2 h3).mono λe R hp=>?_;obtain⟨hb2,hc⟩:=hp;rcases hc with ⟨y,ay,cy,hy,he,a7⟩|⟨hy,_⟩
    ·rw[W]at hy; cases hy; exact⟨ay,cy,he,hb2,a7.later hb2⟩
    ·rw[W]at hy; cases hy
   have au:Hid (∀w',Below ((w.alloc (ze t a c)).alloc zc).heap.size ((w.alloc (ze t a c)).alloc zc) w'->w'.cell? (zD F 1)=some (.func (.func 63) #[.agg #[.string u,.slice ra s rc,.map (some r)]] #[])/\w'.cell? (zD w.heap.size 0)=some (.string t.name)):=λw' hb=>⟨(z.o.below hb z.o.lt).cell 1,(A.o.below hb A.o.lt).cell 0⟩;have Y:((w.alloc (ze t a c)).alloc zc).heap.size≠F:=by have:=C.o; omega
   have Z:((w.alloc (ze t a c)).alloc zc).heap.size≠w.heap.size:=by have:=C.o; omega
   clear W f1;go_enter func90,ntmps90;go_wp2_with (go_at_call 65; refine(BR _ _).mono ?_; rintro e w' ⟨rfl,rfl⟩; rw[HV.o]);generalize ((w.alloc (ze t a c)).alloc zc)=i at *;go_region_held3 (λw'=>w'.cell? (zD F 1)=some (.func (.func 63) #[.agg #[.string u,.slice ra s rc,.map (some r)]] #[])/\w'.cell? (zD w.heap.size 0)=some (.string t.name)) (first|exact P|exact⟨g1,g0⟩|exact E9 P Y Z|exact E9 (E9 P Y Z) Y Z|go_keep)
    ((go_at_call 63; refine(aw.o _ (by first|exact(Ag _ _).drew|exact((Ag _ _).alloc (Al _) _).drew)).mono ?_; rintro e w1 ⟨D,T,rfl,ao,a1⟩; have a6:=Aa a1; clear a1; (first|(have B:=MH ao; have P:=au.o _ B)|(have B:=MI ao; have xb:=Aa (MJ ao); have x0:=xb.o.cell 0; have x1:=xb.o.cell 1; have xf:=xb.o.frozen; have P:=au.o _ B))))
   ·generalize hz:(w1.alloc (Obj.cells #[Value.string x.name,Value.slice D x.args.length T] 31))=d at *;have ab:Below i.heap.size i d:=by rw[<-hz]; exact B.alloc B.size _
    have av:Hid (Sl d (λb=>X b/\b<w.heap.size) D x.args):=by rw[<-hz]; exact a6.o.later ((Ag _ _).alloc (Al _) _)
    have q0:d.cell? (zD w1.heap.size 0)=some (.string x.name):=by rw[<-hz]; exact(Ac.new w1 _ _).cell 0
    have q1:d.cell? (zD w1.heap.size 1)=some (.slice D x.args.length T):=by rw[<-hz]; exact(Ac.new w1 _ _).cell 1
    have aq:Hid (w.heap.size+2<=d.heap.size):=Bf C.o ab.size;have g:=Aa ab;clear ab hz;go_wp2_with fail;refine(JS F _ x n _ d (λb=>X b/\b<w.heap.size) ⟨D,T,rfl,av.o⟩ (λb hb=>az b hb.1) hn (z.o.below g.o z.o.lt)).mono ?_;rintro e w9 ⟨s',a',l',c',m,rfl,j,aa,k,q⟩;have f:=Aa ((E.o.below g.o E.o.lt).ex aa (by omega));have G:=Aa ((V.o.trans (Ex.ofBelow g.o)).trans aa);have I:=Aa j;have J:=Aa k;have M:=Aa q;clear j aa k q;have N:=f.o.c0;have O:=f.o.c1;have rf:=f.o.frozen;go_wp2_with fail;refine Aq (v:=.agg #[.string s',.slice a' l' c']) (by simp[results,results90,go_sem,Az,Aw,N,O]) rfl ?_;rw[U.o];exact G3 (by omega) aq.o I.o G.o J.o M.o
   ·generalize hz:((w1.setCell { block:=i.heap.size,off:=0} (Value.string x.name)).setCell { block:=i.heap.size,off:=1} (Value.slice D x.args.length T))=d at *;have ab:Below i.heap.size i d:=by rw[<-hz]; exact(B.setCell (Al _) _).setCell (Al _) _
    have av:Hid (Sl d (λb=>X b/\b<w.heap.size) D x.args):=(by rw[<-hz];refine a6.o.kept λb hb=>?_;have hb2:=hb.2;have aC:=C.o;rw[An _ _ _ _ (by simp; omega),An _ _ _ _ (by simp; omega)]);have q0:d.cell? (zD i.heap.size 0)=some (.string x.name):=by rw[<-hz]; simp[Az,Aw,x0,x1]
    have q1:d.cell? (zD i.heap.size 1)=some (.slice D x.args.length T):=by rw[<-hz]; simp[Az,Aw,x0,x1]
    have aq:Hid (w.heap.size+2<=d.heap.size):=Bf C.o ab.size;have g:=Aa ab;clear ab hz;go_wp2_with fail;refine(JS F _ x n _ d (λb=>X b/\b<w.heap.size) ⟨D,T,rfl,av.o⟩ (λb hb=>az b hb.1) hn (z.o.below g.o z.o.lt)).mono ?_;rintro e w9 ⟨s',a',l',c',m,rfl,j,aa,k,q⟩;have f:=Aa ((E.o.below g.o E.o.lt).ex aa (by omega));have G:=Aa ((V.o.trans (Ex.ofBelow g.o)).trans aa);have I:=Aa j;have J:=Aa k;have M:=Aa q;clear j aa k q;have N:=f.o.c0;have O:=f.o.c1;have rf:=f.o.frozen;go_wp2_with fail;refine Aq (v:=.agg #[.string s',.slice a' l' c']) (by simp[results,results90,go_sem,Az,Aw,N,O]) rfl ?_;rw[U.o];exact G3 (by omega) aq.o I.o G.o J.o M.o
  |none=>
   have U:Hid (fT ls t=⟨t.name,fL ls t.args⟩):=Aa (by unfold fT fN;rw[HV.o,W];rfl);have aw:Hid (∀w',Below ((w.alloc (ze t a c)).alloc zc).heap.size ((w.alloc (ze t a c)).alloc zc) w'->Calls prog 63 #[.agg #[.string u,.slice ra s rc,.map (some r)],.string t.name] w' λe R=>e=.returned (.tuple #[.agg zd,.bool false])/\Below w'.heap.size w' R):=λw' hb=>by
    obtain⟨h2,h3⟩:=E0.o.later hb;refine(Si ls t.name r s rc u ra L w' X h2 h3).mono λe R hp=>?_;obtain⟨hb2,hc⟩:=hp;rcases hc with ⟨x,_,_,hx,_⟩|⟨_,he⟩
    ·rw[W]at hx; cases hx
    ·exact⟨he,hb2⟩
   have au:Hid (∀w',Below ((w.alloc (ze t a c)).alloc zc).heap.size ((w.alloc (ze t a c)).alloc zc) w'->w'.cell? (zD F 1)=some (.func (.func 63) #[.agg #[.string u,.slice ra s rc,.map (some r)]] #[])/\w'.cell? (zD w.heap.size 0)=some (.string t.name)):=λw' hb=>⟨(z.o.below hb z.o.lt).cell 1,(A.o.below hb A.o.lt).cell 0⟩;have Y:((w.alloc (ze t a c)).alloc zc).heap.size≠F:=by have:=C.o; omega
   have Z:((w.alloc (ze t a c)).alloc zc).heap.size≠w.heap.size:=by have:=C.o; omega
   clear W f1;go_enter func90,ntmps90;go_wp2_with (go_at_call 65; refine(BR _ _).mono ?_; rintro e w' ⟨rfl,rfl⟩; rw[HV.o]);generalize ((w.alloc (ze t a c)).alloc zc)=i at *;go_region_held3 (λw'=>w'.cell? (zD F 1)=some (.func (.func 63) #[.agg #[.string u,.slice ra s rc,.map (some r)]] #[])/\w'.cell? (zD w.heap.size 0)=some (.string t.name)) (first|exact P|exact⟨g1,g0⟩|exact E9 P Y Z|exact E9 (E9 P Y Z) Y Z|go_keep)
    ((go_at_call 63; refine(aw.o _ (by first|exact(Ag _ _).drew|exact((Ag _ _).alloc (Al _) _).drew)).mono ?_; rintro e w1 ⟨rfl,ao⟩; (first|(have B:=MH ao; have P:=au.o _ B)|(have B:=MI ao; have xb:=Aa (MJ ao); have x0:=xb.o.cell 0; have x1:=xb.o.cell 1; have xf:=xb.o.frozen; have P:=au.o _ B))))
   ·generalize hz:(w1.alloc (Obj.cells #[Value.string { data:=#[]},Value.slice none 0 0] 31))=d at *;have ab:Below i.heap.size i d:=by rw[<-hz]; exact B.alloc B.size _
    have t0:d.cell? (zD w.heap.size 0)=some (.string t.name):=(A.o.below ab A.o.lt).cell 0;have t1:d.cell? (zD w.heap.size 1)=some (.slice a t.args.length c):=(A.o.below ab A.o.lt).cell 1;have aq:Hid (w.heap.size+2<=d.heap.size):=Bf C.o ab.size;have g:=Aa ab;clear ab;go_wp2_with fail;refine(H.o _ (S0.o.later g.o) (z.o.below g.o z.o.lt) (E0.o.later g.o)).mono ?_;rintro e w9 ⟨s',a',l',c',m,rfl,j,aa,k,q⟩;have f:=Aa ((E.o.below g.o E.o.lt).ex aa (by omega));have G:=Aa ((V.o.trans (Ex.ofBelow g.o)).trans aa);have I:=Aa j;have J:=Aa k;have M:=Aa q;clear j aa k q;have N:=f.o.c0;have O:=f.o.c1;have rf:=f.o.frozen;go_wp2_with fail;refine Aq (v:=.agg #[.string s',.slice a' l' c']) (by simp[results,results90,go_sem,Az,Aw,N,O]) rfl ?_;rw[U.o];exact G3 (by omega) aq.o I.o G.o J.o M.o
   ·generalize hz:((w1.setCell { block:=i.heap.size,off:=0} (Value.string { data:=#[]})).setCell { block:=i.heap.size,off:=1} (Value.slice none 0 0))=d at *;have ab:Below i.heap.size i d:=by rw[<-hz]; exact(B.setCell (Al _) _).setCell (Al _) _
    have t0:d.cell? (zD w.heap.size 0)=some (.string t.name):=(A.o.below ab A.o.lt).cell 0;have t1:d.cell? (zD w.heap.size 1)=some (.slice a t.args.length c):=(A.o.below ab A.o.lt).cell 1;have aq:Hid (w.heap.size+2<=d.heap.size):=Bf C.o ab.size;have g:=Aa ab;clear ab;go_wp2_with fail;refine(H.o _ (S0.o.later g.o) (z.o.below g.o z.o.lt) (E0.o.later g.o)).mono ?_;rintro e w9 ⟨s',a',l',c',m,rfl,j,aa,k,q⟩;have f:=Aa ((E.o.below g.o E.o.lt).ex aa (by omega));have G:=Aa ((V.o.trans (Ex.ofBelow g.o)).trans aa);have I:=Aa j;have J:=Aa k;have M:=Aa q;clear j aa k q;have N:=f.o.c0;have O:=f.o.c1;have rf:=f.o.frozen;go_wp2_with fail;refine Aq (v:=.agg #[.string s',.slice a' l' c']) (by simp[results,results90,go_sem,Az,Aw,N,O]) rfl ?_;rw[U.o];exact G3 (by omega) aq.o I.o G.o J.o M.o
attribute [local go_sem] Ho
abbrev Ft:=Pr×List Bd
def Bs (rs:List Pr) (x:Tm):List Ft:=rs.filterMap λp=>(AX p.l x []).map λh=>(p,h)
theorem Zo (h:k<rs.length) (h0:AX rs[k].l x []=none):Bs (rs.take (k+1)) x=Bs (rs.take k) x:=by
 unfold Bs;rw[Ci h,List.filterMap_append];simp[h0]
theorem Zq {g:List Bd} (h:k<rs.length) (h0:AX rs[k].l x []=some g):Bs (rs.take (k+1)) x=Bs (rs.take k) x++[(rs[k],g)]:=by
 unfold Bs;rw[Ci h,List.filterMap_append];simp[h0]
theorem Zr (rs:List Pr) (x:Tm) (k:Nat):Bs rs x=Bs (rs.take k) x++Bs (rs.drop k) x:=by
 unfold Bs;rw[<-List.filterMap_append,DM]
def Gx (x:Ft) (args:Array Value) (W:World) (Z:Nat->Prop):Prop:=
 ∃ra rc q L,args=#[.agg #[.string x.1.r.name,.slice ra x.1.r.args.length rc,.map (some q)]]/\Sl W Z ra x.1.r.args/\Z q/\Dy W q Z x.2 L
theorem Sk {w:World} {Y:Nat->Prop}:∀ {a:List Bc},(∀x∈a,Sl w Y x.2.1 x.1.t.args)->DC w Y (a.map (·.1)) (a.map Hq)
 | [],_=>rfl
 |x::r,h=>⟨x.2.1,x.2.2,_,rfl,h x (by simp),Sk λy hy=>h y (by simp[hy])⟩
def Zs {J:Tk Ft} (w:World) (f:Nat->Prop) (pre:List Ft) (rs:List Pr) (x:Tm) (i:Value) (wr:World):Prop:=
 ∃(k:Nat) (f':Nat->Prop),k<=rs.length/\i=zA k/\J (pre++Bs (rs.take k) x) true f' wr/\Ak f w wr/\∀b,f' b->f b∨w.heap.size<=b
theorem Sm {J:Tk Ft} {all:List Ft} (O:EQ J K) (lp:Nat) (P:Hu lp Gx J all S) (rs:List Pr) (x:Tm) (R T:Nat) (U:Value) (aa:Option Addr) (ca:Nat) (pre:List Ft) (f:Nat->Prop) (w:World) (X:Nat->Prop) (t:Ac w R #[U] 23) (hu:QV w X U rs) (G:Ac w T (zF x aa ca) 31) (hs:Sl w X aa x.args) (V:∀b,X b->b<w.heap.size/\¬f b) (aW:¬f R) (aH:¬f T) (hj:J pre true f w) (W:(pre++Bs rs x) <+: all):
  Calls prog 87 #[.func (.yield lp) #[] #[],zC R,zC T] w λe w'=>OT J (Bs rs x) pre f S w e w':=by
 have aI:=Aa W;clear W;have HU:=Aa hu;have HS:=Aa hs;have u:=Aa V;have s:=Aa O;have aJ:=Aa P;have HT:=Aa G;have aK:=Aa hj;have r0:=t.cell 0;have aX:=t.lt;have aY:=G.lt;obtain⟨ua,uc,rfl,aZ,_⟩:=hu;clear hs V O P G hj t;simp only[D7,Ei] at r0;go_enter func87,ntmps87;go_wp2_with fail;go_loopw [10] (λv wr=>Zs (J:=J) w f pre rs x v wr) (λv wr=>rs.length-(intOf v).toNat);case atStart=>exact⟨0,f,Be _,rfl,by simpa [Bs] using aK.o,Ak.refl _ _,λb hb=>Ae hb⟩
 case round=>
  obtain⟨k,f2,hk,rfl,Z,z,ai⟩:=hrel;have c:=Aa Z;have A:=Aa z;have ab:=Aa ai;have aL:Hid (∀b,X b->b<wr.heap.size/\¬f2 b):=λb hb=>⟨B7 (u.o b hb).1 z.size,λh=>by
   rcases ab.o b h with h|h
   ·exact(u.o b hb).2 h
   ·have:=(u.o b hb).1; omega⟩
  have H:=Aa (HT.o.exq z aH);have aM:=Aa (HS.o.exq z λb hb=>(u.o b hb).2);have aN:Hid (QV wr X (.slice ua rs.length uc) rs):=((HU.o.mono (Y:=λb=>X b/\b<w.heap.size) λb h1 h2=>⟨h1,h2⟩).kept λb hb=>A.o.block b hb.2 (u.o b hb.1).2).mono λb hb _=>hb.1;clear Z z ai;by_cases I:k<rs.length
  ·obtain⟨b,o,a1,c1,a2,c2,rfl,d0,d1,d2,d3,a6,a7⟩:=aN.o.get k I;have aO:(k:Int)<(rs.length:Int):=(by omega);have aP:=Aa a6;have aQ:=Aa a7;have aR:=λh=>Aa (Zo (x:=x) I h);have av:=λg h=>Aa (Zq (x:=x) (g:=g) I h);have L:=Aa (Zr rs x (k+1));have ba:=H.o.lt;clear a6 a7;generalize rs[k]=d at *;have t0:∀o,(wr.alloc o).cell? (zD T 0)=some (.string x.name):=λo=>(H.o.alloc o).cell 0;have t1:∀o,(wr.alloc o).cell? (zD T 1)=some (.slice aa x.args.length ca):=λo=>(H.o.alloc o).cell 1;have B:Below wr.heap.size wr (wr.alloc (zh (zi d a1 c1 a2 c2) 34)):=(Ag _ _).alloc (Al _) _;have m:=Aa B;have P0:=Aa (Ac.new wr (zi d a1 c1 a2 c2) 34);refine(wpIn_wide (n:=1)).1 ?_;gi_wp2
   clear t0 t1 d0 d1 d2 d3;refine⟨trivial,(CP.2 (Zn d.l x _ _ _ X ⟨a1,c1,rfl,aP.o.later B⟩ ⟨aa,ca,rfl,aM.o.later B⟩)).mono ?_⟩;clear B;rintro e w3 ⟨a,⟨h0,rfl⟩|⟨h',q,Z',h0,rfl,a8,C,hq⟩⟩
   ·have M:Hid (J (pre++Bs (rs.take k) x) true f2 w3):=s.o.abide c.o (Bf m.o.size a.size) λj hj=>((a.block j (by have:=s.o.inside c.o j hj; simp; omega))).trans (m.o.block j (s.o.inside c.o j hj));have D:Hid (Ak f w w3):=(A.o.trans (Ak.ofBelow m.o)).trans (Ak.ofBelow a);have HN:=aR h0;clear a h0;gi_wp2
    refine⟨λ_ h=>(by cases h),?_⟩;gi_wp2
    go_roundw
    case rel=>exact⟨k+1,f2,by omega,by go_num,by rw[HN.o]; exact M.o,D.o,ab.o⟩
    case measure=>simp[intOf]; omega
   ·have bb:=Bf m.o.size a.size;have M:Hid (J (pre++Bs (rs.take k) x) true f2 w3):=s.o.abide c.o (Bf m.o.size a.size) λj hj=>((a.block j (by have:=s.o.inside c.o j hj; simp; omega))).trans (m.o.block j (s.o.inside c.o j hj));have D:Hid (Ak f w w3):=(A.o.trans (Ak.ofBelow m.o)).trans (Ak.ofBelow a);have N:=av h' h0;have P3:=Aa (P0.o.below a P0.o.lt);have p2:=P3.o.c2;have p3:=P3.o.c3;have bc:wr.heap.size<=q:=by simp at hq; omega
    have aA:Sl w3 X a2 d.r.args:=(aQ.o.later m.o).later a;have aS:=aJ.o 0 _ (d,h') #[.agg #[.string d.r.name,.slice a2 d.r.args.length c2,.map (some q)]] (λb=>(X b∨b=q)/\b<w3.heap.size) f2 w3 (List.IsPrefix.trans ⟨Bs (rs.drop (k+1)) x,by rw[L.o,N.o]; simp⟩ aI.o) M.o ⟨a2,c2,q,Z'.map Hq,rfl,aA.mono λb hb E=>⟨Ae hb,E⟩,⟨Ad rfl,C.1.lt⟩,C.1,by rw[<-a8]; exact Sk λy hy=>(C.2 y hy).mono λb hb E=>⟨Ae hb.1,E⟩⟩ (λb hb=>⟨hb.2,λh=>by
     rcases hb.1 with h1|h1
     ·exact(aL.o b h1).2 h
     ·have:=s.o.inside c.o b (Ae h); omega⟩)
    obtain⟨bd,aB,aT,aC,hy,t⟩:=aS;have HR:=Aa t;clear t C a8 h0 a aA;gi_wp2
    refine HR.o.mono ?_;rintro e W5 ⟨s5,rfl,f5,aD,F,aj,aE⟩;have aU:=Aa aE;clear aE;have aF:=Aa aD;have bf:=Aa F;have ax:=Aa aj;have bg:=F.size;have aG:Hid (Ak f w W5):=D.o.transN F λi hi E=>by
     rcases ab.o i hi with h|h
     ·exact h
     ·omega
    have ak:Hid (∀b,f5 b->f b∨w.heap.size<=b):=λb hb=>by
     have:=D.o.size;rcases ax.o b hb with h|h
     ·exact ab.o b h
     ·right; omega
    clear aD F aj hy;cases s5 with
    |true=>
     gi_wp2
     go_roundw
     case rel=>exact⟨k+1,f5,by omega,by go_num,by rw[N.o]; simpa using aF.o,aG.o,ak.o⟩
     case measure=>simp[intOf]; omega
    |false=>
     gi_wp2
     refine Aq (results_none rfl _ _ _) rfl ?_;refine⟨⟨_,rfl⟩,false,⟨(Bs (rs.take (k+1)) x).length,f5,by rw[L.o]; simp,by simp,?_,aG.o.mono λb hb _=>Ae hb,ak.o⟩,λ_=>aU.o rfl⟩;rw[L.o,List.take_left,N.o];simpa using aF.o
  ·have aV:rs.take k=rs:=BH (by omega);rw[aV]at c;have bh:¬((k:Int)<(rs.length:Int)):=(by omega);go_wp2_with fail;go_end0
   exact⟨⟨_,rfl⟩,true,⟨(Bs rs x).length,f2,Al _,λ_=>rfl,by rw[D8]; exact c.o,A.o.mono λb hb _=>Ae hb,ab.o⟩,λh=>by cases h⟩
def JL {α β:Type} (J:Tk α) (K':Nat->Prop) (G:β->List α) (pre:List α) (L:Nat) (r rd:Loop) (W0:World):Tk β:=λpre2 s f2 W=>
 ∃(f:Nat->Prop) (m:Nat),(∀b,f2 b↔f b∨b=L)/\m<=(pre2.flatMap G).length/\(s=true->m=(pre2.flatMap G).length)/\J (pre++(pre2.flatMap G).take m) s f W/\¬f L/\W.heap[L]? = some (.loop (if s=true then r else rd))/\(∀b,K' b->b<W0.heap.size/\¬f b/\b≠L)/\W0.heap.size<=W.heap.size/\∀b,K' b->W.heap[b]? = W0.heap[b]?
theorem JL.ok {J:Tk α} {G:β->List α} {pre:List α} {r rd:Loop} (i:EQ J K) (k:∀b,K b->c b):EQ (JL J c G pre L r rd W0) c where
 inside:=by
  rintro j s f2 W ⟨f,m,aa,hm,d,hj,e,a,ab,hz,g⟩ b hb;rcases hb with hb|hb
  ·rcases(aa b).1 hb with h|h
   ·exact i.inside hj b (Ae h)
   ·subst h; exact(CO.1 a).1
  ·have:=(ab b hb).1; omega
 apart:=by
  rintro j s f2 W ⟨f,m,aa,hm,d,hj,e,a,ab,hz,g⟩ b hb h;rcases(aa b).1 h with h|h
  ·exact(ab b hb).2.1 h
  ·exact(ab b hb).2.2 h
 abide:=by
  rintro j s f2 W W' ⟨f,m,aa,hm,d,hj,e,a,ab,hz,g⟩ hs hk;refine⟨f,m,aa,hm,d,i.abide hj hs (λb hb=>hk b ?_),e,(hk L (Ae ((aa L).2 (Ad rfl)))).trans a,ab,Bf hz hs,λb hb=>(hk b (Ad hb)).trans (g b hb)⟩;rcases hb with hb|hb
  ·exact Ae ((aa b).2 (Ae hb))
  ·exact Ad (k b hb)
theorem Zt (G:β->List α) (all:List β) (m1 m:Nat) (h:m<=((all.take m1).flatMap G).length):((all.take m1).flatMap G).take m=(all.flatMap G).take m/\m<=(all.flatMap G).length:=by
 have e:all.flatMap G=(all.take m1).flatMap G++(all.drop m1).flatMap G:=by rw[<-Hn,DM]
 rw[e];exact⟨(Hl h).symm,by rw[Cv]; omega⟩
theorem B9.unJL {J:Tk α} {G:β->List α} {pre:List α} {r rd:Loop} {W W':World} {all:List β} {f2 g:Nat->Prop} {s:Bool} (h:B9 (JL J c G pre L r rd W0) all [] f2 g W s W'):
  ∃(a:Nat->Prop) (m:Nat),m<=(all.flatMap G).length/\(s=true->m=(all.flatMap G).length)/\J (pre++(all.flatMap G).take m) s a W'/\¬a L/\W'.heap[L]? = some (.loop (if s=true then r else rd))/\(∀b,c b->b<W'.heap.size/\¬a b/\b≠L/\W'.heap[b]? = W0.heap[b]?)/\Ak (λb=>f2 b∨g b) W W'/\∀b,a b->f2 b∨W.heap.size<=b:=by
 obtain⟨m1,f3,ah,d,⟨f,m,e,hm,ab,hj,i,j,aa,hz,k⟩,he,l⟩:=h;rw[CE]at hm ab hj;obtain⟨n,o⟩:=Zt G all m1 m hm;refine⟨f,m,o,λh=>?_,by rw[<-n]; exact hj,i,j,λb hb=>⟨by have:=(aa b hb).1; omega,(aa b hb).2.1,(aa b hb).2.2,k b hb⟩,he,λb hb=>l b ((e b).2 (Ae hb))⟩;have:=d h;subst this;rw[ab h,D8]
theorem JL.start {J:Tk α} {a f:Nat->Prop} {G:β->List α} {pre:List α} {r rd:Loop} (hj:J pre true f W0) (aa:¬f L) (c:W0.heap[L]? = some (.loop r)) (d:∀b,a b->b<W0.heap.size/\¬f b/\b≠L):JL J a G pre L r rd W0 [] true (λb=>f b∨b=L) W0:=
 ⟨f,0,λb=>Iff.rfl,Be _,λ_=>rfl,by simpa using hj,aa,c,d,Al _,λb _=>rfl⟩
