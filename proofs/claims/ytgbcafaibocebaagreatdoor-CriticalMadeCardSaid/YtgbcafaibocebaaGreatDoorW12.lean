import Derived.Test.YtgbcafaibocebaaGreatDoorZDCriticalMadeOwn
namespace Go.Proofs.YtgbcafaibocebaaGreatDoor
set_option linter.all false
set_option maxRecDepth 20000
set_option maxHeartbeats 8000000
open Go.RowKit Go.Proofs.Tryz
theorem Qd {w wr w1 w3:World} {M T:Nat} {Y:Nat->Prop} {u:Value} {L:List Tm} {t:Tm} {xs:List Value} {c:Obj} {s s':ByteArray} {a1:Option Addr} {e c1 g cap n:Nat} (hn:L.length=n) (aa:AK wr (M+1) T Y u L xs) (hb:Below w.heap.size w wr) (k:w.heap.size<=M) (f:∀b,Y b->b<w.heap.size)
  (h2:Ac wr M #[.string s,u] T) (l:M+1<=wr.heap.size)
  (ab:Below wr.heap.size wr w1) (ht:TV w1 (λb=>Y b∨wr.heap.size<=b) (.agg #[.string s',.slice a1 e c1]) t)
  (m:w3.ownsRow (M+1) T 2 (.slice (some (zD g 0)) (n+1) cap) (n+1) (xs++[.string s',.slice a1 e c1])) (d:(w1.alloc c).grownBy w3 u.ownBlock) (o:u.ownBlock=some g∨g=(w1.alloc c).heap.size):
  let a:=w3.setCell (zD M 1) (.slice (some (zD g 0)) (n+1) cap)
  AK a (M+1) T Y (.slice (some (zD g 0)) (n+1) cap) (L++[t]) (xs++[.string s',.slice a1 e c1])/\Below w.heap.size w a/\(∀b cs,b<M->Ac wr b cs T->Ac a b cs T)/\Ac a M #[.string s,.slice (some (zD g 0)) (n+1) cap] T/\M+1<=a.heap.size:=by
 intro a;subst hn;have q:=aa.own.lt;have ak:=ab.size;have r:=d.size;simp at r;have hp:=aa.push (w1:=w1) (w2:=w1.alloc c) (w3:=w3) l (λb h=>by have:=f b h; omega) ab ht c rfl m d o;have v:Below w.heap.size w w3:=((hb.trans (ab.mono hb.size)).alloc (by have:=hb.size; omega) c).grown d (by have:=hb.size; simp; omega) (λj hj=>by have:=(q j hj).1; omega);have x:Below w.heap.size w a:=v.setCell (p:=(zD M 1)) k _;have i:∀b cs,b<M+1->Ac wr b cs T->Ac w3 b cs T:=λb cs hb h=>((h.below ab h.lt).alloc c).grown d (aa.ne hb);refine⟨hp.setCell (by omega) (λh=>by have:=f _ h; omega) _,x,λb cs hb h=>(i b cs (by omega) h).setOther _ _ (by omega),(i _ _ (by omega) h2).set 1 _,by simp[a,World.setCell]; omega⟩
theorem Qe {wr w1 w3:World} {a:Obj} {M T:Nat} {Y:Nat->Prop} {u:Value} {L:List Tm} {xs:List Value} {b:Nat} {cs:Array Value} (aa:AK wr (M+1) T Y u L xs) (h:Ac wr b cs T) (ab:Below wr.heap.size wr w1) (c:(w1.alloc a).grownBy w3 u.ownBlock) (d:b<M+1):Ac w3 b cs T:=
 ((h.below ab h.lt).alloc a).grown c (aa.ne d)
theorem Qf {w w':World} {N T size:Nat} {v:Value} {n:Nat} {xs:List Value} (h:w.ownsRow N T size v n xs) (hb:Below w.heap.size w w'):w'.ownsRow N T size v n xs:=
 h.kept (w':=w') (row:=none) ⟨hb.os,hb.tape,hb.output,hb.size,λj hj _=>hb.block j hj⟩ (by rcases Gx (Value.ownBlock v) with h|⟨x,h⟩; exact Ad h; exact Ae (by rw[h]; simp))
def Lb (w:World) (X:Nat->Prop) (x:Tm) (zs:List Int) (z:Int) (s:ByteArray) (l:List Tm) (a:Option Addr) (c:Nat) (ax:Option Addr) (cx:Nat) (i:Value) (wr:World):Prop:=
 ∃(k:Nat) (q:Value) (xs:List Value),k<=l.length/\i=zA k/\AK wr (w.heap.size+1+1+1+1) 33 X q ((BR (AP x zs) z 0 l).take k) xs/\Below w.heap.size w wr/\Ac wr w.heap.size #[.string s,.slice a l.length c] 33/\Ac wr (w.heap.size+1) (zF x ax cx) 33/\Ac wr (w.heap.size+1+1) #[.string ⟨#[]⟩,zB] 33/\Ac wr (w.heap.size+1+1+1) #[.string s,q] 33/\w.heap.size+1+1+1+1<=wr.heap.size
theorem Qg (s:ByteArray) (a:Option Addr) (n c:Nat):∀u∈[Value.string s,.slice a n c],u.oneCell'=true:=λx hx=>by
 simp at hx; rcases hx with rfl|rfl<;>rfl
theorem JV {wr w1:World} (aa:Below wr.drew.heap.size wr.drew w1):Below wr.heap.size wr w1:=(below_drewN (Af _ _) 1).trans aa
theorem MU (x:Tm) (d:List Int):∀(t:Tm) (v p u:Value) (w:World) (X:Nat->Prop),TV w X v t->PV w X p d->TV w X u x->Ab [t]<=1000000->
  Calls prog 41 #[v,p,u] w λe w'=>∃v',e=.returned v'/\TV w' (λb=>X b∨w.heap.size<=b) v' (AP x d t)/\Below w.heap.size w w':=by
 induction d with
 |nil=>intro t v p u w X hv hp hu aK;obtain⟨a,c,rfl,hs⟩:=hv;obtain⟨f,j,rfl,L⟩:=hu;obtain⟨pa,m,rfl,O,hz⟩:=hp;go_enter func41,ntmps41;go_wp2_with fail;refine An (v:=.agg (zF x f j)) (by simp[results,results41,go_sem]) rfl ⟨_,rfl,?_,Fr _ _ _⟩;exact⟨f,j,by simp[AP],((L.later (Fr _ _ _)).mono λb h _=>Ad h)⟩
 |cons z d ih=>
  intro t v p u w P aL aM aN aK;have IH:=Aa ih;clear ih;obtain⟨X,R,aO,hv,hp,hu⟩:∃X:Nat->Prop,(∀b,X b->b<w.heap.size)/\(∀b,X b->P b)/\TV w X v t/\PV w X p (z::d)/\TV w X u x:=⟨λb=>P b/\b<w.heap.size,λ_ h=>h.2,λ_ h=>h.1,aL.mono λb h1 h2=>⟨h1,h2⟩,aM.mono λb h1 h2=>⟨h1,h2⟩,aN.mono λb h1 h2=>⟨h1,h2⟩⟩;clear aL aM aN;obtain⟨a,c,rfl,hs⟩:=hv;obtain⟨f,j,rfl,L⟩:=hu;have HU:=Aa (show TV w X (.agg (zF x f j)) x from ⟨f,j,rfl,L⟩);clear L;obtain⟨pa,m,rfl,O,hz⟩:=hp;obtain⟨b,o,rfl,GP,T⟩:=hz.resolve_left (λh=>by cases h);have h0:=T 0 (by simp);simp only[F9,EI] at h0;have bm:=hs.1;have aA:d.length+1<=9223372036854775807/\d.length+1<=m:=by simpa using O
  obtain⟨aB,au⟩:=aA;obtain⟨s,l⟩:=t;have C:Ab [(⟨s,l⟩:Tm)]=1+Ab l:=by simp[Ab]
  rw[C]at aK;clear C;have hlen:=EM l;obtain⟨i0,hi,aP,C,aQ⟩:=CE Tryz.infoTerm;obtain⟨D,aW,HT⟩:∃D:Option Addr,Hid ((if m=1 then some ((zD b o):Addr) else some ⟨b,o+1,none⟩)=D)/\Hid (PV w X (.slice D d.length (m-1)) d):=by
   by_cases h1:m=1
   ·refine⟨_,rfl,?_⟩;have:d=[]:=EK.1 (by omega);subst this;exact⟨_,_,rfl,by simp,Ad rfl⟩
   ·refine⟨_,rfl,?_⟩;rw[Aj h1];exact PV.tail ⟨aB,au⟩ GP T
  simp only[Bu] at *;clear T O hz;go_enter func41,ntmps41;go_wp2_with fail;go_loopw [8] (λi wr=>Lb w X x d z s l a c f j i wr) (λi wr=>l.length-(intOf i).toNat);case atStart=>
   unfold Lb;refine⟨0,zB,[],AG _,rfl,AK.start _ _ _ _,VG _ _ _ _,?_,?_,?_,?_,by simp⟩
   ·exact(((Ac.new w _ _).alloc _).alloc _).alloc _
   ·have:=((Ac.new (w.alloc (.cells #[.string s,.slice a l.length c] 33)) (zF x f j) 33).alloc (.cells #[.string ⟨#[]⟩,zB] 33)).alloc (.cells #[.string s,zB] 33);simpa using this
   ·have:=(Ac.new ((w.alloc (.cells #[.string s,.slice a l.length c] 33)).alloc (.cells (zF x f j) 33)) #[.string ⟨#[]⟩,zB] 33).alloc (.cells #[.string s,zB] 33);simpa using this
   ·have:=Ac.new (((w.alloc (.cells #[.string s,.slice a l.length c] 33)).alloc (.cells (zF x f j) 33)).alloc (.cells #[.string ⟨#[]⟩,zB] 33)) #[.string s,zB] 33;simpa using this
  case round=>
   obtain⟨k,q,xs,hk,rfl,E,hb,M,F,r,y,aR⟩:=hrel;have N:=Aa E;have G:=Aa hb;have aw:=Aa M;have ay:=Aa F;have az:=Aa r;have ab:=Aa y;have bn:=M.c1;have bo:=F.c0;have bp:=F.c1;have bq:=y.c0;have br:=y.c1;have aX:∀o,(wr.alloc o).cell? (zD (w.heap.size+1+1+1) 1)=some q:=λo=>(y.alloc o).cell 1;have bs:=cell_later hb h0;by_cases U:k<l.length
   ·obtain⟨b1,o1,a',c',rfl,d0,d1,hx⟩:=hs.get hb (λ_ _ h=>h) k U;have HX:=Aa hx;have aS:=Aa (Wl (AP x d) z l k U);have V:((BR (AP x d) z 0 l).take k).length=k:=by rw[H9,Hg]; omega
    have aT:=Aa V;have a1:Hid (wr.ownsRow (w.heap.size+1+1+1+1) 33 2 q k xs):=by have:=E.own; rw[V] at this; exact this
    have aD:Ab [l[k]]<=1000000:=(by have:=De l k U; have:=Df l (k+1); omega);clear M F r y hb hx E V;by_cases A:(k:Int)=z
    ·have W:=Aa A;have aF:((k:Int)==z)=true:=(by simpa using A);clear A;have aY:Hid (PV wr.drew X (.slice D d.length (m-1)) d):=HT.o.later (G.o.drew);have aZ:Hid (TV wr.drew X (.agg (zF x f j)) x):=HU.o.later (G.o.drew);have ba:(1:Int)<=(d.length:Int)+1:=(by omega);have bb:∀w':World,Sem.run prog (Instr.slice 22 (.slice (some (zD b o)) (d.length+1) m) (some (zA 1)) none none) w'=.ok (.slice D d.length (m-1)) w':=λw'=>by
      rw[PW b o d.length m au w',aW.o]
     go_wp2_with fail;go_region_law (first
      | (refine step_append_lies _ rfl _ _ 31 rfl (w.heap.size+1+1+1+1) 33 i0 _ 2 40 underlying31 hi aP C aQ rfl (by decide) q k xs rfl (by exact(Qf a1.o (JV B)).alloc _) (zD w1.heap.size 0) 1 1 [.string Y,.slice a9 n9 c9] rfl rfl (by exact cell_two_new _ _ _ _) (Qg _ _ _ _) (by decide) (by unfold maxLen; omega) (by omega) (by have:=B.size; simp at this ⊢; omega) _ rfl ?_; intro g cap w3 H aa I aG; have J:=Aa (Qe N.o ab.o (JV B) aa (D8 _)); have bc:w3.cell? (zD (w.heap.size+1+1+1) 1)=some q:=J.o.cell 1; have bd:=J.o.frozen 1)
      | (go_simp; go_at_call 41; refine(IH.o _ _ _ _ _ X (by exact HX.o.later (below_drewN (Af _ _) 1)) (by exact aY.o) (by exact aZ.o) aD).mono ?_; rintro e w1 ⟨v1,rfl,bf,B⟩; obtain⟨a9,c9,rfl,bg⟩:=bf; (try unfold zF); generalize aH:(AP x _ l[k]).name=Y; (try unfold zF); generalize aI:(AP x _ l[k]).args.length=n9; have bt:∀o,(w1.alloc o).cell? (zD (w.heap.size+1+1+1) 1)=some q:=λo=>((ab.o.below (JV B) ab.o.lt).alloc o).cell 1; have bu:w1.cell? (zD (w.heap.size+1+1+1) 1)=some q:=(ab.o.below (JV B) ab.o.lt).cell 1))
     all_goals
      have Z:=Aa (Qd aT.o N.o G.o (by omega) R ab.o aR (JV B) (show TV w1 _ (.agg #[.string Y,.slice a9 n9 c9]) _ from ⟨a9,c9,by first|rw[aH,aI]|(unfold zF;rw[aH,aI]),bg⟩) H aa I);clear H aa I;go_wp2_with fail;go_roundw
      case rel=>obtain⟨r1,r2,n,r4,r5⟩:=Z.o;unfold Lb;refine⟨k+1,_,xs++[.string Y,.slice a9 n9 c9],by omega,by go_num,?_,r2,n _ _ (by omega) aw.o,n _ _ (by omega) ay.o,n _ _ (by omega) az.o,r4,r5⟩;rw[aS.o,Ar W.o];exact r1
      case measure=>simp[intOf]; omega
    ·have aF:((k:Int)==z)=false:=(by simpa using A);have W:=Aa A;clear A;go_wp2_with fail;go_region_law (first
      | (refine step_append_lies _ rfl _ _ 31 rfl (w.heap.size+1+1+1+1) 33 i0 _ 2 40 underlying31 hi aP C aQ rfl (by decide) q k xs rfl (by exact(Qf a1.o (below_drewN (Af _ _) 1)).alloc _) (zD wr.heap.size 0) 1 1 [.string l[k].name,.slice a' l[k].args.length c'] rfl rfl (by exact cell_two_new _ _ _ _) (Qg _ _ _ _) (by decide) (by unfold maxLen; omega) (by omega) (by simp; omega) _ rfl ?_; intro g cap w3 H aa I aG; have J:=Aa (Qe N.o ab.o (below_drewN (Af _ _) 1) aa (D8 _)); have bc:w3.cell? (zD (w.heap.size+1+1+1) 1)=some q:=J.o.cell 1; have bd:=J.o.frozen 1))
     all_goals
      have Z:=Aa (Qd aT.o N.o G.o (by omega) R ab.o aR (below_drewN (Af _ _) 1) ((HX.o.later (below_drewN (Af _ _) 1)).mono λb h _=>Ad h) H aa I);clear H aa I;go_wp2_with fail;go_roundw
      case rel=>obtain⟨r1,r2,n,r4,r5⟩:=Z.o;unfold Lb;refine⟨k+1,_,xs++[.string l[k].name,.slice a' l[k].args.length c'],by omega,by go_num,?_,r2,n _ _ (by omega) aw.o,n _ _ (by omega) ay.o,n _ _ (by omega) az.o,r4,r5⟩;rw[aS.o,Aj W.o];exact r1
      case measure=>simp[intOf]; omega
   ·have aJ:(BR (AP x d) z 0 l).take k=BR (AP x d) z 0 l:=AX (by rw[Hg]; omega);have bh:=r.c0;have bj:=r.c1;have rf:=r.frozen;obtain⟨a9,c9,aU,ao⟩:=E.sl;rw[aJ,Hg]at aU;rw[aJ]at ao;have bk:=Aa ao;subst aU;clear ao aJ M F r y E hb;go_wp2_with fail;refine An (v:=.agg #[.string s,.slice a9 l.length c9]) (by simp[results,results41,go_sem,bh,bj,Ay,Aw]) rfl ⟨_,rfl,?_,?_⟩
    ·refine⟨a9,c9,by simp[AP,Hg],?_⟩;have aV:Sl wr (λb=>X b∨w.heap.size+1+1+1+1<=b) a9 (BR (AP x d) z 0 l):=bk.o;have bw:Sl wr (λb=>P b∨w.heap.size<=b) a9 (AP x (z::d) ⟨s,l⟩).args:=by
      refine aV.mono λb hb _=>?_;rcases hb with hb|hb
      ·exact Ad (aO b hb)
      ·exact Ae (by omega)
     have bl:Sl wr (λb=>(X b∨w.heap.size+1+1+1+1<=b)) a9 (AP x (z::d) ⟨s,l⟩).args:=aV;refine(bl.kept λb hb=>?_).mono λb hb _=>?_
     ·have hne:b≠w.heap.size+1+1:=by
       rcases hb with hb|hb
       ·have:=R b hb; omega
       ·omega
      rw[Aq _ _ _ _ (by simpa using hne),Aq _ _ _ _ (by simpa using hne)]
     ·rcases hb with hb|hb
      ·exact Ad (aO b hb)
      ·exact Ae (by omega)
    ·exact(G.o.setCell (by simp; omega) _).setCell (by simp; omega) _
