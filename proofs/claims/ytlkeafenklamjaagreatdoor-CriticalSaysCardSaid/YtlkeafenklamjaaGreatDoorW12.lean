import Derived.Test.YtlkeafenklamjaaGreatDoorZCCriticalSaysOwn
namespace Go.Proofs.YtlkeafenklamjaaGreatDoor
set_option linter.all false
set_option maxRecDepth 20000
set_option maxHeartbeats 8000000
open Go.RowKit
theorem Pu {w wr w1 w3:World} {M T:Nat} {Y:Nat->Prop} {u:Value} {L:List Tm} {t:Tm} {xs:List Value} {o2:Obj} {s s':ByteArray} {a1:Option Addr} {n1 c1 g cap n:Nat} (hn:L.length=n) (hrow:AN wr (M+1) T Y u L xs) (hb:Below w.heap.size w wr) (hM:w.heap.size<=M) (hY:∀b,Y b->b<w.heap.size)
  (h2:Ac wr M #[.string s,u] T) (hsz:M+1<=wr.heap.size)
  (hb1:Below wr.heap.size wr w1) (ht:TV w1 (λb=>Y b∨wr.heap.size<=b) (.agg #[.string s',.slice a1 n1 c1]) t)
  (hown:w3.ownsRow (M+1) T 2 (.slice (some ⟨g,0,none⟩) (n+1) cap) (n+1) (xs++[.string s',.slice a1 n1 c1])) (hg:(w1.alloc o2).grownBy w3 u.ownBlock) (hat:u.ownBlock=some g∨g=(w1.alloc o2).heap.size):
  let w4:=w3.setCell ⟨M,1,none⟩ (.slice (some ⟨g,0,none⟩) (n+1) cap)
  AN w4 (M+1) T Y (.slice (some ⟨g,0,none⟩) (n+1) cap) (L++[t]) (xs++[.string s',.slice a1 n1 c1])/\Below w.heap.size w w4/\(∀b cs,b<M->Ac wr b cs T->Ac w4 b cs T)/\Ac w4 M #[.string s,.slice (some ⟨g,0,none⟩) (n+1) cap] T/\M+1<=w4.heap.size:=by
 intro w4
 subst hn
 have aa:=hrow.own.lt
 have hs1:=hb1.size
 have af:=hg.size
 simp at af
 have hp:=hrow.push (w1:=w1) (w2:=w1.alloc o2) (w3:=w3) hsz (λb h=>by have:=hY b h; omega) hb1 ht o2 rfl hown hg hat
 have hw3:Below w.heap.size w w3:=((hb.trans (hb1.mono hb.size)).alloc (by have:=hb.size; omega) o2).grown hg (by have:=hb.size; simp; omega) (λj hj=>by have:=(aa j hj).1; omega)
 have hA:Below w.heap.size w w4:=hw3.setCell (p:=⟨M,1,none⟩) hM _
 have ae:∀b cs,b<M+1->Ac wr b cs T->Ac w3 b cs T:=λb cs hb h=>((h.below hb1 h.lt).alloc o2).grown hg (hrow.ne hb)
 refine⟨hp.setCell (by omega) (λh=>by have:=hY _ h; omega) _,hA,λb cs hb h=>(ae b cs (by omega) h).setOther _ _ (by omega),(ae _ _ (by omega) h2).set 1 _,by simp[w4,World.setCell]; omega⟩
theorem Pv {wr w1 w3:World} {o2:Obj} {M T:Nat} {Y:Nat->Prop} {u:Value} {L:List Tm} {xs:List Value} {b:Nat} {cs:Array Value} (hrow:AN wr (M+1) T Y u L xs) (h:Ac wr b cs T) (hb1:Below wr.heap.size wr w1) (hg:(w1.alloc o2).grownBy w3 u.ownBlock) (hM:b<M+1):Ac w3 b cs T:=
 ((h.below hb1 h.lt).alloc o2).grown hg (hrow.ne hM)
theorem Pw {w w':World} {N T size:Nat} {v:Value} {n:Nat} {xs:List Value} (h:w.ownsRow N T size v n xs) (hb:Below w.heap.size w w'):w'.ownsRow N T size v n xs:=
 h.kept (w':=w') (row:=none) ⟨hb.os,hb.tape,hb.output,hb.size,λj hj _=>hb.block j hj⟩ (by rcases F9 (Value.ownBlock v) with h|⟨x,h⟩; exact Ad h; exact Ae (by rw[h]; simp))
def Kk (w:World) (X:Nat->Prop) (x:Tm) (zs:List Int) (z:Int) (s:ByteArray) (l:List Tm) (a:Option Addr) (c:Nat) (ax:Option Addr) (cx:Nat) (i:Value) (wr:World):Prop:=
 ∃(k:Nat) (q:Value) (xs:List Value),k<=l.length/\i=.int .i64 k/\AN wr (w.heap.size+1+1+1+1) 29 X q ((BN (AL x zs) z 0 l).take k) xs/\Below w.heap.size w wr/\Ac wr w.heap.size #[.string s,.slice a l.length c] 29/\Ac wr (w.heap.size+1) #[.string x.name,.slice ax x.args.length cx] 29/\Ac wr (w.heap.size+1+1) #[.string ⟨#[]⟩,.slice none 0 0] 29/\Ac wr (w.heap.size+1+1+1) #[.string s,q] 29/\w.heap.size+1+1+1+1<=wr.heap.size
theorem Px (s:ByteArray) (a:Option Addr) (n c:Nat):∀u∈[Value.string s,.slice a n c],u.oneCell'=true:=λx hx=>by
 simp at hx; rcases hx with rfl|rfl<;>rfl
theorem Jm {wr w1:World} (hb1:Below wr.drew.heap.size wr.drew w1):Below wr.heap.size wr w1:=(below_drewN (Af _ _) 1).trans hb1
theorem Mp (x:Tm) (zs:List Int):∀(t:Tm) (v p u:Value) (w:World) (X:Nat->Prop),TV w X v t->PV w X p zs->TV w X u x->Ab [t]<=1000000->
  Calls Tryz.prog 30 #[v,p,u] w λe w'=>∃v',e=.returned v'/\TV w' (λb=>X b∨w.heap.size<=b) v' (AL x zs t)/\Below w.heap.size w w':=by
 induction zs with
 |nil=>
  intro t v p u w X hv hp hu hsm
  obtain⟨a,c,rfl,hs⟩:=hv
  obtain⟨ax,cx,rfl,a8⟩:=hu
  obtain⟨pa,pc,rfl,aA,hz⟩:=hp
  go_enter Tryz.func30,Tryz.ntmps30
  go_wp2_with fail
  refine Ap (v:=.agg #[.string x.name,.slice ax x.args.length cx]) (by simp[results,Tryz.results30,go_sem]) rfl ⟨_,rfl,?_,Fd _ _ _⟩
  exact⟨ax,cx,by simp[AL],((a8.later (Fd _ _ _)).mono λb h _=>Ad h)⟩
 |cons z zs ih=>
  intro t v p u w X0 hv0 aM aN hsm
  have IH:=Aa ih
  clear ih
  obtain⟨X,hX,aO,hv,hp,hu⟩:∃X:Nat->Prop,(∀b,X b->b<w.heap.size)/\(∀b,X b->X0 b)/\TV w X v t/\PV w X p (z::zs)/\TV w X u x:=⟨λb=>X0 b/\b<w.heap.size,λ_ h=>h.2,λ_ h=>h.1,hv0.mono λb h1 h2=>⟨h1,h2⟩,aM.mono λb h1 h2=>⟨h1,h2⟩,aN.mono λb h1 h2=>⟨h1,h2⟩⟩
  clear hv0 aM aN
  obtain⟨a,c,rfl,hs⟩:=hv
  obtain⟨ax,cx,rfl,a8⟩:=hu
  have HU:=Aa (show TV w X (.agg #[.string x.name,.slice ax x.args.length cx]) x from ⟨ax,cx,rfl,a8⟩)
  clear a8
  obtain⟨pa,pc,rfl,aA,hz⟩:=hp
  obtain⟨b,o,rfl,Gr,hcell⟩:=hz.resolve_left (λh=>by cases h)
  have h0:=hcell 0 (by simp)
  simp only[FL,Et] at h0
  have bk:=hs.1
  have aB:zs.length+1<=9223372036854775807/\zs.length+1<=pc:=by simpa using aA
  obtain⟨aC,av⟩:=aB
  obtain⟨s,l⟩:=t
  have hz1:Ab [(⟨s,l⟩:Tm)]=1+Ab l:=by simp[Ab]
  rw[hz1]at hsm
  clear hz1
  have hlen:=Ez l
  obtain⟨i0,hi,hz0,hz1,hz2⟩:=CT Tryz.infoTerm
  obtain⟨sa,aT,HT⟩:∃sa:Option Addr,Hid ((if pc=1 then some (⟨b,o,none⟩:Addr) else some ⟨b,o+1,none⟩)=sa)/\Hid (PV w X (.slice sa zs.length (pc-1)) zs):=by
   by_cases h1:pc=1
   ·refine⟨_,rfl,?_⟩
    have:zs=[]:=Ew.1 (by omega)
    subst this
    exact⟨_,_,rfl,by simp,Ad rfl⟩
   ·refine⟨_,rfl,?_⟩
    rw[An h1]
    exact PV.tail ⟨aC,av⟩ Gr hcell
  simp only[Bs] at *
  clear hcell aA hz
  go_enter Tryz.func30,Tryz.ntmps30
  go_wp2_with fail
  go_loopw [8] (λi wr=>Kk w X x zs z s l a c ax cx i wr) (λi wr=>l.length-(intOf i).toNat)
  case atStart=>
   unfold Kk
   refine⟨0,.slice none 0 0,[],AE _,rfl,AN.start _ _ _ _,UG _ _ _ _,?_,?_,?_,?_,by simp⟩
   ·exact(((Ac.new w _ _).alloc _).alloc _).alloc _
   ·have:=((Ac.new (w.alloc (.cells #[.string s,.slice a l.length c] 29)) #[.string x.name,.slice ax x.args.length cx] 29).alloc (.cells #[.string ⟨#[]⟩,.slice none 0 0] 29)).alloc (.cells #[.string s,.slice none 0 0] 29)
    simpa using this
   ·have:=(Ac.new ((w.alloc (.cells #[.string s,.slice a l.length c] 29)).alloc (.cells #[.string x.name,.slice ax x.args.length cx] 29)) #[.string ⟨#[]⟩,.slice none 0 0] 29).alloc (.cells #[.string s,.slice none 0 0] 29)
    simpa using this
   ·have:=Ac.new (((w.alloc (.cells #[.string s,.slice a l.length c] 29)).alloc (.cells #[.string x.name,.slice ax x.args.length cx] 29)).alloc (.cells #[.string ⟨#[]⟩,.slice none 0 0] 29)) #[.string s,.slice none 0 0] 29
    simpa using this
  case round=>
   obtain⟨k,q,xs,hk,rfl,hrow,hb,ak,ai,ag,ah,hsz⟩:=hrel
   have ao:=Aa hrow
   have HB:=Aa hb
   have aw:=Aa ak
   have ay:=Aa ai
   have az:=Aa ag
   have ae:=Aa ah
   have bl:=ak.c1
   have bm:=ai.c0
   have bn:=ai.c1
   have bo:=ah.c0
   have bp:=ah.c1
   have aU:∀o,(wr.alloc o).cell? ⟨w.heap.size+1+1+1,1,none⟩=some q:=λo=>(ah.alloc o).cell 1
   have bq:=cell_later hb h0
   by_cases hlt:k<l.length
   ·obtain⟨b1,o1,a',c',rfl,d0,d1,hx⟩:=hs.get hb (λ_ _ h=>h) k hlt
    have HX:=Aa hx
    have aP:=Aa (Vh (AL x zs) z l k hlt)
    have aD:((BN (AL x zs) z 0 l).take k).length=k:=by rw[Hh,GR]; omega
    have aQ:=Aa aD
    have a6:Hid (wr.ownsRow (w.heap.size+1+1+1+1) 29 2 q k xs):=by have:=hrow.own; rw[aD] at this; exact this
    have aF:Ab [l[k]]<=1000000:=by
     have:=C4 l k hlt; have:=C5 l (k+1); omega
    clear ak ai ag ah hb hx hrow aD
    by_cases au:(k:Int)=z
    ·have aG:=Aa au
     have aH:((k:Int)==z)=true:=by simpa using au
     clear au
     have aV:Hid (PV wr.drew X (.slice sa zs.length (pc-1)) zs):=HT.out.later (HB.out.drew)
     have aW:Hid (TV wr.drew X (.agg #[.string x.name,.slice ax x.args.length cx]) x):=HU.out.later (HB.out.drew)
     have aX:(1:Int)<=(zs.length:Int)+1:=by omega
     have aY:∀w':World,Sem.run Tryz.prog (Instr.slice 56 (.slice (some ⟨b,o,none⟩) (zs.length+1) pc) (some (.int .i64 1)) none none) w'=.ok (.slice sa zs.length (pc-1)) w':=λw'=>by
      rw[Pf b o zs.length pc av w',aT.out]
     go_wp2_with fail
     go_region_law (first
      | (refine step_append_lies _ rfl _ _ 27 rfl (w.heap.size+1+1+1+1) 29 i0 _ 2 40 Tryz.underlying27 hi hz0 hz1 hz2 rfl (by decide) q k xs rfl (by exact(Pw a6.out (Jm hb1)).alloc _) ⟨w1.heap.size,0,none⟩ 1 1 [.string s9,.slice a9 n9 c9] rfl rfl (by exact cell_two_new _ _ _ _) (Px _ _ _ _) (by decide) (by unfold maxLen; omega) (by omega) (by have:=hb1.size; simp at this ⊢; omega) _ rfl ?_; intro g cap w3 af aa aj aI; have a7:=Aa (Pv ao.out ae.out (Jm hb1) aa (EM _)); have aZ:w3.cell? ⟨w.heap.size+1+1+1,1,none⟩=some q:=a7.out.cell 1; have ba:=a7.out.frozen 1)
      | (go_simp; go_at_call 30; refine(IH.out _ _ _ _ _ X (by exact HX.out.later (below_drewN (Af _ _) 1)) (by exact aV.out) (by exact aW.out) aF).mono ?_; rintro e w1 ⟨v1,rfl,bb,hb1⟩; obtain⟨a9,c9,rfl,bc⟩:=bb; generalize aJ:(AL x _ l[k]).name=s9; generalize aK:(AL x _ l[k]).args.length=n9; have hc3:∀o,(w1.alloc o).cell? ⟨w.heap.size+1+1+1,1,none⟩=some q:=λo=>((ae.out.below (Jm hb1) ae.out.lt).alloc o).cell 1; have br:w1.cell? ⟨w.heap.size+1+1+1,1,none⟩=some q:=(ae.out.below (Jm hb1) ae.out.lt).cell 1))
     all_goals
      have aq:=Aa (Pu aQ.out ao.out HB.out (by omega) hX ae.out hsz (Jm hb1) (show TV w1 _ (.agg #[.string s9,.slice a9 n9 c9]) _ from ⟨a9,c9,by rw[aJ,aK],bc⟩) af aa aj)
      clear af aa aj
      go_wp2_with fail
      go_roundw
      case rel=>
       obtain⟨r1,r2,r3,r4,r5⟩:=aq.out
       unfold Kk
       refine⟨k+1,_,xs++[.string s9,.slice a9 n9 c9],by omega,by go_num,?_,r2,r3 _ _ (by omega) aw.out,r3 _ _ (by omega) ay.out,r3 _ _ (by omega) az.out,r4,r5⟩
       rw[aP.out,As aG.out]
       exact r1
      case measure=>simp[intOf]; omega
    ·have aH:((k:Int)==z)=false:=by simpa using au
     have aG:=Aa au
     clear au
     go_wp2_with fail
     go_region_law (first
      | (refine step_append_lies _ rfl _ _ 27 rfl (w.heap.size+1+1+1+1) 29 i0 _ 2 40 Tryz.underlying27 hi hz0 hz1 hz2 rfl (by decide) q k xs rfl (by exact(Pw a6.out (below_drewN (Af _ _) 1)).alloc _) ⟨wr.heap.size,0,none⟩ 1 1 [.string l[k].name,.slice a' l[k].args.length c'] rfl rfl (by exact cell_two_new _ _ _ _) (Px _ _ _ _) (by decide) (by unfold maxLen; omega) (by omega) (by simp; omega) _ rfl ?_; intro g cap w3 af aa aj aI; have a7:=Aa (Pv ao.out ae.out (below_drewN (Af _ _) 1) aa (EM _)); have aZ:w3.cell? ⟨w.heap.size+1+1+1,1,none⟩=some q:=a7.out.cell 1; have ba:=a7.out.frozen 1))
     all_goals
      have aq:=Aa (Pu aQ.out ao.out HB.out (by omega) hX ae.out hsz (below_drewN (Af _ _) 1) ((HX.out.later (below_drewN (Af _ _) 1)).mono λb h _=>Ad h) af aa aj)
      clear af aa aj
      go_wp2_with fail
      go_roundw
      case rel=>
       obtain⟨r1,r2,r3,r4,r5⟩:=aq.out
       unfold Kk
       refine⟨k+1,_,xs++[.string l[k].name,.slice a' l[k].args.length c'],by omega,by go_num,?_,r2,r3 _ _ (by omega) aw.out,r3 _ _ (by omega) ay.out,r3 _ _ (by omega) az.out,r4,r5⟩
       rw[aP.out,An aG.out]
       exact r1
      case measure=>simp[intOf]; omega
   ·have aL:(BN (AL x zs) z 0 l).take k=BN (AL x zs) z 0 l:=AW (by rw[GR]; omega)
    have bf:=ag.c0
    have bg:=ag.c1
    have rf:=ag.frozen
    obtain⟨a9,c9,aR,ar⟩:=hrow.sl
    rw[aL,GR]at aR
    rw[aL]at ar
    have bh:=Aa ar
    subst aR
    clear ar aL ak ai ag ah hrow hb
    go_wp2_with fail
    refine Ap (v:=.agg #[.string s,.slice a9 l.length c9]) (by simp[results,Tryz.results30,go_sem,bf,bg,AU,AG]) rfl ⟨_,rfl,?_,?_⟩
    ·refine⟨a9,c9,by simp[AL,GR],?_⟩
     have aS:Sl wr (λb=>X b∨w.heap.size+1+1+1+1<=b) a9 (BN (AL x zs) z 0 l):=bh.out
     have bs:Sl wr (λb=>X0 b∨w.heap.size<=b) a9 (AL x (z::zs) ⟨s,l⟩).args:=by
      refine aS.mono λb hb _=>?_
      rcases hb with hb|hb
      ·exact Ad (aO b hb)
      ·exact Ae (by omega)
     have bj:Sl wr (λb=>(X b∨w.heap.size+1+1+1+1<=b)) a9 (AL x (z::zs) ⟨s,l⟩).args:=aS
     refine(bj.kept λb hb=>?_).mono λb hb _=>?_
     ·have hne:b≠w.heap.size+1+1:=by
       rcases hb with hb|hb
       ·have:=hX b hb; omega
       ·omega
      rw[Aq _ _ _ _ (by simpa using hne),Aq _ _ _ _ (by simpa using hne)]
     ·rcases hb with hb|hb
      ·exact Ad (aO b hb)
      ·exact Ae (by omega)
    ·exact(HB.out.setCell (by simp; omega) _).setCell (by simp; omega) _
end Go.Proofs.YtlkeafenklamjaaGreatDoor
