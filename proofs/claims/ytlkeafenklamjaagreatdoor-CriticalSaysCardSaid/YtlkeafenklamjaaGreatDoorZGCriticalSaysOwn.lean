/- Several texts in one. -/
import Derived.Test.YtlkeafenklamjaaGreatDoorW183
import Derived.Deep.MidRow
import Derived.Deep.RegionHeld3
import Derived.ProofKit
namespace Go.Proofs.YtlkeafenklamjaaGreatDoor
set_option linter.all false
set_option maxRecDepth 20000
set_option maxHeartbeats 8000000
open Go.RowKit Go.Shelf
theorem iD (n:ByteArray) (w:World):(Instr.lookup 96 (.map none) (.string n) true).run Tryz.prog w=.ok (.tuple #[.agg #[.string ⟨#[]⟩,.slice none 0 0],.bool false]) w:=by
 have hz:(zeroValue 29).run Tryz.prog w=.ok (.agg #[.string ⟨#[]⟩,.slice none 0 0]) w:=Tryz.zeroValue29 w
 have hc:∀b,(Instr.checkKey b 10000 9 (.string n)).run Tryz.prog w=.ok () w:=λb=>JN (k:=.string n) Tryz.underlying9 (by simp[MapKept.IsKey]) b 9999
 simp[Instr.lookup,FM Tryz.underlying96,hc,Result.andThen,hz,Ia (P:=Tryz.prog) (w:=w) (l:=[]) (k:=.string n) (a:=none) Tryz.underlying9 rfl]
theorem Ty:∀ {ls:List Bd} {s:ByteArray} {x:Tm},Ar ls s=some x->∃d∈ls,d.t=x
 | [],s,x,h=>by simp[Ar] at h
 |d::ls,s,x,h=>by
  unfold Ar at h
  split at h
  ·exact⟨d,by simp,by simpa using h⟩
  ·obtain⟨d',hd,e⟩:=Ty h
   exact⟨d',by simp[hd],e⟩
theorem Fa.look {w:World} {X:Nat->Prop} {mv:Option Nat} {ls:List Bd} (h:Fa w X mv ls) (s:ByteArray):
  (Ar ls s=none->∀o o',(Instr.lookup 96 (.map mv) (.string s) true).run Tryz.prog ((w.alloc o).alloc o')=.ok (.tuple #[.agg #[.string ⟨#[]⟩,.slice none 0 0],.bool false]) ((w.alloc o).alloc o'))/\
  ∀x,Ar ls s=some x->∃a c,Sl w X a x.args/\∀o o',(Instr.lookup 96 (.map mv) (.string s) true).run Tryz.prog ((w.alloc o).alloc o')=.ok (.tuple #[.agg #[.string x.name,.slice a x.args.length c],.bool true]) ((w.alloc o).alloc o'):=by
 rcases h with ⟨rfl,rfl⟩|⟨q,L,rfl,hM,hP⟩
 ·exact⟨λ_ o o'=>iD s _,λx hx=>by simp[Ar] at hx⟩
 ·have hz:∀w',(zeroValue 29).run Tryz.prog w'=.ok (.agg #[.string ⟨#[]⟩,.slice none 0 0]) w':=λw'=>Tryz.zeroValue29 w'
  have aa:=λo o':Obj=>(hM.kept (AP w o _ hM.lt)).kept (AP (w.alloc o) o' _ (by have:=hM.lt; simp; omega))
  refine⟨λhf o o'=>?_,λx hf=>?_⟩
  ·have hg:=(hP.get s).1 hf
   rw[ET (P:=Tryz.prog) Tryz.underlying96 Tryz.underlying9 (hz _) (aa o o') s,hg]; rfl
  ·obtain⟨a1,c1,hg,hs1⟩:=(hP.get s).2 x hf
   refine⟨a1,c1,hs1,λo o'=>?_⟩
   rw[ET (P:=Tryz.prog) Tryz.underlying96 Tryz.underlying9 (hz _) (aa o o') s,hg]; rfl
theorem Fa.exq {w w':World} {X:Nat->Prop} {mv:Option Nat} {ls:List Bd} {I:Nat} {cs:Array Value} {T:Nat} (h:Fa w X mv ls) (he:Al (λb=>b=I) w w') (hI:Ac w I cs T) (hX:∀b,X b->b≠I):Fa w' X mv ls:=by
 rcases h with h|⟨q,L,rfl,hM,hP⟩
 ·exact Ad h
 ·refine Ae ⟨q,L,rfl,hM.kept (he.block q hM.lt λe=>?_),hP.imp λa l hs=>hs.exq he hX⟩
  obtain⟨es,aa,h1,_⟩:=hM
  rw[e]at h1
  unfold Ac at hI
  rw[hI]at h1
  cases h1
theorem Fa.later {w w':World} {X:Nat->Prop} {mv:Option Nat} {ls:List Bd} (h:Fa w X mv ls) (hb:Below w.heap.size w w'):Fa w' X mv ls:=by
 rcases h with h|⟨q,L,rfl,hE⟩
 ·exact Ad h
 ·exact Ae ⟨q,L,rfl,hE.later hb⟩
theorem Fa.mono {w:World} {X Y:Nat->Prop} {mv:Option Nat} {ls:List Bd} (h:Fa w X mv ls) (hk:∀b,X b->b<w.heap.size->Y b):Fa w Y mv ls:=by
 rcases h with h|⟨q,L,rfl,hM,hP⟩
 ·exact Ad h
 ·exact Ae ⟨q,L,rfl,hM,hP.imp λa l hs=>hs.mono hk⟩
theorem QV.exqE {w w':World} {X Q:Nat->Prop} {v:Value} {l:List Pr} (h:QV w X v l) (he:Al Q w w') (hX:∀b,X b->¬Q b):QV w' X v l:=
 ((h.mono (Y:=λb=>X b/\b<w.heap.size) λb h1 h2=>⟨h1,h2⟩).kept λb hb=>he.block b hb.2 (hX b hb.1)).mono λb hb _=>hb.1
theorem AN.exqI {w w':World} {N T I:Nat} {Y:Nat->Prop} {v:Value} {l:List Tm} {xs:List Value} (h:AN w N T Y v l xs) (he:Al (λb=>b=I) w w') (hI:I<N) (hY:∀b,Y b->b≠I):AN w' N T Y v l xs:=by
 refine⟨DG h.own λg hg=>he.block g (h.own.lt g hg).2 (by have:=(h.own.lt g hg).1; omega),h.row.imp λa k hs=>hs.exq he λb hb=>?_⟩
 rcases hb with hb|hb
 ·exact hY b hb
 ·omega
def iE (rs:List Pr) (C:Tm->Tm) (m d k:Nat) (s:ByteArray) (l:List Tm) (ls:List Bd) (X:Nat->Prop) (I:Nat) (ua:Option Addr) (uc:Nat) (w:World) (i:Value) (wr:World):Prop:=
 ∃(j:Nat) (ys:List Tm) (v:Value) (xs:List Value) (d1:Nat),j<=l.length/\i=.int .i64 (j:Int)/\ys.length=j/\(∀y∈ys,Gx rs y)/\d<=d1/\d1<=m/\BL rs true (m-d) (C ⟨s,gL ls l⟩)=D3 (d1-d) (BL rs true (m-d1) (C ⟨s,ys++gL ls (l.drop j)⟩))/\Ab [(⟨s,ys++gL ls (l.drop j)⟩:Tm)]+k<=2000/\
  Ac wr I #[.slice ua rs.length uc,.int .i64 (m:Int),.int .i64 (d1:Int),.int .i64 ((Ab [(⟨s,ys++gL ls (l.drop j)⟩:Tm)]+k:Nat):Int)] 101/\Ac wr (w.heap.size+1) #[.string ⟨#[]⟩,.slice none 0 0] 29/\Ac wr (w.heap.size+3) #[.string s,v] 29/\AN wr (w.heap.size+4) 29 X v ys xs/\Al (λb=>b=I) w wr/\w.heap.size+4<=wr.heap.size
theorem Tz (s:ByteArray) (ys:List Tm) (x:Tm) (r:List Tm):Ab [(⟨s,ys++x::r⟩:Tm)]=Ab [x]+(1+Ab ys+Ab r):=by
 have e:Ab (ys++x::r)=Ab ys+(Ab [x]+Ab r):=by
  rw[D8]
  have:=D8 [x] r
  rw[<-this]; rfl
 have:Ab [(⟨s,ys++x::r⟩:Tm)]=1+Ab (ys++x::r):=by simp[Ab]
 omega
theorem iF (ls:List Bd) {l:List Tm} {j:Nat} (h:j<l.length):gL ls (l.drop j)=gT ls l[j]::gL ls (l.drop (j+1)):=by
 rw[JV h,Qc]
theorem iG (rs:List Pr) (ua:Option Addr) (uc I m f:Nat) (hK:Tw rs ua uc I m f):Np rs ua uc I m f:=by
 intro C k d t
 induction t using Tm.ind generalizing C k d with
 |h s l ih=>
 intro ls mv a c w X0 hC hf hd aM hs0 ai aN aO hz bD hI
 obtain⟨X,aP,hX,aQ,hu,hs,aA⟩:∃X:Nat->Prop,(∀b,X b->X0 b)/\(∀b,X b->b≠I)/\(∀b,X b->b<w.heap.size)/\QV w X (.slice ua rs.length uc) rs/\Sl w X a l/\Fa w X mv ls:=⟨λb=>X0 b/\b<w.heap.size,λ_ h=>h.1,λb h=>aO b h.1,λ_ h=>h.2,aM.mono λb h1 h2=>⟨h1,h2⟩,hs0.mono λb h1 h2=>⟨h1,h2⟩,ai.mono λb h1 h2=>⟨h1,h2⟩⟩
 have IH:=Aa ih
 have HK:=Aa hK
 have aR:=Aa aP
 have HX:=Aa hX
 have au:=Aa aQ
 have HC:=Aa hC
 have HU:=Aa hu
 have HS:=Aa hs
 have HM:=Aa aA
 have aS:=Aa aN
 have HI:=Aa hI
 have aT:=hI.lt
 have hl:=hs.1
 obtain⟨aB,aC⟩:=aA.look s
 clear ih hK aP hX aQ hC hu hs aA aN hI aM hs0 ai aO
 cases af:Ar ls s with
 |some x=>
  obtain⟨a1,c1,hs1,aa⟩:=aC x af
  have HG:Hid (gT ls ⟨s,l⟩=x):=Qd af
  have bn:=Aa hs1
  have bo:Hid (Gx rs x):=by
   obtain⟨dd,hdd,e⟩:=Ty af
   rw[<-e]
   exact aS.out dd hdd
  have HZ:=Aa hz
  rw[HG.out]at HI HZ
  rw[HG.out]
  clear aB aC af hs1 hz
  go_enter Tryz.func68,Tryz.ntmps68
  go_wp2_with fail
  refine Ap (v:=.tuple #[.agg #[.string x.name,.slice a1 x.args.length c1],.int .i64 0]) (by simp[results,Tryz.results68,go_sem,AU,AG]) rfl ?_
  have fin:∀w',Below w.heap.size w w'->Nn rs C m d k x X0 I ua uc w (.returned (.tuple #[.agg #[.string x.name,.slice a1 x.args.length c1],.int .i64 0])) w':=λw' hb=>
   ⟨Al.ofBelow hb,x,a1,c1,0,rfl,(bn.out.later hb).mono λb hb _=>Ad ⟨aR.out b hb,au.out b hb⟩,Ad ⟨rfl,d,FC.here hd bo.out (by rw[HC.out.2]; exact HZ.out),HI.out.below hb aT⟩⟩
  exact fin _ (by first|exact Fd _ _ _|exact((Fd _ _ _).setCell (by simp) _).setCell (by simp) _)
 |none=>
  have aa:=aB af
  have HG:Hid (gT ls ⟨s,l⟩=⟨s,gL ls l⟩):=Qe af
  have HZ:=Aa hz
  rw[HG.out]at HI HZ
  rw[HG.out]
  clear aB aC af hz
  have aD:Hid (l.length<=2000):=by
   have h1:=Ez l
   have h2:Ab [(⟨s,l⟩:Tm)]=1+Ab l:=by simp[Ab]
   unfold Hid
   omega
  have HW:Hid (∃W,W=(((w.alloc (.cells #[.string s,.slice a l.length c] 29)).alloc (.cells #[.string ⟨#[]⟩,.slice none 0 0] 29)).alloc (.cells #[.string ⟨#[]⟩,.slice none 0 0] 29)).alloc (.cells #[.string s,.slice none 0 0] 29)/\Below w.heap.size w W/\W.heap.size=w.heap.size+4/\Ac W (w.heap.size+1) #[.string ⟨#[]⟩,.slice none 0 0] 29/\Ac W (w.heap.size+3) #[.string s,.slice none 0 0] 29):=by
   obtain⟨h1,h2,h3⟩:=Gv [(.cells #[.string s,.slice a l.length c] 29:Obj),(.cells #[.string ⟨#[]⟩,.slice none 0 0] 29:Obj),(.cells #[.string ⟨#[]⟩,.slice none 0 0] 29:Obj),(.cells #[.string s,.slice none 0 0] 29:Obj)] w
   exact⟨_,rfl,h1,h2,h3 1 _ rfl,h3 3 _ rfl⟩
  go_enter Tryz.func68,Tryz.ntmps68
  go_wp2_with fail
  obtain⟨w0,hw0,hb0,hz0,aU,aV⟩:=HW.out
  rw[<-hw0]
  clear hw0 HW aa
  have aW:=Aa hb0
  have bp:=Aa aU
  have bq:=Aa aV
  have br:=Aa hz0
  clear hb0 aU aV hz0
  go_loopw [30] (λi wr=>iE rs C m d k s l ls X I ua uc w i wr) (λi wr=>l.length-(intOf i).toNat)
  case atStart=>
   refine⟨0,[],.slice none 0 0,[],d,AE _,rfl,rfl,(λy hy=>by cases hy),Aj _,hd,?_,?_,?_,bp.out,bq.out,AN.start _ _ _ _,Al.ofBelow aW.out,by have:=br.out; omega⟩
   ·rw[Nat.sub_self,I8,DY]
    exact(Mx (Kn _ _ _ _)).symm
   ·rw[I8,DY]; exact HZ.out
   ·rw[I8,DY]; exact HI.out.below aW.out aT
  case round=>
   obtain⟨j,ys,v,xs,d1,hj,rfl,aX,aY,bs,aj,aZ,ba,bb,bc,ah,hrow,bf,bE⟩:=hrel
   have aF:=Aa aY
   have ak:=Aa aZ
   have aG:=Aa ba
   have av:=Aa bb
   have bg:=Aa bc
   have bF:=Aa ah
   have ag:=Aa hrow
   have ae:=Aa bf
   have bh:=Aa aX
   clear aY aZ ba bb bc hrow bf aX
   by_cases hlt:j<l.length
   ·obtain⟨b,o,a',c',rfl,e0,e1,hx⟩:=(HS.out.exq ae.out HX.out).get (Af wr.heap.size wr) (λ_ _ h=>h) j hlt
    have bt:=Aa hx
    have bu:(j:Int)<(l.length:Int):=by omega
    have bj:=Aa (Tz s ys (gT ls l[j]) (gL ls (l.drop (j+1))))
    have aw:=Aa (iF ls hlt)
    have bw:Hid (Ab [l[j]]<=2000):=by
     have h1:=C4 l j hlt
     have h2:=C5 l (j+1)
     have h3:Ab [(⟨s,l⟩:Tm)]=1+Ab l:=by simp[Ab]
     unfold Hid
     omega
    have bx:=av.out.lt
    have ay:Below wr.heap.size wr (wr.alloc (.cells #[.string l[j].name,.slice a' l[j].args.length c'] 29)):=(Af _ _).alloc (Aj _) _
    have bk:=IH.out l[j] (AV hlt) (λz=>C ⟨s,ys++z::gL ls (l.drop (j+1))⟩) (1+Ab ys+Ab (gL ls (l.drop (j+1)))+k) d1 ls mv a' c' (wr.alloc (.cells #[.string l[j].name,.slice a' l[j].args.length c'] 29)) X (Fj.kid HC.out (Hs.2 aF.out)) (by omega) aj ((HU.out.exqE ae.out HX.out).later ay) (by obtain⟨a2,c2,q2,h2⟩:=bt.out.alloc (.cells #[.string l[j].name,.slice a' l[j].args.length c'] 29); cases q2; exact h2) ((HM.out.exq ae.out HI.out HX.out).later ay) aS.out HX.out (by have h1:=aG.out; rw[aw.out,bj.out] at h1; omega) bw.out (by
     have h1:=av.out.below ay bx
     rw[aw.out,bj.out,I5]at h1
     exact h1)
    have bz:=Aa bk
    clear bk ay hx
    go_wp2_with fail
    refine bz.out.mono ?_
    rintro e w1 ⟨x1,x,ax,cx,er,rfl,ao,hcs⟩
    have b3:(wr.alloc (.cells #[.string l[j].name,.slice a' l[j].args.length c'] 29)).heap.size=wr.heap.size+1:=by simp
    have hx1:Al (λb=>b=I) wr w1:=(Al.ofBelow ((Af _ _).alloc (Aj _) (.cells #[.string l[j].name,.slice a' l[j].args.length c'] 29))).trans x1
    have hz1:wr.heap.size+1<=w1.heap.size:=by have:=x1.size; omega
    have az:=Aa hx1
    have aH:Hid (Sl w1 (λb=>X b∨wr.heap.size<=b) ax x.args):=ao.mono λb hb _=>by
     rcases hb with h|h
     ·exact Ad h.1
     ·right; omega
    have aq:=Aa hcs
    have R1:=Aa (bg.out.exq hx1 (by omega))
    have O1:=Aa (ah.exq hx1 (by omega))
    clear x1 ao hcs hx1 b3 ah
    rcases aq.out with ⟨rfl,d2,a6,bl⟩|⟨h0,hx0,a7⟩
    ·have b4:=Aa a6
     have b5:=Aa bl
     have aq:Hid True:=trivial
     clear a6 bl
     obtain⟨wm,aI,b6,bm⟩:=az.out.mid
     have aJ:AN wm (w.heap.size+4) 29 X v ys xs:=ag.out.exqI bm (by omega) HX.out
     have hbx:Below wm.heap.size wm (w1.alloc (.cells #[.string x.name,.slice ax x.args.length cx] 29)):=aI.alloc aI.size _
     obtain⟨g,cap,w3,hrun,hrow3,hg3,aK⟩:=WJ aJ (by omega) (λb hb=>by have:=au.out b hb; omega) hbx x ax cx ((aH.out.mono λb hb _=>by rcases hb with h|h; exact Ad h; exact Ae (by omega)).later ((Af _ _).alloc (Aj _) _)) (by have:=aD.out; have:=bh.out; omega)
     rw[CN]at hrun
     have aL:=Aa hrun
     have ar:=Aa hrow3
     have hne:∀b,b<w.heap.size+4->some b≠v.ownBlock:=λb hb=>aJ.ne hb
     have kg:∀b cs T,b<w.heap.size+4->Ac w1 b cs T->Ac w3 b cs T:=λb cs T hb hk=>((hk.alloc _).alloc _).grown hg3 (hne b hb)
     have R3:=Aa (kg _ _ _ (by omega) R1.out)
     have O3:=Aa (kg _ _ _ (by omega) O1.out)
     have I3:=Aa (kg _ _ _ (by omega) b5.out)
     have hz3:w1.heap.size+2<=w3.heap.size:=by have:=hg3.size; simp at this; omega
     have X3:Hid (Al (λb=>b=I) w w3):=((ae.out.trans az.out).alloc _).alloc _ |>.grown hg3 (λq hq=>Ad (by have:=(aJ.own.lt q hq).1; omega))
     clear aI b6 bm hbx hrun hrow3 hg3 aK hne kg
     have o1:∀o,(w1.alloc o).cell? ⟨w.heap.size+1+1+1,1,none⟩=some v:=λo=>(O1.out.alloc o).cell 1
     have p0:=O3.out.c1
     have pf:=O3.out.frozen
     obtain⟨va,vn,vc,hv⟩:∃va vn vc,v=.slice va vn vc:=by obtain⟨q1,q2,q3,_⟩:=ag.out.sl; exact⟨q1,_,q2,q3⟩
     subst hv
     go_wp2_with (at_builtin; refine D1 rfl _ _ _ _ rfl rfl rfl aL.out ?_)
     refine⟨?_,by simp[intOf]; omega⟩
     obtain⟨k1,k2,k3,k4,k5⟩:=b4.out
     have e1:(ys++[x])++gL ls (l.drop (j+1))=ys++x::gL ls (l.drop (j+1)):=by simp
     have e2:=Tz s ys x (gL ls (l.drop (j+1)))
     refine⟨j+1,ys++[x],_,_,d2,by omega,by go_num,by rw[Dm,bh.out]; rfl,λy hy=>?_,by omega,k2,?_,?_,?_,R3.out.setOther _ _ (by omega),O3.out.set 1 _,ar.out.setCell (by omega) (λh=>by have:=au.out _ h; omega) _,X3.out.setNew (by omega) 1 _,by simp[World.setCell]; omega⟩
     ·rcases Bg.1 hy with h|h
      ·exact aF.out y h
      ·simp at h; rw[h]; exact k3
     ·rw[ak.out,aw.out,k5,My,e1]
      congr 1
      omega
     ·rw[e1]
      have:=k4
      rw[HC.out.2]at this
      exact this
     ·have h9:Ab [x]+(1+Ab ys+Ab (gL ls (l.drop (j+1)))+k)=Ab [(⟨s,ys++x::gL ls (l.drop (j+1))⟩:Tm)]+k:=by omega
      have b7:I≠w.heap.size+1+1+1:=by omega
      rw[e1,<-h9]
      exact I3.out.setOther _ _ b7
    ·have hne:¬(er=0):=by rcases h0 with h|h<;>omega
     have b8:=Aa a7
     have H0:=Aa h0
     have aq:Hid True:=trivial
     have r0:∀o,(w1.alloc o).cell? ⟨w.heap.size+1,0,none⟩=some (.string ⟨#[]⟩):=λo=>(R1.out.alloc o).cell 0
     have r1:∀o,(w1.alloc o).cell? ⟨w.heap.size+1,1,none⟩=some (.slice none 0 0):=λo=>(R1.out.alloc o).cell 1
     have rf:∀o i,(w1.alloc o).frozen? ⟨w.heap.size+1,i,none⟩=false:=λo=>(R1.out.alloc o).frozen
     clear a7 h0 hx0
     go_wp2_with fail
     refine Ap (v:=.tuple #[.agg #[.string ⟨#[]⟩,.slice none 0 0],.int .i64 er]) (by simp[results,Tryz.results68,go_sem,AU,AG,r0,r1]) rfl ?_
     refine⟨by first|exact(((ae.out.trans az.out).alloc _).setNew (by simp) 0 _).setNew (by simp) 1 _|exact(((ae.out.trans az.out).setNew (by simp) 0 _).setNew (by simp) 1 _).alloc _,⟨⟨#[]⟩,[]⟩,none,0,er,rfl,⟨by simp,Ad rfl⟩,Ae ⟨H0.out,rfl,?_⟩⟩
     rw[ak.out,aw.out,b8.out]
     exact Iy _ _ hne
   ·have b9:j=l.length:=by omega
    have bA:Hid (ys++gL ls (l.drop j)=ys):=by
     unfold Hid
     rw[b9,List.drop_length]
     simp[gL]
    rw[bA.out]at ak aG av
    have bG:¬((j:Int)<(l.length:Int)):=by omega
    obtain⟨va,vc,hv,a8⟩:=ag.out.sl
    subst hv
    have bB:=Aa (HK.out C k d1 ⟨s,ys⟩ va vc wr (λb=>X b∨w.heap.size+4<=b) HC.out (by omega) aj ((HU.out.exqE ae.out HX.out).mono λb hb _=>Ad hb) a8 aF.out (λb hb=>by rcases hb with h|h; exact HX.out b h; omega) aG.out av.out)
    have o0:=ah.c0
    have o1:wr.cell? ⟨w.heap.size+1+1+1,1,none⟩=some (.slice va ys.length vc):=ah.cell 1
    clear a8 ah
    go_wp2_with fail
    refine bB.out.mono ?_
    rintro e w3 ⟨x3,x,ax,cx,er,rfl,ao,hcs⟩
    have X3:=Aa x3
    have aH:=Aa ao
    have aq:=Aa hcs
    have bH:=x3.size
    have R3:=Aa (bg.out.exq x3 (by omega))
    clear x3 ao hcs o0 o1
    have r0:=R3.out.c0
    have r1:=R3.out.c1
    have rf:=R3.out.frozen
    go_wp2_with fail
    refine Ap (v:=.tuple #[.agg #[.string x.name,.slice ax x.args.length cx],.int .i64 er]) (by simp[results,Tryz.results68,go_sem,AU,AG,r0,r1]) rfl ?_
    refine⟨((ae.out.trans X3.out).setNew (by simp) 0 _).setNew (by simp) 1 _,x,ax,cx,er,rfl,?_,?_⟩
    ·have a8:Sl w3 (λb=>Nm w X0 b/\b≠w.heap.size+1) ax x.args:=aH.out.mono λb hb hl=>by
      rcases hb with ⟨hb,_⟩|hb
      ·rcases hb with h|h
       ·have:=au.out b h
        exact⟨Ad ⟨aR.out b h,this⟩,by omega⟩
       ·exact⟨Ae (by omega),by omega⟩
      ·exact⟨Ae (by omega),by omega⟩
     refine(a8.kept λb hb=>?_).mono λb hb _=>hb.1
     rw[Aq _ _ _ _ (by simpa using hb.2),Aq _ _ _ _ (by simpa using hb.2)]
    ·rcases aq.out with ⟨h0,d',a6,bC⟩|⟨h0,hx0,a7⟩
     ·exact Ad ⟨h0,d',FC.trans bs ak.out a6,(bC.setOther _ _ (by omega)).setOther _ _ (by omega)⟩
     ·refine Ae ⟨h0,hx0,?_⟩
      rw[ak.out,a7]
      exact Iy _ _ (by rcases h0 with h|h<;>omega)
theorem iH (rs:List Pr) (hr:∀p∈rs,Bt p=0) (ua:Option Addr) (uc I m:Nat) (hm:m<=400):∀f,Np rs ua uc I m f:=by
 intro f
 induction f using Nat.strongRecOn with
 |ind f ih=>exact iG rs ua uc I m f (iC rs hr ua uc I m f hm ih)
def iI (r:Int×Tm×Nat) (w:World) (e:Ending) (w':World):Prop:=
 Below w.heap.size w w'/\∃(x:Tm) (a:Option Addr) (c n:Nat) (er:Int),e=.returned (.tuple #[.agg #[.string x.name,.slice a x.args.length c],.int .i64 (n:Int),.int .i64 er])/\r=(er,x,n)/\Sl w' (λb=>w.heap.size<=b) a x.args
theorem iJ {rs:List Pr} {m d':Nat} {t x:Tm} (h:FC rs (λa=>a) m 0 t x d'):BL rs true m t=(0,x,d'):=by
 obtain⟨_,_,h3,_,h5⟩:=h
 have e1:=Mu (rs:=rs) (inner:=true) (m:=m-d') ((MB rs true x).2 h3)
 simp only[Nat.sub_zero] at h5
 rw[h5,e1]
 simp[D3]
theorem TC (rs:List Pr) (hr:∀p∈rs,Bt p=0) (t:Tm) (m:Nat) (u:Value) (a:Option Addr) (c:Nat) (w:World) (X0:Nat->Prop) (aj:QV w X0 u rs) (hs0:Sl w X0 a t.args) (hz:Ab [t]<=2000) (hm:m<=400):
  Calls Tryz.prog 39 #[u,.agg #[.string t.name,.slice a t.args.length c],.int .i64 (m:Int)] w λe w'=>iI (BL rs true m t) w e w':=by
 obtain⟨X,ak,hu,hs⟩:∃X:Nat->Prop,(∀b,X b->b<w.heap.size)/\QV w X u rs/\Sl w X a t.args:=⟨λb=>X0 b/\b<w.heap.size,λ_ h=>h.2,aj.mono λb h1 h2=>⟨h1,h2⟩,hs0.mono λb h1 h2=>⟨h1,h2⟩⟩
 have aB:=Aa ak
 have HU:=Aa hu
 have HS:=Aa hs
 have HR:=Aa hr
 obtain⟨ua,uc,rfl,_,_⟩:=hu
 clear ak hs aj hs0 hr
 have HW:Hid (∃W,W=(w.alloc (.cells #[.string t.name,.slice a t.args.length c] 29)).alloc (.cells #[.string ⟨#[]⟩,.slice none 0 0] 29)/\Below w.heap.size w W/\W.heap.size=w.heap.size+2/\Ac W w.heap.size #[.string t.name,.slice a t.args.length c] 29/\Ac W (w.heap.size+1) #[.string ⟨#[]⟩,.slice none 0 0] 29):=by
  obtain⟨h1,h2,h3⟩:=Gv [(.cells #[.string t.name,.slice a t.args.length c] 29:Obj),(.cells #[.string ⟨#[]⟩,.slice none 0 0] 29:Obj)] w
  exact⟨_,rfl,h1,h2,h3 0 _ rfl,h3 1 _ rfl⟩
 go_enter Tryz.func39,Tryz.ntmps39
 go_wp2_with fail
 obtain⟨w0,hw0,hb0,hz0,ao,aq⟩:=HW.out
 rw[<-hw0]
 have af:=Aa hb0
 have ar:=Aa ao
 have au:=Aa aq
 have aC:=Aa hz0
 clear hw0 HW hb0 hz0 ao aq
 refine(Ii 2000 (by omega) (by omega) t _ w0 X ⟨a,c,rfl,HS.out.later af.out⟩).mono ?_
 rintro e w1 ⟨rfl,hb1⟩
 have em:min (Ab [t]:Int) (2000+1)=Ab [t]:=by omega
 rw[em]
 clear em
 have av:=Aa (af.out.trans (hb1.mono af.out.size))
 have T1:=Aa (ar.out.below hb1 ar.out.lt)
 have R1:=Aa (au.out.below hb1 au.out.lt)
 have hz1:w.heap.size+2<=w1.heap.size:=by have:=hb1.size; have:=aC.out; omega
 clear hb1
 have aw:Hid (Below w1.heap.size w1 (w1.alloc (.cells #[.slice ua rs.length uc,.int .i64 (m:Int),.int .i64 0,.int .i64 (Ab [t]:Int)] 101))):=(Af _ _).alloc (Aj _) _
 have ay:Hid (Ac (w1.alloc (.cells #[.slice ua rs.length uc,.int .i64 (m:Int),.int .i64 0,.int .i64 (Ab [t]:Int)] 101)) w1.heap.size #[.slice ua rs.length uc,.int .i64 (m:Int),.int .i64 0,.int .i64 (Ab [t]:Int)] 101):=Ac.new w1 _ _
 have t0:∀o,(w1.alloc o).cell? ⟨w.heap.size,0,none⟩=some (.string t.name):=λo=>(T1.out.alloc o).cell 0
 have t1:∀o,(w1.alloc o).cell? ⟨w.heap.size,1,none⟩=some (.slice a t.args.length c):=λo=>(T1.out.alloc o).cell 1
 go_wp2_with fail
 clear t0 t1
 generalize (w1.alloc (.cells #[.slice ua rs.length uc,.int .i64 (m:Int),.int .i64 0,.int .i64 (Ab [t]:Int)] 101))=W at *
 have ag:=Aa (av.out.trans (aw.out.mono av.out.size))
 have aK:w1.heap.size+1<=W.heap.size:=ay.out.lt
 have hg:gT [] t=t:=Xh t
 refine(iH rs HR.out ua uc w1.heap.size m hm m (λz=>z) 0 0 t [] none a c W X (Fj.id rs) (by omega) (by omega) (HU.out.later ag.out) (HS.out.later ag.out) (Ad ⟨rfl,rfl⟩) (λd hd=>by simp at hd) (λb hb=>by have:=aB.out b hb; omega) (by rw[hg]; omega) hz (by rw[hg]; exact ay.out)).mono ?_
 rw[hg]
 clear hg
 rintro e w2 ⟨x2,x,ax,cx,er,rfl,ah,hcs⟩
 have az:=Aa ah
 have hz2:=x2.size
 have aa:Hid (Below w.heap.size w w2):=ag.out.trans (x2.below (B:=w.heap.size) (by omega) (λb hb=>by omega))
 have R2:=Aa ((R1.out.below aw.out R1.out.lt).exq x2 (by omega))
 have ai:Hid (Below w2.heap.size w2 (w2.alloc (.cells #[.string x.name,.slice ax x.args.length cx] 29))):=(Af _ _).alloc (Aj _) _
 rcases hcs with ⟨rfl,d',ae,hI⟩|⟨h0,hx0,a6⟩
 ·have aD:=Aa (iJ ae)
  have aL:d'<=400:=by have:=ae.2.1; omega
  have HI:=Aa hI
  have a7:Hid (Ab [x]<=2000):=ae.2.2.2.1
  clear ah x2 ae hI
  have aM:Ab [x]<=2000:=a7.out
  clear a7
  go_upto_region 5 with fail
  have aF:=Aa (az.out.later ai.out)
  have KX:Hid (Ac (w2.alloc (.cells #[.string x.name,.slice ax x.args.length cx] 29)) w2.heap.size #[.string x.name,.slice ax x.args.length cx] 29):=Ac.new w2 _ _
  have KI:=Aa (HI.out.alloc (.cells #[.string x.name,.slice ax x.args.length cx] 29))
  have KR:=Aa (R2.out.alloc (.cells #[.string x.name,.slice ax x.args.length cx] 29))
  have a8:=Aa (aa.out.trans (ai.out.mono aa.out.size))
  generalize (w2.alloc (.cells #[.string x.name,.slice ax x.args.length cx] 29))=w3 at *
  clear ai HI R2 az
  have BD:Hid (Below w3.heap.size w3 w3.drew):=below_drewN (Af _ _) 1
  refine CU (S:=λw'=>Ac w' w2.heap.size #[.string x.name,.slice ax x.args.length cx] 29/\w'.cell? ⟨w1.heap.size,2,none⟩=some (.int .i64 (d':Int))) (by kernel_rfl) ⟨KX.out.below BD.out KX.out.lt,KI.out.cell 2⟩ (λhHeld=>?_)
  refine tkz 0 ?_ (hy:=by intro w' hSw;have b0:w'.cell? ⟨w2.heap.size,0,none⟩=some (.string x.name):=hSw.1.cell 0;have b1:w'.cell? ⟨w2.heap.size,1,none⟩=some (.slice ax x.args.length cx):=hSw.1.cell 1;go_simp<;>with_reducible rfl)
  refine tkz 2 ?_
  refine tkz 3 ?_ (hy:=by intro w' hSw;have i2:w'.cell? ⟨w1.heap.size,2,none⟩=some (.int .i64 (d':Int)):=hSw.2;go_simp<;>with_reducible rfl)
  generalize w3.drew=wd at *
  have hzd:w.heap.size+2<=wd.heap.size:=by have:=BD.out.size; have:=KX.out.lt; omega
  refine rdq 1 rfl λK hK=>?_
  go_simp
  go_at_call 69
  refine(UJ x _ wd _ ⟨ax,cx,rfl,aF.out.later BD.out⟩ (by omega)).mono ?_
  rintro e w4 ⟨v4,rfl,⟨a4,c4,rfl,aA⟩,hb4⟩
  have aG:=Aa aA
  have B4:=Aa (BD.out.trans (hb4.mono BD.out.size))
  clear aA hb4
  have K4:=Aa (KX.out.below B4.out KX.out.lt)
  have J4:=Aa (KI.out.below B4.out KI.out.lt)
  have R4:=Aa (KR.out.below B4.out KR.out.lt)
  have aH:=Aa (a8.out.trans (B4.out.mono a8.out.size))
  have aN:=B4.out.size
  go_simp
  refine hK.out _ _ (by exact⟨K4.out,J4.out.cell 2⟩) (λhHeld=>?_)
  clear hK K
  try simp only[Act.put,sq]
  have r0:=R4.out.c0
  have r1:=R4.out.c1
  have rf:=R4.out.frozen
  have rl:=R4.out.lt
  have KF:Hid (Ac ((w4.setCell ⟨w.heap.size+1,0,none⟩ (.string x.name)).setCell ⟨w.heap.size+1,1,none⟩ (.slice a4 x.args.length c4)) w2.heap.size #[.string x.name,.slice ax x.args.length cx] 29):=(K4.out.setOther _ _ (by omega)).setOther _ _ (by omega)
  have aI:Hid (Ac ((w4.setCell ⟨w.heap.size+1,0,none⟩ (.string x.name)).setCell ⟨w.heap.size+1,1,none⟩ (.slice a4 x.args.length c4)) w1.heap.size _ 101):=(J4.out.setOther _ _ (by omega)).setOther _ _ (by omega)
  have RF:Hid (Ac ((w4.setCell ⟨w.heap.size+1,0,none⟩ (.string x.name)).setCell ⟨w.heap.size+1,1,none⟩ (.slice a4 x.args.length c4)) (w.heap.size+1) #[.string x.name,.slice a4 x.args.length c4] 29):=(R4.out.set 0 _).set 1 _
  have BF:Hid (Below w.heap.size w ((w4.setCell ⟨w.heap.size+1,0,none⟩ (.string x.name)).setCell ⟨w.heap.size+1,1,none⟩ (.slice a4 x.args.length c4))):=(aH.out.setCell (by simp) _).setCell (by simp) _
  have SF:Hid (Sl ((w4.setCell ⟨w.heap.size+1,0,none⟩ (.string x.name)).setCell ⟨w.heap.size+1,1,none⟩ (.slice a4 x.args.length c4)) (λb=>w.heap.size<=b) a4 x.args):=(aG.out.kept λb hb=>by rw[Aq _ _ _ _ (by simp; omega),Aq _ _ _ _ (by simp; omega)]).mono λb hb _=>by omega
  refine rdq 4 rfl λK hK=>?_
  go_simp
  refine hK.out _ _ (by exact⟨KF.out,aI.out.cell 2⟩) (λhHeld=>?_)
  clear hK K
  try simp only[Act.put,sq]
  refine tkz 5 ?_
  refine tkz 6 ?_
  refine dnq ?_
  generalize ((w4.setCell ⟨w.heap.size+1,0,none⟩ (.string x.name)).setCell ⟨w.heap.size+1,1,none⟩ (.slice a4 x.args.length c4))=wf at *
  clear r0 r1 rf rl
  have f0:=RF.out.c0
  have f1:=RF.out.c1
  go_wp2_with fail
  refine Ap (v:=.tuple #[.agg #[.string x.name,.slice a4 x.args.length c4],.int .i64 (d':Int),.int .i64 0]) (by simp[results,Tryz.results39,go_sem,f0,f1]) rfl ?_
  exact⟨BF.out,x,a4,c4,d',0,rfl,aD.out,SF.out⟩
 ·have aJ:=Aa a6
  have hne:¬(er=0):=by rcases h0 with h|h<;>omega
  subst hx0
  clear ah x2 a6 h0
  have r0:=R2.out.c0
  have r1:=R2.out.c1
  have rf:=R2.out.frozen
  have rl:=R2.out.lt
  go_wp2_with fail
  have KF:Ac (((w2.setCell ⟨w.heap.size+1,0,none⟩ (.string ⟨#[]⟩)).setCell ⟨w.heap.size+1,1,none⟩ (.slice none 0 0)).alloc (.cells #[.string ⟨#[]⟩,.slice ax 0 cx] 29)) (w.heap.size+1) #[.string ⟨#[]⟩,.slice none 0 0] 29:=((R2.out.set 0 _).set 1 _).alloc _
  have BF:Hid (Below w.heap.size w (((w2.setCell ⟨w.heap.size+1,0,none⟩ (.string ⟨#[]⟩)).setCell ⟨w.heap.size+1,1,none⟩ (.slice none 0 0)).alloc (.cells #[.string ⟨#[]⟩,.slice ax 0 cx] 29))):=((aa.out.setCell (by simp) _).setCell (by simp) _).alloc (by have:=aa.out.size; simp[World.setCell]; omega) _
  generalize (((w2.setCell ⟨w.heap.size+1,0,none⟩ (.string ⟨#[]⟩)).setCell ⟨w.heap.size+1,1,none⟩ (.slice none 0 0)).alloc (.cells #[.string ⟨#[]⟩,.slice ax 0 cx] 29))=wf at *
  have f0:=KF.c0
  have f1:=KF.c1
  refine Ap (v:=.tuple #[.agg #[.string ⟨#[]⟩,.slice none 0 0],.int .i64 0,.int .i64 er]) (by simp[results,Tryz.results39,go_sem,f0,f1]) rfl ?_
  refine⟨BF.out,⟨⟨#[]⟩,[]⟩,none,0,0,er,rfl,?_,⟨by simp,Ad rfl⟩⟩
  have h:=aJ.out
  simpa using h
def DD (rs:List Pr) (m:Nat) (a b:Tm):Bool×Int:=if (BL rs true m a).1≠0 then (false,(BL rs true m a).1) else if (BL rs true m b).1≠0 then (false,(BL rs true m b).1) else (BI (BL rs true m a).2.1 (BL rs true m b).2.1,0)
theorem iK (rs:List Pr) (hr:∀p∈rs,Bt p=0) (t t2:Tm) (m:Nat) (u:Value) (a a2:Option Addr) (c c2:Nat) (w:World) (X:Nat->Prop) (hu:QV w X u rs) (hs:Sl w X a t.args) (hs2:Sl w X a2 t2.args) (hz:Ab [t]<=2000) (hz2:Ab [t2]<=2000) (hm:m<=400):
  Calls Tryz.prog 21 #[u,.agg #[.string t.name,.slice a t.args.length c],.agg #[.string t2.name,.slice a2 t2.args.length c2],.int .i64 (m:Int)] w λe w'=>e=.returned (.tuple #[.bool (DD rs m t t2).1,.int .i64 (DD rs m t t2).2])/\Below w.heap.size w w':=by
 have HU:=Aa hu
 have HS:=Aa hs
 have aC:=Aa hs2
 have HR:=Aa hr
 obtain⟨ua,uc,rfl,_,_⟩:=hu
 clear hs hs2 hr
 have HW:Hid (∃W,W=(w.alloc (.cells #[.string t.name,.slice a t.args.length c] 29)).alloc (.cells #[.string t2.name,.slice a2 t2.args.length c2] 29)/\Below w.heap.size w W/\Ac W (w.heap.size+1) #[.string t2.name,.slice a2 t2.args.length c2] 29):=by
  obtain⟨h1,h2,h3⟩:=Gv [(.cells #[.string t.name,.slice a t.args.length c] 29:Obj),(.cells #[.string t2.name,.slice a2 t2.args.length c2] 29:Obj)] w
  exact⟨_,rfl,h1,h3 1 _ rfl⟩
 go_enter Tryz.func21,Tryz.ntmps21
 go_wp2_with fail
 obtain⟨w0,hw0,hb0,au⟩:=HW.out
 rw[<-hw0]
 have af:=Aa hb0
 have av:=Aa au
 clear hw0 HW hb0 au
 refine(TC rs HR.out t m _ a c w0 X (HU.out.later af.out) (HS.out.later af.out) hz hm).mono ?_
 rintro e w1 ⟨hb1,x,ax,cx,n1,er,rfl,aw,az⟩
 have ai:=Aa aw
 have aD:=Aa az
 have ag:=Aa (af.out.trans (hb1.mono af.out.size))
 have T1:=Aa (av.out.below hb1 av.out.lt)
 clear aw az hb1
 by_cases h0:er=0
 ·subst h0
  have a6:Hid (Below w1.heap.size w1 (w1.alloc (.cells #[.string x.name,.slice ax x.args.length cx] 29))):=(Af _ _).alloc (Aj _) _
  have KX:Hid (Ac (w1.alloc (.cells #[.string x.name,.slice ax x.args.length cx] 29)) w1.heap.size #[.string x.name,.slice ax x.args.length cx] 29):=Ac.new w1 _ _
  have t0:∀o,(w1.alloc o).cell? ⟨w.heap.size+1,0,none⟩=some (.string t2.name):=λo=>(T1.out.alloc o).cell 0
  have t1:∀o,(w1.alloc o).cell? ⟨w.heap.size+1,1,none⟩=some (.slice a2 t2.args.length c2):=λo=>(T1.out.alloc o).cell 1
  go_wp2_with fail
  clear t0 t1
  have ah:=Aa (ag.out.trans (a6.out.mono ag.out.size))
  have aj:=Aa (aD.out.later a6.out)
  generalize (w1.alloc (.cells #[.string x.name,.slice ax x.args.length cx] 29))=w2 at *
  refine(TC rs HR.out t2 m _ a2 c2 w2 X (HU.out.later ah.out) (aC.out.later ah.out) hz2 hm).mono ?_
  rintro e w3 ⟨hb3,y,ay,cy,n2,ak,rfl,a7,a8⟩
  have aA:=Aa a7
  have aF:=Aa a8
  have aa:=Aa (ah.out.trans (hb3.mono ah.out.size))
  have ao:=Aa (KX.out.below hb3 KX.out.lt)
  have aq:=Aa (aj.out.later hb3)
  clear a7 a8 hb3
  by_cases h1:ak=0
  ·subst h1
   have ae:Hid (DD rs m t t2=(BI x y,0)):=by unfold Hid DD; rw[ai.out,aA.out]; simp
   have ar:Hid (Below w3.heap.size w3 (w3.alloc (.cells #[.string y.name,.slice ay y.args.length cy] 29))):=(Af _ _).alloc (Aj _) _
   have x0:∀o,(w3.alloc o).cell? ⟨w1.heap.size,0,none⟩=some (.string x.name):=λo=>(ao.out.alloc o).cell 0
   have x1:∀o,(w3.alloc o).cell? ⟨w1.heap.size,1,none⟩=some (.slice ax x.args.length cx):=λo=>(ao.out.alloc o).cell 1
   have aH:w1.heap.size<w3.heap.size:=ao.out.lt
   go_wp2_with fail
   refine(Pp x y _ _ _ _ _ ⟨ax,cx,rfl,aq.out.later ar.out⟩ ⟨ay,cy,rfl,aF.out.later ar.out⟩).mono ?_
   rintro e w5 ⟨rfl,aB⟩
   have aG:=Aa ((aa.out.trans (ar.out.mono aa.out.size)).trans (aB.mono (by have:=aa.out.size; simp; omega)))
   clear aB x0 x1
   go_wp2_with fail
   refine Ap (v:=.tuple #[.bool (BI x y),.int .i64 0]) (by simp[results,Tryz.results21,go_sem]) rfl ?_
   exact⟨by rw[ae.out],aG.out⟩
  ·have ae:Hid (DD rs m t t2=(false,ak)):=by unfold Hid DD; rw[ai.out,aA.out]; simp[h1]
   go_wp2_with fail
   refine Ap (v:=.tuple #[.bool false,.int .i64 ak]) (by simp[results,Tryz.results21,go_sem]) rfl ?_
   exact⟨by rw[ae.out],aa.out.alloc aa.out.size _⟩
 ·have ae:Hid (DD rs m t t2=(false,er)):=by unfold Hid DD; rw[ai.out]; simp[h0]
  go_wp2_with fail
  refine Ap (v:=.tuple #[.bool false,.int .i64 er]) (by simp[results,Tryz.results21,go_sem]) rfl ?_
  exact⟨by rw[ae.out],ag.out.alloc ag.out.size _⟩
open Go.RowKit
theorem iL (K:ByteArray->ByteArray) (l:List Tm):∀(ns:List ByteArray),Ab (AK K ns l).1<=Ab l:=by
 induction l using Tm.indL with
 |h0=>intro ns; rw[AK]; exact Aj _
 |h s l r ae aa=>
  intro ns
  have e:Ab ((⟨s,l⟩:Tm)::r)=1+Ab l+Ab r:=by simp[Ab]
  rw[e,AK]
  split
  ·have h:=aa (Cc ns (K s))
   simp[Ab]
   omega
  ·have h1:=ae ns
   have h2:=aa (AK K ns l).2
   simp[Ab]
   omega
theorem TD (K:ByteArray->ByteArray) (t:Tm) (ns:List ByteArray):Ab [(AO K ns t).1]<=Ab [t]:=by
 have h:=iL K [t] ns
 rw[FY,E6]at h
 exact h
def I1 (p:Pr):Prop:=Ab [p.l]<=2000/\Ab [p.r]<=2000
theorem iM {U:List Pr->Int×List Bd} {q:Rn×Rn} (h:¬H7 U q):∀p∈G6 U q,I1 p:=by
 intro p hp
 obtain⟨d,hd,he⟩:=List.mem_filterMap.1 hp
 unfold Eg at he
 split at he
 ·cases he
 ·rename_i hs
  have e:Dz (DT U (Av q.1.1 q.2.1) d)=p:=Hf he
  subst e
  have hn:¬Dk U (Av q.1.1 q.2.1) (decide (q.1.2=q.2.2)) d:=λhf=>h ⟨d,hd,hf⟩
  have h1:¬2000<Ab [(DT U (Av q.1.1 q.2.1) d).l]:=λg=>hn ⟨by simpa using hs,Ae (Ad g)⟩
  have h2:¬2000<Ab [(DT U (Av q.1.1 q.2.1) d).r]:=λg=>hn ⟨by simpa using hs,Ae (Ae g)⟩
  have g1:=TD id (DT U (Av q.1.1 q.2.1) d).l []
  have g2:=TD id (DT U (Av q.1.1 q.2.1) d).r (AO id [] (DT U (Av q.1.1 q.2.1) d).l).2
  refine⟨?_,?_⟩
  ·unfold Dz Cl; simp only; omega
  ·unfold Dz Cl; simp only; omega
theorem TE (U:List Pr->Int×List Bd):∀(l:List (Rn×Rn)) (out:List Pr),(∀p∈out,I1 p)->∀p∈(DC U l out).2,I1 p
 | [],out,h=>by rw[DC]; exact h
 |q::r,out,h=>by
  rw[DC]
  split
  ·simp
  ·rename_i hb
   split
   ·simp
   ·exact TE U r _ (λp hp=>by
     rcases Bg.1 hp with e|e
     ·exact h p e
     ·exact iM hb p e)
theorem TG (U:List Pr->Int×List Bd) (rs:List Pr):∀p∈(Dh U rs).2,I1 p:=TE U _ _ (by simp)
def D5 (rs:List Pr) (m:Nat):List Pr->Bool×Int
 | []=>(true,0)
 |p::r=>if (DD rs m p.l p.r).1=true/\(DD rs m p.l p.r).2=0 then D5 rs m r else (false,(DD rs m p.l p.r).2)
noncomputable def DK (U:List Pr->Int×List Bd) (rs:List Pr) (k:Int):Bool×Int:=
 if Cg rs=0 then (if (Dh U rs).1=0 then (if 0<=k/\k<=400 then D5 rs k.toNat (Dh U rs).2 else (false,10)) else (false,(Dh U rs).1)) else (false,Cg rs)
theorem iN (BT:Nat) (U:List Pr->Int×List Bd) (hU:∀ls,Ck ls=0->∃g,AQ false g [] ls=some (U ls)) (av:∀ls,Ck ls=0->(U ls).1=0->Hp (U ls).2) (rs:List Pr) (k:Int) (u:Value) (w:World) (X:Nat->Prop) (hu:QV w X u rs) (hT:Tb BT w) (a6:BT<=w.heap.size):
  Calls Tryz.prog 10 #[u,.int .i64 k] w λe w'=>e=.returned (.tuple #[.bool (DK U rs k).1,.int .i64 (DK U rs k).2])/\Below w.heap.size w w':=by
 have HU:=Aa hu
 have HC:=Aa (Tt BT U hU av rs u w X hu hT a6)
 obtain⟨ua,uc,rfl,aI,-⟩:=id hu
 clear hu hT hU av
 obtain⟨bb,be,aj⟩:∃bb be,(bb,be)=DK U rs k:=⟨_,_,rfl⟩
 rw[<-aj]
 have ae:=Aa aj
 clear aj
 simp only
 go_enter Tryz.func10,Tryz.ntmps10
 go_wp2_with fail
 refine HC.out.mono ?_
 rintro e w1 ⟨hb1,⟨h1,rfl⟩|⟨h1,h2,rfl⟩|⟨h1,h2,v,cs,rfl,hq,hl,hm⟩⟩
 ·have aa:=Aa hb1
  have HE:Hid (bb=false/\be=Cg rs):=by
   have h:=ae.out
   unfold DK at h
   rw[An h1]at h
   exact⟨Bu Prod.fst h,Bu Prod.snd h⟩
  generalize Cg rs=er at *
  have hr3:(er !=0)=true:=by simp[h1]
  clear hb1 h1 ae
  go_wp2_with fail
  refine Ap (v:=.tuple #[.bool false,.int .i64 er]) (by simp[results,Tryz.results10,go_sem]) rfl ?_
  obtain⟨rfl,rfl⟩:=HE.out
  exact⟨rfl,aa.out⟩
 ·have aa:=Aa hb1
  have HE:Hid (bb=false/\be=(Dh U rs).1):=by
   have h:=ae.out
   unfold DK at h
   rw[As h1,An h2]at h
   exact⟨Bu Prod.fst h,Bu Prod.snd h⟩
  generalize (Dh U rs).1=er at *
  have hr3:(er !=0)=true:=by simp[h2]
  clear hb1 h1 h2 ae
  go_wp2_with fail
  refine Ap (v:=.tuple #[.bool false,.int .i64 er]) (by simp[results,Tryz.results10,go_sem]) rfl ?_
  obtain⟨rfl,rfl⟩:=HE.out
  exact⟨rfl,aa.out⟩
 ·have aa:=Aa hb1
  have HQ:=Aa hq
  have HM:=Aa hm
  have HR:=Aa h1
  obtain⟨va,vc,rfl⟩:=DP hq.own
  by_cases hk:0<=k/\k<=400
  ·have HE:Hid ((bb,be)=D5 rs k.toNat (cs.map (·.1))):=by
    have h:=ae.out
    unfold DK at h
    rw[As h1,As h2,As hk,<-hm]at h
    exact h
   obtain⟨m,rfl⟩:∃m:Nat,k=(m:Int):=⟨k.toNat,by omega⟩
   have a7:Hid ((bb,be)=D5 rs m (cs.map (·.1))):=HE.out
   have a8:¬(m:Int)<0:=by omega
   have hk2:¬(400:Int)<(m:Int):=by omega
   have aA:Hid (m<=400):=by unfold Hid; omega
   have aB:Hid (∀p∈cs.map (·.1),I1 p):=by unfold Hid; rw[hm]; exact TG U rs
   have aw:=Aa hq.qv
   have ax:(cs.map (·.1)).length=cs.length:=by simp
   clear hb1 h1 h2 hq hm ae HE hk HM
   go_wp2_with fail
   generalize aC:cs.map (·.1)=ls at *
   rw[<-ax]at aw hl ⊢
   clear ax HQ aC
   go_loopw [28] (λoi wr=>∃i,i<=ls.length/\oi=.int .i64 (i:Int)/\Below w1.heap.size w1 wr/\(bb,be)=D5 rs m (ls.drop i)) (λoi wr=>ls.length-(intOf oi).toNat)
   case atStart=>exact⟨0,AE _,rfl,Af _ _,a7.out⟩
   case round=>
    obtain⟨i,hi,rfl,ai,af⟩:=hrel
    have ag:=Aa ai
    have HJ:=Aa af
    by_cases ak:i<ls.length
    ·have aD:(i:Int)<(ls.length:Int):=by omega
     have aJ:(i:Int)<=400:=by omega
     obtain⟨b,o,a1,c1,a2,c2,hva,p0,p1,p2,p3,s1,s2⟩:=(aw.out.later ai).get i ak
     subst hva
     have aF:=Aa s1
     have aG:=Aa s2
     have ay:=Aa (aB.out ls[i] (AV ak))
     have az:Hid ((bb,be)=D5 rs m (ls[i]::ls.drop (i+1))):=by unfold Hid; rw[<-JV ak]; exact af
     clear ai af s1 s2
     go_wp2_with fail
     rename_i wr
     refine(iK rs (GS HR.out) ls[i].l ls[i].r m _ a1 a2 c1 c2 _ (λ_=>True) (((HU.out.later aa.out).later ag.out).mono (λ_ _ _=>trivial) |>.alloc _) ((aF.out.later ((Af _ _).alloc (Aj _) _)).mono λ_ _ _=>trivial) ((aG.out.later ((Af _ _).alloc (Aj _) _)).mono λ_ _ _=>trivial) ay.out.1 ay.out.2 aA.out).mono ?_
     rintro e w3 ⟨rfl,hb3⟩
     have ao:Hid (Below w1.heap.size w1 w3):=(ag.out.alloc ag.out.size _).trans (hb3.mono (by have:=ag.out.size; simp; omega))
     clear hb3 p0 p1 p2 p3
     obtain⟨mb,me,aq⟩:∃mb me,(mb,me)=DD rs m ls[i].l ls[i].r:=⟨_,_,rfl⟩
     have ah:Hid ((bb,be)=if mb=true/\me=0 then D5 rs m (ls.drop (i+1)) else (false,me)):=by
      have h:=az.out
      rw[D5,<-aq]at h
      exact h
     rw[<-aq]
     clear aq az
     simp only
     cases mb with
     |false=>
      go_wp2_with fail
      refine Ap (v:=.tuple #[.bool false,.int .i64 me]) (by simp[results,Tryz.results10,go_sem]) rfl ?_
      have h:=ah.out
      simp at h
      obtain⟨rfl,rfl⟩:=h
      exact⟨rfl,aa.out.trans (ao.out.mono aa.out.size)⟩
     |true=>
      by_cases ar:me=0
      ·subst ar
       have au:Hid ((bb,be)=D5 rs m (ls.drop (i+1))):=by have h:=ah.out; unfold Hid; simpa using h
       clear ah
       go_wp2_with fail
       go_roundw
       case rel=>exact⟨i+1,by omega,by simp,ao.out,au.out⟩
       case measure=>simp[intOf]; omega
      ·have au:Hid ((bb,be)=(false,me)):=by have h:=ah.out; rw[An (by simp[ar])] at h; exact h
       have aK:(me !=0)=true:=by simp[ar]
       clear ah
       go_wp2_with fail
       refine Ap (v:=.tuple #[.bool false,.int .i64 me]) (by simp[results,Tryz.results10,go_sem]) rfl ?_
       have h:=au.out
       simp at h
       obtain⟨rfl,rfl⟩:=h
       exact⟨rfl,aa.out.trans (ao.out.mono aa.out.size)⟩
    ·have aD:¬(i:Int)<(ls.length:Int):=by omega
     have aH:Hid ((bb,be)=(true,0)):=by
      unfold Hid
      rw[af,JW (by omega),D5]
     clear ai af
     go_wp2_with fail
     refine Ap (v:=.tuple #[.bool true,.int .i64 0]) (by simp[results,Tryz.results10,go_sem]) rfl ?_
     have h:=aH.out
     simp at h
     obtain⟨rfl,rfl⟩:=h
     exact⟨rfl,aa.out.trans (ag.out.mono aa.out.size)⟩
  ·have HE:Hid (bb=false/\be=10):=by
    have h:=ae.out
    unfold DK at h
    rw[As h1,As h2,An hk]at h
    exact⟨Bu Prod.fst h,Bu Prod.snd h⟩
   clear hb1 h1 h2 hq hm ae
   by_cases a8:k<0
   ·go_wp2_with fail
    refine Ap (v:=.tuple #[.bool false,.int .i64 10]) (by simp[results,Tryz.results10,go_sem]) rfl ?_
    obtain⟨rfl,rfl⟩:=HE.out
    exact⟨rfl,aa.out⟩
   ·have hk2:400<k:=by omega
    go_wp2_with fail
    refine Ap (v:=.tuple #[.bool false,.int .i64 10]) (by simp[results,Tryz.results10,go_sem]) rfl ?_
    obtain⟨rfl,rfl⟩:=HE.out
    exact⟨rfl,aa.out⟩
attribute [local go_sem] GJ
theorem iO {c:UInt8} {ns:List ByteArray} {m:Nat} (h:m<ns.length):C1 c 0 (ns.take (m+1))=C1 c 0 (ns.take m)++[⟨ns[m],⟨DB c m,[]⟩⟩]:=by
 rw[Bm h,SO]
 have:(ns.take m).length=m:=by simp; omega
 rw[this,Ey]
def iP (c:UInt8) (w2:World) (ns:List ByteArray) (u i:Value) (wr:World):Prop:=
 ∃(m:Nat) (cs:List Bc),m<=ns.length/\i=.int .i64 m/\Bh wr w2.heap.size (λ_=>False) u cs/\cs.map (·.1)=C1 c 0 (ns.take m)/\Below w2.heap.size w2 wr
def iQ (c:UInt8) (p:Pr) (w:World) (e:Ending) (w':World):Prop:=
 ∃y b1 d1 b2 d2,y=Dl c p/\e=.returned (.agg #[.string y.l.name,.slice b1 y.l.args.length d1,.string y.r.name,.slice b2 y.r.args.length d2])/\Sl w' (λ_=>True) b1 y.l.args/\Sl w' (λ_=>True) b2 y.r.args/\Below w.heap.size w w'
theorem TH (c:UInt8) (p:Pr) (a1 a2:Option Addr) (c1 c2:Nat) (w:World) (X:Nat->Prop) (hs1:Sl w X a1 p.l.args) (hs2:Sl w X a2 p.r.args) (hz1:Ab [p.l]<=100000) (hz2:Ab [p.r]<=100000):
  Calls Tryz.prog 25 #[.agg #[.string p.l.name,.slice a1 p.l.args.length c1,.string p.r.name,.slice a2 p.r.args.length c2],.string ⟨#[c]⟩] w λe w'=>iQ c p w e w':=by
 have aL:=Aa (hs1.mono (Y:=λb=>b<w.heap.size) λ_ _ h=>h)
 have aU:=Aa (hs2.mono (Y:=λb=>b<w.heap.size) λ_ _ h=>h)
 have a6:=Aa hz1
 have aV:=Aa hz2
 clear hs1 hs2 hz1 hz2
 go_enter Tryz.func25,Tryz.ntmps25
 go_wp2_with fail
 have Bx:Below w.heap.size w ((w.alloc (.cells #[.string p.l.name,.slice a1 p.l.args.length c1,.string p.r.name,.slice a2 p.r.args.length c2] 31)).alloc (.cells #[.string ⟨#[]⟩,.slice none 0 0,.string ⟨#[]⟩,.slice none 0 0] 31)):=CO _ _
 have aq:Ac ((w.alloc (.cells #[.string p.l.name,.slice a1 p.l.args.length c1,.string p.r.name,.slice a2 p.r.args.length c2] 31)).alloc (.cells #[.string ⟨#[]⟩,.slice none 0 0,.string ⟨#[]⟩,.slice none 0 0] 31)) w.heap.size #[.string p.l.name,.slice a1 p.l.args.length c1,.string p.r.name,.slice a2 p.r.args.length c2] 31:=(Ac.new w _ _).alloc _
 have ar:Ac ((w.alloc (.cells #[.string p.l.name,.slice a1 p.l.args.length c1,.string p.r.name,.slice a2 p.r.args.length c2] 31)).alloc (.cells #[.string ⟨#[]⟩,.slice none 0 0,.string ⟨#[]⟩,.slice none 0 0] 31)) (w.heap.size+1) #[.string ⟨#[]⟩,.slice none 0 0,.string ⟨#[]⟩,.slice none 0 0] 31:=by
  have h:=Ac.new (w.alloc (.cells #[.string p.l.name,.slice a1 p.l.args.length c1,.string p.r.name,.slice a2 p.r.args.length c2] 31)) #[.string ⟨#[]⟩,.slice none 0 0,.string ⟨#[]⟩,.slice none 0 0] 31
  rw[CN]at h
  exact h
 generalize (w.alloc (.cells #[.string p.l.name,.slice a1 p.l.args.length c1,.string p.r.name,.slice a2 p.r.args.length c2] 31)).alloc (.cells #[.string ⟨#[]⟩,.slice none 0 0,.string ⟨#[]⟩,.slice none 0 0] 31)=W at *
 obtain⟨R,hR⟩:∃R,R=w.heap.size+1:=⟨_,rfl⟩
 obtain⟨Q,hQ⟩:∃Q,Q=w.heap.size:=⟨_,rfl⟩
 rw[<-hR]at ar ⊢
 rw[<-hQ]at aq ⊢
 have au:Hid (R=w.heap.size+1/\Q=w.heap.size):=⟨hR,hQ⟩
 clear hR hQ
 refine(Ip p.l _ W (λb=>b<w.heap.size) ⟨a1,c1,rfl,aL.out.later Bx⟩ (by have:=a6.out; omega)).mono ?_
 rintro e w3 ⟨v',rfl,hlv,hb3⟩
 obtain⟨an,cn,rfl,_⟩:=id hlv
 have a7:=Aa (hlv.mono (Y:=λ_=>True) λ_ _ _=>trivial)
 have a8:=Aa (Bx.trans (hb3.mono Bx.size))
 have av:=Aa (aq.below hb3 aq.lt)
 have aw:=Aa (ar.below hb3 ar.lt)
 have ah:Hid ((At [] (Ao [p.l])).length<=100000):=by have:=Nh [p.l]; have:=a6.out; unfold Hid; omega
 have aW:Hid (R<w3.heap.size/\Q<w3.heap.size):=⟨aw.out.lt,av.out.lt⟩
 have ax:Hid (∀t,Ag (C1 c 0 (At [] (Ao [p.l]))) t=Ag (C1 c 0 (CG p)) t):=λt=>rfl
 obtain⟨ns,aM⟩:∃ns,ns=At [] (Ao [p.l]):=⟨_,rfl⟩
 rw[<-aM]at a7 ah ax ⊢
 clear aM hlv hb3 Bx aq ar
 go_wp2_with fail
 obtain⟨w2,hw2⟩:∃w2,w2=w3:=⟨_,rfl⟩
 subst hw2
 go_loopw [6,7] (λu i wr2=>iP c w2 ns u i wr2) (λu i wr2=>ns.length-(intOf i).toNat)
 case atStart=>exact⟨0,[],AE _,rfl,Bh.start _ _ _,by simp[C1],Af _ _⟩
 case round=>
  obtain⟨m,cs,hm,rfl,hrow,hcs,hb2⟩:=hrel
  have ai:=Aa hrow
  have aN:=Aa hcs
  have aO:=Aa hb2
  by_cases aA:m<ns.length
  ·obtain⟨bn,on,rfl,x0⟩:=(a7.out.later hb2).atC m aA
   have aX:(m:Int)<(ns.length:Int):=by omega
   have bo:m<=100000:=by have:=ah.out; omega
   have aY:cs.length<=1000000:=by
    have h1:=Bu List.length hcs
    rw[DZ,SN,Hh]at h1
    have:=ah.out
    omega
   have aZ:=Aa (iO (c:=c) aA)
   have KP:Hid (∀w',Below wr.heap.size wr w'->w'.cell? ⟨bn,on+m,none⟩=some (.string ns[m])):=λw' hb=>cell_later hb x0
   have kd:Below wr.heap.size wr wr.drew:=(Af _ _).drew
   have aj:=Aa (KP.out _ kd)
   have ba:1+(Lib.decDigits m).length<=9223372036854775807:=by have:=Ir m; have:=ah.out; omega
   have bb:¬9223372036854775807<1+(Lib.decDigits m).length:=by omega
   clear hrow hcs hb2 x0
   go_upto_region 6 with fail
   refine CU (S:=(λw'=>w'.cell? ⟨bn,on+m,none⟩=some (.string ns[m]))) (by kernel_rfl) aj.out (λhHeld=>?_)
   refine tkz 0 ?_
   refine tkz 1 ?_
   refine tkz 2 ?_
   refine tkz 3 ?_
   refine tkz 4 ?_ (hy:=by intro w' hSw;have x0:=hSw;go_simp<;>with_reducible rfl)
   refine tkz 5 ?_
   refine tkz 6 ?_
   refine rdq 7 rfl λK hK=>?_
   go_simp
   go_at_call 42
   refine(Oe m (by have:=ah.out; omega) _).mono ?_
   rintro e w5 ⟨rfl,aa⟩
   have k5:Below wr.heap.size wr w5:=kd.trans (aa.mono kd.size)
   clear aa
   go_simp
   refine hK.out _ _ (by exact KP.out _ k5) (λhHeld=>?_)
   clear hK K
   try simp only[Act.put,sq]
   refine tkz 8 ?_
   refine tkz 9 ?_
   refine tkz 10 ?_
   have ak:(⟨#[c]⟩:ByteArray)++⟨(Lib.decDigits m).toArray⟩=DB c m:=Ta [c] (Lib.decDigits m)
   try rw[ak]
   clear ak
   obtain⟨q2,w6,hr,ae,af⟩:=Td ns[m] (DB c m) ai.out (λ_ h=>h.elim) k5 aO.out.size aY
   have k6:Below wr.heap.size wr (w5.alloc (.cells #[.string ns[m],.string (DB c m),.slice none 0 0] 76)):=k5.alloc k5.size _
   have HR:=Aa hr
   have ao:=Aa ae
   have ay:=Aa (aO.out.trans af)
   have bc:Hid (w6.cell? ⟨bn,on+m,none⟩=some (.string ns[m])):=(((a7.out.later ay.out).atC m aA).elim λb h=>h.elim λo h=>by simp at h; obtain⟨⟨rfl,rfl⟩,h⟩:=h; exact h)
   clear hr ae af
   refine rdq 11 rfl λK hK=>?_
   go_simp
   refine hK.out _ _ (by exact KP.out _ k6) (λhHeld=>?_)
   clear hK K
   try simp only[Act.put,sq]
   refine rdq 12 rfl λK hK=>?_
   refine FV rfl _ _ _ _ rfl rfl rfl HR.out ?_
   refine hK.out _ _ (by exact bc.out) (λhHeld=>?_)
   clear hK K
   try simp only[Act.put,sq]
   refine tkz 13 ?_
   refine dnq ?_
   go_wp2_with fail
   go_roundw
   case rel=>exact⟨m+1,_,by omega,by go_num,ao.out,by rw[aZ.out,Cr,aN.out]; rfl,ay.out⟩
   case measure=>simp[intOf]; omega
  ·have aP:ns.take m=ns:=AW (by omega)
   rw[aP]at hcs
   have az:=hrow.bv
   rw[hcs]at az
   obtain⟨aS,cS,rfl,_⟩:=id az
   have bf:=Aa (az.mono (Y:=λb=>b≠R) λb h1 _ e=>by have h:=h1.resolve_left (λh=>h.elim); have:=aW.out.1; omega)
   have aQ:=Aa (a8.out.trans (hb2.mono a8.out.size))
   have aB:=Aa (av.out.below hb2 av.out.lt)
   have aC:=Aa (aw.out.below hb2 aw.out.lt)
   clear hrow hcs hb2 aP az ai aN av aw a8
   generalize C1 c 0 ns=ls at *
   obtain⟨y,hy⟩:∃y:Pr,y=⟨Ag ls p.l,Ag ls p.r⟩:=⟨_,rfl⟩
   have HY:Hid (y=Dl c p):=by unfold Hid Dl; rw[hy,ax.out,ax.out]
   have bg:Hid (Ag ls p.l=y.l):=by unfold Hid; rw[hy]
   have bh:Hid (Ag ls p.r=y.r):=by unfold Hid; rw[hy]
   clear hy ax
   have bd:Below wr.heap.size wr wr.drew:=(Af _ _).drew
   have aj:Hid (Ac wr.drew Q #[.string p.l.name,.slice a1 p.l.args.length c1,.string p.r.name,.slice a2 p.r.args.length c2] 31):=aB.out.below bd aB.out.lt
   have aD:=Aa (aC.out.below bd aC.out.lt)
   have aF:=Aa (aQ.out.trans (bd.mono aQ.out.size))
   have aR:=Aa (bf.out.later bd)
   have bp:Q<wr.heap.size:=aB.out.lt
   have bq:R<wr.heap.size:=aC.out.lt
   go_upto_region 7 with fail
   refine CU (S:=λw'=>Ac w' Q #[.string p.l.name,.slice a1 p.l.args.length c1,.string p.r.name,.slice a2 p.r.args.length c2] 31) (by kernel_rfl) aj.out (λhHeld=>?_)
   refine tkz 0 ?_
   refine tkz 1 ?_ (hy:=by intro w' hSw;have x0:w'.cell? ⟨Q,0,none⟩=some (.string p.l.name):=hSw.cell 0;have x1:w'.cell? ⟨Q,1,none⟩=some (.slice a1 p.l.args.length c1):=hSw.cell 1;go_simp<;>with_reducible rfl)
   refine tkz 2 ?_ (hy:=by intro w' hSw;have x0:w'.cell? ⟨Q,0,none⟩=some (.string p.l.name):=hSw.cell 0;have x1:w'.cell? ⟨Q,1,none⟩=some (.slice a1 p.l.args.length c1):=hSw.cell 1;go_simp<;>with_reducible rfl)
   refine tkz 4 ?_
   refine tkz 5 ?_ (hy:=by intro w' hSw;have x2:w'.cell? ⟨Q,2,none⟩=some (.string p.r.name):=hSw.cell 2;have x3:w'.cell? ⟨Q,3,none⟩=some (.slice a2 p.r.args.length c2):=hSw.cell 3;go_simp<;>with_reducible rfl)
   refine tkz 6 ?_ (hy:=by intro w' hSw;have x2:w'.cell? ⟨Q,2,none⟩=some (.string p.r.name):=hSw.cell 2;have x3:w'.cell? ⟨Q,3,none⟩=some (.slice a2 p.r.args.length c2):=hSw.cell 3;go_simp<;>with_reducible rfl)
   generalize wr.drew=wd at *
   refine rdq 3 rfl λK hK=>?_
   go_simp
   go_at_call 43
   refine(Mq ls p.l _ _ wd (λb=>b≠R) aR.out ⟨a1,c1,rfl,(aL.out.later aF.out).mono λb h _ e=>by have:=au.out; omega⟩ (by have:=a6.out; omega)).mono ?_
   rintro e w5 ⟨b1,d1,rfl,hs5,aa⟩
   rw[bg.out]at hs5 ⊢
   have aG:=Aa (aF.out.trans (aa.mono aF.out.size))
   have bj:=Aa (aR.out.later aa)
   have bk:=Aa (hs5.mono (Y:=λb=>b≠R) λb h _ e=>h.elim (λh=>h.1 e) λh=>by have:=aD.out.lt; omega)
   have aH:=Aa (aj.out.below aa aj.out.lt)
   have aI:=Aa (aD.out.below aa aD.out.lt)
   clear aa hs5
   go_simp
   refine hK.out _ _ (by exact aH.out) (λhHeld=>?_)
   clear hK K
   try simp only[Act.put,sq]
   refine rdq 7 rfl λK hK=>?_
   go_simp
   go_at_call 43
   refine(Mq ls p.r _ _ w5 (λb=>b≠R) bj.out ⟨a2,c2,rfl,(aU.out.later aG.out).mono λb h _ e=>by have:=au.out; omega⟩ (by have:=aV.out; omega)).mono ?_
   rintro e w6 ⟨b2,d2,rfl,aJ,af⟩
   rw[bh.out]at aJ ⊢
   have ay:=Aa (aG.out.trans (af.mono aG.out.size))
   have bl:=Aa (aJ.mono (Y:=λb=>b≠R) λb h _ e=>h.elim (λh=>h.1 e) λh=>by have:=aI.out.lt; omega)
   have aK:=Aa (bk.out.later af)
   have aT:=Aa (aH.out.below af aH.out.lt)
   have ag:=Aa (aI.out.below af aI.out.lt)
   clear af aJ
   go_simp
   refine hK.out _ _ (by exact aT.out) (λhHeld=>?_)
   clear hK K
   try simp only[Act.put,sq]
   refine tkz 8 ?_
   have r0:=ag.out.c0
   have r1:=ag.out.c1
   have r2:=ag.out.c2
   have r3:=ag.out.c3
   have rf:=ag.out.frozen
   have rl:=ag.out.lt
   have bm:Hid (∀v0 v1 v2 v3,Ac ((((w6.setCell ⟨R,0,none⟩ v0).setCell ⟨R,1,none⟩ v1).setCell ⟨R,2,none⟩ v2).setCell ⟨R,3,none⟩ v3) Q #[.string p.l.name,.slice a1 p.l.args.length c1,.string p.r.name,.slice a2 p.r.args.length c2] 31):=λv0 v1 v2 v3=>by have h:=au.out; exact(((aT.out.setOther _ _ (by omega)).setOther _ _ (by omega)).setOther _ _ (by omega)).setOther _ _ (by omega)
   refine rdq 9 rfl λK hK=>?_
   go_simp
   refine hK.out _ _ (by exact bm.out _ _ _ _) (λhHeld=>?_)
   clear hK K
   try simp only[Act.put,sq]
   refine dnq ?_
   go_wp2_with fail
   refine Ap (v:=.agg #[.string y.l.name,.slice b1 y.l.args.length d1,.string y.r.name,.slice b2 y.r.args.length d2]) (by simp[results,Tryz.results25,go_sem,AU,AG,r0,r1,r2,r3]) rfl ?_
   have h:=au.out
   have hk:∀b,b≠R->((((w6.setCell ⟨R,0,none⟩ (.string y.l.name)).setCell ⟨R,1,none⟩ (.slice b1 y.l.args.length d1)).setCell ⟨R,2,none⟩ (.string y.r.name)).setCell ⟨R,3,none⟩ (.slice b2 y.r.args.length d2)).heap[b]? = w6.heap[b]? := λb hb=>by rw[Aq _ _ _ _ (by simpa using hb),Aq _ _ _ _ (by simpa using hb),Aq _ _ _ _ (by simpa using hb),Aq _ _ _ _ (by simpa using hb)]
   exact⟨y,b1,d1,b2,d2,HY.out,rfl,(aK.out.kept λb hb=>hk b hb).mono λ_ _ _=>trivial,(bl.out.kept λb hb=>hk b hb).mono λ_ _ _=>trivial,(((ay.out.setCell (p:=⟨R,0,none⟩) (by simp; omega) _).setCell (p:=⟨R,1,none⟩) (by simp; omega) _).setCell (p:=⟨R,2,none⟩) (by simp; omega) _).setCell (p:=⟨R,3,none⟩) (by simp; omega) _⟩
theorem TI (t:Tm):0<Ab [t]:=by
 obtain⟨s,l⟩:=t
 simp[Ab]; omega
theorem iR {zs:List Int}:∀ {t x:Tm},AR t zs=some x->Ab [x]<=Ab [t]:=by
 induction zs with
 |nil=>intro t x h; simp only[AR,GH] at h; subst h; exact Aj _
 |cons z zs ih=>
  intro t x h
  simp only[AR] at h
  split at h
  ·rename_i hh
   have h1:=ih h
   have h2:=C4 t.args z.toNat hh.2
   have h3:=C5 t.args (z.toNat+1)
   obtain⟨s,l⟩:=t
   have:Ab [(⟨s,l⟩:Tm)]=1+Ab l:=by simp[Ab]
   simp only at *
   omega
  ·cases h
theorem PV.same {w w1:World} {X Z:Nat->Prop} {v:Value} {p q:List Int} (h:PV w X v p) (h1:PV w1 Z v q) (hl:q=p):PV w Z v p:=by
 subst hl
 obtain⟨a,c,rfl,hl,h⟩:=h
 obtain⟨a1,c1,e1,aa,h1⟩:=h1
 cases e1
 refine⟨a,c,rfl,hl,?_⟩
 rcases h with h|⟨b,o,e,_,h⟩
 ·exact Ad h
 ·rcases h1 with h1|⟨b1,o1,e1,hz,_⟩
  ·exact Ad h1
  ·rw[e]at e1
   cases e1
   exact Ae ⟨b,o,e,hz,h⟩
def iS (rs:List Pr) (inner:Bool) (t:Tm) (ps:List (List Int)) (W0:World) (o:Value) (wr:World):Prop:=
 ∃i:Nat,i<=ps.length/\o=.int .i64 (i:Int)/\(ps.take i).any (Eb rs inner t)=false/\Below W0.heap.size W0 wr
def iT (rs:List Pr) (inner:Bool) (l:List Tm) (w7:World) (o q:Value) (wr:World):Prop:=
 ∃k:Nat,1<=k/\k<=l.length/\q=.int .i64 (k:Int)/\o=.bool (Fh rs l k)/\(inner=false->k=1)/\Below w7.heap.size w7 wr
def iU (rs:List Pr) (inner:Bool) (t:Tm) (w:World) (e:Ending) (w':World):Prop:=
 Below w.heap.size w w'/\((DO rs inner t=none/\e=.returned (.tuple #[.slice none 0 0,.bool false]))∨∃p v,DO rs inner t=some p/\p∈Bq t/\e=.returned (.tuple #[v,.bool true])/\PV w' (λb=>w.heap.size<=b) v p)
theorem iV (rs:List Pr) (t:Tm) (inner:Bool) (aa:Option Addr) (ca:Nat) (u:Value) (w:World) (X:Nat->Prop) (hu:QV w X u rs) (hs:Sl w X aa t.args) (b3:rs.length<=40) (aU:∀p∈rs,Ab [p.l]<=1000000) (hz:Ab [t]<=2000):
  Calls Tryz.prog 46 #[u,.agg #[.string t.name,.slice aa t.args.length ca],.bool inner] w λe w'=>iU rs inner t w e w':=by
 have HU:=Aa hu
 have HS:=Aa hs
 obtain⟨au,cu,rfl,b4,_⟩:=hu
 clear hs
 go_enter Tryz.func46,Tryz.ntmps46
 go_wp2_with fail
 refine(Pe t _ _ X ⟨_,_,rfl,HS.out.later ((Af _ _).alloc (Aj _) _)⟩ (by omega)).mono ?_
 rintro e W0 ⟨v7,b5,rfl,ar,ae,hb0⟩
 obtain⟨g7,bo,rfl,bp,aJ,af⟩:=EA ar (by simp[Bq])
 obtain⟨fv,a8⟩:=WK (ca:=ca) HU.out HS.out hb0 (λb hb=>by have h9:=hb.1; simp at h9; omega) ae aJ af
 have hst:=WE a8
 clear a8
 have aV:Hid (∀i (h:i<(Bq t).length),PV W0 (λb=>w.heap.size<=b) (fv i) (Bq t)[i]):=λi h=>by
  obtain⟨u,h1,h2⟩:=ae.get i h
  have h3:=(hst.now.pl i h).1
  rw[af i u h1]at h3
  cases h3
  exact h2.mono λb hb _=>by have:=hb.1; simp at this; omega
 have A0:=Aa hst
 have a6:Hid (Below w.heap.size w W0):=((Af w.heap.size w).alloc (Aj _) _).trans (hb0.mono (by simp))
 have aW:=Aa (λp hp=>OJ p t hp)
 have aX:Hid ((Bq t).length<=2000):=by unfold Hid; rw[L2]; exact hz
 have aI:Hid (DO rs inner t=(Bq t).find? (Eb rs inner t)):=rfl
 have b6:Hid (∀p,p∈Bq t->p∈Bq t):=λ_ h=>h
 have bq:Hid (∀p x,AR t p=some x->Ab [x]<=2000):=λp x h=>AX (iR h) hz
 obtain⟨ps,aA⟩:∃ps,ps=Bq t:=⟨_,rfl⟩
 have aK:=Aa aA
 have aL:Hid (∀i (h:i<ps.length),PV W0 (λb=>w.heap.size<=b) (fv i) ps[i]):=by rw[aA]; exact aV.out
 rw[<-aA]at A0 aW aX aI
 have aB:(Bq t).length=ps.length:=by rw[aA]
 rw[aB]
 clear ar ae hb0 af hst bp HS HU aA aB aV
 go_wp2_with fail
 go_loopw [9] (λo wr=>iS rs inner t ps W0 o wr) (λo wr=>ps.length-(intOf o).toNat)
 case atStart=>exact⟨0,AE _,rfl,by simp,Af _ _⟩
 case round=>
  obtain⟨i,hi,rfl,aC,hb⟩:=hrel
  have ag:=Aa aC
  have HB:=Aa hb
  clear aC hb
  by_cases hlt:i<ps.length
  ·have br:(i:Int)<(ps.length:Int):=by omega
   have aM:i<=2000:=by have:=aX.out; omega
   have az:Hid (AN wr W0.heap.size 29 (λb=>b<W0.heap.size) (.slice none 0 0) [] []):=AN.start _ _ _ _
   have A1:Hid (Dr (Gs (λb=>b<W0.heap.size) rs t ps aa ca w.heap.size g7 fv (.slice au rs.length cu) W0) wr):=A0.out.later HB.out
   obtain⟨x,hx⟩:=aW.out ps[i] (AV hlt)
   have HX:=Aa hx
   have aN:=Aa (WQ (f:=Eb rs inner t) hlt)
   have aY:=Aa (PL (f:=Eb rs inner t) hlt ag.out)
   have aD:Hid (Eb rs inner t ps[i]=Dj rs inner x):=by unfold Hid Eb; rw[hx]
   have aF:Hid (ps[i]∈Bq t):=by rw[<-aK.out]; exact AV hlt
   have aZ:Hid (Ab [x]<=2000):=bq.out _ _ hx
   clear hx
   have a7:Hid (∀w',Gs (λb=>b<W0.heap.size) rs t ps aa ca w.heap.size g7 fv (.slice au rs.length cu) W0 w'->w'.cell? ⟨g7,i,none⟩=some (fv i)/\PV w' (λb=>b<W0.heap.size) (fv i) ps[i]):=λw' h=>h.pl i hlt
   have ba:=Aa (aL.out i hlt)
   generalize ps[i]=pz at *
   go_upto_region 5 with fail
   go_cut [10] (λo wc=>Mr (λb=>b<W0.heap.size) t x W0 (.slice none 0 0) [] o wc)
   case first=>
    have BD:Hid (Below wr.heap.size wr wr.drew):=below_drewN (Af _ _) 1
    have A2:Hid (Dr (Gs (λb=>b<W0.heap.size) rs t ps aa ca w.heap.size g7 fv (.slice au rs.length cu) W0) wr.drew):=A1.out.later BD.out
    refine CU (S:=Gs (λb=>b<W0.heap.size) rs t ps aa ca w.heap.size g7 fv (.slice au rs.length cu) W0) (by kernel_rfl) A2.out.now (λhHeld=>?_)
    refine tkz 0 ?_ (hy:=by intro w' hSw;have c0:w'.cell? ⟨w.heap.size,0,none⟩=some (.string t.name):=hSw.k1.cell 0;have c1:w'.cell? ⟨w.heap.size,1,none⟩=some (.slice aa t.args.length ca):=hSw.k1.cell 1;go_simp<;>with_reducible rfl)
    refine tkz 1 ?_
    refine tkz 2 ?_
    refine tkz 3 ?_
    refine tkz 4 ?_ (hy:=by intro w' hSw;have c0:=(a7.out _ hSw).1;go_simp<;>with_reducible rfl)
    generalize wr.drew=wd at *
    refine DV (rs:=[5,9]) (by kernel_rfl) (by simp) ?_
    refine Cb rfl (λK hK=>?_) (Cb rfl (λK hK=>?_) DW)
    ·go_simp
     go_at_call 27
     refine(Jn HX.out _ _ _ (λb=>b<W0.heap.size) ⟨_,_,rfl,A2.out.now.s1⟩ (a7.out _ A2.out.now).2).mono ?_
     rintro e w5 ⟨a9,c9,rfl,aw,ax⟩
     have A5:=Aa (A2.out.later ax)
     have S9:=Aa aw
     have B5:=Aa (BD.out.trans (ax.mono BD.out.size))
     clear aw ax
     go_simp
     refine hK.out _ _ (by exact A5.out.now) (λhHeld=>?_)
     clear hK K
     try simp only[Act.put,sq]
     refine tkz 6 ?_
     refine tkz 7 ?_
     refine tkz 8 ?_
     refine rdq 9 rfl λK hK=>?_
     go_simp
     refine hK.out _ _ (by exact(A5.out.alloc _).now) (λhHeld=>?_)
     clear hK K
     try simp only[Act.put,sq]
     refine rdq 10 rfl λK hK=>?_
     go_simp
     refine hK.out _ _ (by exact(A5.out.alloc _).now) (λhHeld=>?_)
     clear hK K
     try simp only[Act.put,sq]
     refine tkz 11 ?_
     refine dnq ?_
     go_wp2_with fail
     go_meet
     exact WG az.out HB.out B5.out S9.out
    ·go_simp
     refine hK.out _ _ (by exact(A2.out.alloc _).now) (λhHeld=>?_)
     clear hK K
     try simp only[Act.put,sq]
     have AZ:=Aa (A2.out.alloc (.cells #[.string ⟨#[]⟩,.slice none 0 0] 29))
     have UZ:=Aa (Ac.new wd #[.string ⟨#[]⟩,.slice none 0 0] 29)
     refine rdq 5 rfl λK hK=>?_
     go_simp
     go_at_call 27
     refine(Jn HX.out _ _ _ (λb=>b<W0.heap.size) ⟨_,_,rfl,AZ.out.now.s1⟩ (a7.out _ AZ.out.now).2).mono ?_
     rintro e w5 ⟨a9,c9,rfl,aw,ax⟩
     have A5:=Aa (AZ.out.later ax)
     have S9:=Aa aw
     have U5:=Aa (UZ.out.below ax UZ.out.lt)
     have B5:=Aa (((Af wd.heap.size wd).alloc (Aj _) (.cells #[.string ⟨#[]⟩,.slice none 0 0] 29)).trans (ax.mono (by simp)))
     clear aw ax
     go_simp
     refine hK.out _ _ (by exact A5.out.now) (λhHeld=>?_)
     clear hK K
     try simp only[Act.put,sq]
     refine tkz 6 ?_
     refine tkz 7 ?_
     refine tkz 8 ?_
     have z0:=U5.out.c0
     have z1:=U5.out.c1
     have zf:=U5.out.frozen
     have zl:wd.heap.size<w5.heap.size:=U5.out.lt
     have UP:=Aa (WH (λb (h:b<W0.heap.size)=>h) (t:=t) (c9:=c9) (az.out.below BD.out) (HB.out.trans (BD.out.mono HB.out.size)) B5.out U5.out S9.out)
     refine rdq 10 rfl λK hK=>?_
     go_simp
     refine hK.out _ _ (by exact(A2.out.later UP.out.1).now) (λhHeld=>?_)
     clear hK K
     try simp only[Act.put,sq]
     refine tkz 11 ?_
     refine dnq ?_
     go_wp2_with fail
     go_meet
     exact UP.out.2
   obtain⟨B9,a9,c9,b7,rfl,bb,aw,bs,_,_,aO⟩:=hcut
   have S9:Hid (∀w',Below W0.heap.size W0 w'->Sl w' (λb=>b<W0.heap.size) a9 x.args):=λw' hb=>aw.kept λb h=>(hb.block b h).trans (aO.block b h).symm
   have K9:=Aa bb
   have aG:=Aa aO
   clear bb aw aO bs az A1
   have d0:wc.cell? ⟨B9,0,none⟩=some (.string x.name):=K9.out.cell 0
   have d1:wc.cell? ⟨B9,1,none⟩=some (.slice a9 x.args.length c9):=K9.out.cell 1
   go_wp2_with fail
   refine(PJ rs x a9 c9 _ _ (λb=>b<W0.heap.size) (A0.out _ aG.out).qv (S9.out _ aG.out) aU).mono ?_
   rintro e w6 ⟨rfl,aP⟩
   have K6:=Aa (K9.out.below aP K9.out.lt)
   have B6:=Aa (aG.out.trans (aP.mono aG.out.size))
   clear aP d0 d1 K9 aG
   cases hf:Dw rs x with
   |false=>
    have ao:Hid (Dj rs inner x=false):=by unfold Hid Dj; rw[hf]; rfl
    have BX:=Aa B6.out
    clear hf
    go_wp2_with fail
    go_roundw
    case rel=>exact⟨i+1,by omega,by go_num,by rw[aN.out,ag.out,aD.out,ao.out]; rfl,BX.out⟩
    case measure=>simp[intOf]; omega
   |true=>
    have aq:Hid (Dj rs inner x=(!inner||((Ao [x]).drop 1).all λy=>!Dw rs y)):=by unfold Hid Dj; rw[hf]; rfl
    clear hf
    have d0:w6.cell? ⟨B9,0,none⟩=some (.string x.name):=K6.out.cell 0
    have d1:w6.cell? ⟨B9,1,none⟩=some (.slice a9 x.args.length c9):=K6.out.cell 1
    go_wp2_with fail
    refine(LD x _ _ (λb=>b<W0.heap.size) ⟨_,_,rfl,S9.out _ B6.out⟩ (by have:=aZ.out; omega)).mono ?_
    rintro e w7 ⟨v12,bt,rfl,ah,ai,aQ⟩
    have B7:=Aa (B6.out.trans (aQ.mono B6.out.size))
    obtain⟨g12,bc,rfl,aR,ay,aj⟩:=EA ah (TI x)
    have HC:=Aa aj
    have HR:=Aa (ai.imp λa l h=>h.later aQ)
    have bf:Hid ((Ao [x]).length=Ab [x]):=Gh [x]
    rw[<-bf.out]
    have bu:1<=(Ao [x]).length/\(Ao [x]).length<=2000:=by have h1:=bf.out; have h2:=aZ.out; have h3:=TI x; omega
    clear ah ai aQ aj aR d0 d1
    generalize Ao [x]=kn at *
    go_wp2_with fail
    go_loopw [13,14] (λo q wr=>iT rs inner kn w7 o q wr) (λo q wr=>kn.length-(intOf q).toNat)
    case atStart=>exact⟨1,by omega,bu.1,rfl,by rw[Ms],λ_=>rfl,Af _ _⟩
    case round=>
     obtain⟨k,bw,hk,rfl,rfl,bg,hb⟩:=hrel
     have aH:=Aa hb
     have bh:=Aa bg
     have BX:=Aa (B7.out.trans (hb.mono B7.out.size))
     clear hb bg
     have q0:=(a7.out _ (A0.out _ BX.out)).1
     by_cases bj:k<kn.length
     ·have aS:(k:Int)<(kn.length:Int):=by omega
      cases inner with
      |false=>
       have aT:=bh.out rfl
       subst aT
       have ao:Hid (Dj rs false x=true):=by unfold Hid; rw[aq.out]; rfl
       rw[Ms]
       go_wp2_with fail
       refine Ap (v:=.tuple #[fv i,.bool true]) (by simp[results,Tryz.results46,go_sem]) rfl ?_
       exact⟨a6.out.trans (BX.out.mono a6.out.size),Ae ⟨pz,fv i,by rw[aI.out]; exact aY.out (by rw[aD.out]; exact ao.out),aF.out,rfl,(a7.out _ (A0.out _ BX.out)).2.same ba.out rfl⟩⟩
      |true=>
       cases ak:Fh rs kn k with
       |false=>
        have ao:Hid (Dj rs true x=false):=by unfold Hid; rw[aq.out,WT ak]; rfl
        clear ak
        go_wp2_with fail
        go_roundw
        case rel=>exact⟨i+1,by omega,by go_num,by rw[aN.out,ag.out,aD.out,ao.out]; rfl,BX.out⟩
        case measure=>simp[intOf]; omega
       |true=>
        obtain⟨e0,av,cv,e1,bk⟩:=HR.out.get k bj
        have f0:wr.cell? ⟨g12,k*2,none⟩=some (.string kn[k].name):=(aH.out.cell (p:=⟨g12,k*2,none⟩) ay).trans (HC.out _ _ e0)
        have f1:wr.cell? ⟨g12,k*2+1,none⟩=some (.slice av kn[k].args.length cv):=(aH.out.cell (p:=⟨g12,k*2+1,none⟩) ay).trans (HC.out _ _ e1)
        have SV:=Aa (bk.later aH.out)
        have bl:=Aa (WR (rs:=rs) bw bj)
        clear e0 e1 bk
        generalize kn[k]=y at *
        rw[ak]at bl
        clear ak
        go_wp2_with fail
        refine(PJ rs y av cv _ _ (λb=>b<W0.heap.size) (A0.out _ BX.out).qv SV.out aU).mono ?_
        rintro e w8 ⟨rfl,bm⟩
        have B8:=Aa (aH.out.trans (bm.mono aH.out.size))
        clear bm q0 f0 f1
        go_wp2_with fail
        go_roundw
        case rel=>exact⟨k+1,by omega,by omega,by go_num,by rw[bl.out]; simp,(λh=>by cases h),B8.out⟩
        case measure=>simp[intOf]; omega
     ·have bx:k=kn.length:=by omega
      have aS:¬(k:Int)<(kn.length:Int):=by omega
      have bn:Hid (Fh rs kn k=(kn.drop 1).all λy=>!Dw rs y):=by unfold Hid Fh; rw[bx,EO]
      cases ak:Fh rs kn k with
      |true=>
       have ao:Hid (Dj rs inner x=true):=by unfold Hid; rw[aq.out,<-bn.out,ak]; simp
       clear ak
       go_wp2_with fail
       refine Ap (v:=.tuple #[fv i,.bool true]) (by simp[results,Tryz.results46,go_sem]) rfl ?_
       exact⟨a6.out.trans (BX.out.mono a6.out.size),Ae ⟨pz,fv i,by rw[aI.out]; exact aY.out (by rw[aD.out]; exact ao.out),aF.out,rfl,(a7.out _ (A0.out _ BX.out)).2.same ba.out rfl⟩⟩
      |false=>
       have ao:Hid (Dj rs inner x=false):=by
        unfold Hid
        rw[aq.out,<-bn.out,ak]
        cases inner with
        |true=>rfl
        |false=>
         have h1:=bh.out rfl
         rw[h1,Ms]at ak
         cases ak
       clear ak
       go_wp2_with fail
       go_roundw
       case rel=>exact⟨i+1,by omega,by go_num,by rw[aN.out,ag.out,aD.out,ao.out]; rfl,BX.out⟩
       case measure=>simp[intOf]; omega
  ·go_wp2_with fail
   refine Ap (v:=.tuple #[.slice none 0 0,.bool false]) (by simp[results,Tryz.results46,go_sem]) rfl ?_
   have bz:ps.take i=ps:=AW (by omega)
   have ha:=ag.out
   rw[bz]at ha
   exact⟨a6.out.trans (HB.out.mono a6.out.size),Ad ⟨by rw[aI.out]; exact PK ha,rfl⟩⟩
def Ns (p:Pr) (x:Tm) (Y:Nat->Prop) (wr:World) (o k f:Value) (wc:World):Prop:=
 ∃(U:Nat) (y:Tm) (a:Option Addr) (c:Nat) (ok full:Bool),o=.pointer (some ⟨U,0,none⟩)/\k=.bool ok/\f=.bool full/\wr.heap.size<=U/\Ac wc U #[.string y.name,.slice a y.args.length c] 29/\Sl wc (λb=>(Y b∨wr.heap.size<=b)/\b≠U) a y.args/\Below wr.heap.size wr wc/\
  ((C8 p x=none/\ok=false/\full=false)∨∃z,C8 p x=some z/\ok=true/\(full=true↔2000<Ab [z])/\(full=false->y=z))
theorem iW {p:Pr} {x y:Tm} {Y:Nat->Prop} {wr wd w1:World} {a:Option Addr} {c:Nat} {ok full:Bool} (hd:Below wr.heap.size wr wd) (hb:Below wd.heap.size wd w1) (hs:Sl w1 (λb=>((Y b/\b<wr.heap.size)/\b<wd.heap.size)∨wd.heap.size<=b) a y.args) (hc:(C8 p x=none/\ok=false/\full=false)∨∃z,C8 p x=some z/\ok=true/\(full=true↔2000<Ab [z])/\(full=false->y=z)):
  Ns p x Y wr (.pointer (some ⟨w1.heap.size,0,none⟩)) (.bool ok) (.bool full) (w1.alloc (.cells #[.string y.name,.slice a y.args.length c] 29)):=by
 have h1:=hd.size
 have h2:=hb.size
 refine⟨w1.heap.size,y,a,c,ok,full,rfl,rfl,rfl,by omega,Ac.new w1 _ _,(hs.mono λb h hlt=>⟨?_,by omega⟩).later ((Af _ _).alloc (Aj _) _),(hd.trans (hb.mono hd.size)).alloc (by omega) _,hc⟩
 rcases h with h|h
 ·exact Ad h.1.1
 ·exact Ae (by omega)
theorem iX {p:Pr} {x y:Tm} {Y:Nat->Prop} {wr wd wz w1:World} {a:Option Addr} {c:Nat} {ok full:Bool} (hd:Below wr.heap.size wr wd) (aa:wz.heap.size=wd.heap.size+1) (hb:Below wz.heap.size wz w1) (hbr:Below wr.heap.size wr w1) (hu:Ac w1 wd.heap.size #[.string ⟨#[]⟩,.slice none 0 0] 29) (hs:Sl w1 (λb=>((Y b/\b<wr.heap.size)/\b<wz.heap.size)∨wz.heap.size<=b) a y.args) (hc:(C8 p x=none/\ok=false/\full=false)∨∃z,C8 p x=some z/\ok=true/\(full=true↔2000<Ab [z])/\(full=false->y=z)):
  Below wr.heap.size wr ((w1.setCell ⟨wd.heap.size,0,none⟩ (.string y.name)).setCell ⟨wd.heap.size,1,none⟩ (.slice a y.args.length c))/\Ns p x Y wr (.pointer (some ⟨wd.heap.size,0,none⟩)) (.bool ok) (.bool full) ((w1.setCell ⟨wd.heap.size,0,none⟩ (.string y.name)).setCell ⟨wd.heap.size,1,none⟩ (.slice a y.args.length c)):=by
 have h1:=hd.size
 have hb2:Below wr.heap.size wr ((w1.setCell ⟨wd.heap.size,0,none⟩ (.string y.name)).setCell ⟨wd.heap.size,1,none⟩ (.slice a y.args.length c)):=(hbr.setCell (by simp; omega) _).setCell (by simp; omega) _
 refine⟨hb2,wd.heap.size,y,a,c,ok,full,rfl,rfl,rfl,h1,(hu.set 0 _).set 1 _,?_,hb2,hc⟩
 refine(hs.kept λb hb=>?_).mono λb h hlt=>⟨?_,?_⟩
 ·have hne:b≠wd.heap.size:=by rcases hb with h|h<;>omega
  rw[Aq _ _ _ _ (by simpa using hne),Aq _ _ _ _ (by simpa using hne)]
 ·rcases h with h|h
  ·exact Ad h.1.1
  ·exact Ae (by omega)
 ·rcases h with h|h<;>omega
def iY (r:Int×Tm×Nat) (w:World) (X:Nat->Prop) (e:Ending) (w':World):Prop:=
 Below w.heap.size w w'/\∃(x:Tm) (a:Option Addr) (c n:Nat) (er:Int),e=.returned (.tuple #[.agg #[.string x.name,.slice a x.args.length c],.int .i64 (n:Int),.int .i64 er])/\r=(er,x,n)/\Sl w' (λb=>(X b/\b<w.heap.size)∨w.heap.size<=b) a x.args
def iZ (rs:List Pr) (inner:Bool) (m:Nat) (t:Tm) (Y:Nat->Prop) (w:World) (i:Value) (wr:World):Prop:=
 ∃(j:Nat) (tc:Tm) (a:Option Addr) (c:Nat),j<=m/\i=.int .i64 (j:Int)/\BL rs inner m t=D3 j (BL rs inner (m-j) tc)/\Ab [tc]<=2000/\Ac wr w.heap.size #[.string tc.name,.slice a tc.args.length c] 29/\Sl wr Y a tc.args/\Ac wr (w.heap.size+1) #[.string ⟨#[]⟩,.slice none 0 0] 29/\Below w.heap.size w wr/\w.heap.size+2<=wr.heap.size
def jA (rs:List Pr) (tc x:Tm) (a a9:Option Addr) (c c9 B:Nat) (w wB:World) (i:Value) (wr:World):Prop:=
 ∃k:Nat,k<=rs.length/\i=.int .i64 (k:Int)/\Df (rs.take k) x=none/\Ac wr B #[.string x.name,.slice a9 x.args.length c9] 29/\Ac wr w.heap.size #[.string tc.name,.slice a tc.args.length c] 29/\Ac wr (w.heap.size+1) #[.string ⟨#[]⟩,.slice none 0 0] 29/\Below wB.heap.size wB wr
theorem jB {rs:List Pr} {x:Tm} {k:Nat} (h:k<rs.length) (h0:Df (rs.take k) x=none):Df (rs.take (k+1)) x=C8 rs[k] x/\(∀z,C8 rs[k] x=some z->Df rs x=some z):=by
 have e1:Df (rs.take (k+1)) x=C8 rs[k] x:=by
  unfold Df at *
  rw[Bm h,List.findSome?_append,h0]
  simp
 refine⟨e1,λz hz=>?_⟩
 have e2:Df rs x=((rs.take (k+1)).findSome? λr=>C8 r x).or ((rs.drop (k+1)).findSome? λr=>C8 r x):=by
  unfold Df
  rw[<-List.findSome?_append,Eu]
 have e3:((rs.take (k+1)).findSome? λr=>C8 r x)=some z:=e1.trans hz
 rw[e2,e3]
 rfl
theorem TJ (rs:List Pr) (t:Tm) (inner:Bool) (m:Nat) (u:Value) (a0:Option Addr) (c0:Nat) (w:World) (X0:Nat->Prop) (aS:QV w X0 u rs) (hs0:Sl w X0 a0 t.args) (bw:rs.length<=40) (aT:∀p∈rs,Ab [p.l]<=1000000/\Ab [p.r]<=1000000) (hz:Ab [t]<=2000) (hm:m<=400):
  Calls Tryz.prog 32 #[u,.agg #[.string t.name,.slice a0 t.args.length c0],.int .i64 (m:Int),.bool inner] w λe w'=>iY (BL rs inner m t) w X0 e w':=by
 obtain⟨X,aU,aF,hu,hs⟩:∃X:Nat->Prop,(∀b,X b->X0 b)/\(∀b,X b->b<w.heap.size)/\QV w X u rs/\Sl w X a0 t.args:=⟨λb=>X0 b/\b<w.heap.size,λ_ h=>h.1,λ_ h=>h.2,aS.mono λb h1 h2=>⟨h1,h2⟩,hs0.mono λb h1 h2=>⟨h1,h2⟩⟩
 obtain⟨Y,hY⟩:∃Y:Nat->Prop,Y=λb=>X b∨w.heap.size+2<=b:=⟨_,rfl⟩
 have aV:Hid (∀b,X b->Y b):=λb hb=>by rw[hY]; exact Ad hb
 have aG:Hid (∀b,w.heap.size+2<=b->Y b):=λb hb=>by rw[hY]; exact Ae hb
 have aW:Hid (∀b,Y b->b≠w.heap.size/\b≠w.heap.size+1):=λb hb=>by
  rw[hY]at hb
  rcases hb with h|h
  ·have:=aF b h; omega
  ·omega
 have bx:Hid (∀b,Y b->(X0 b/\b<w.heap.size)∨w.heap.size<=b):=λb hb=>by
  rw[hY]at hb
  rcases hb with h|h
  ·exact Ad ⟨aU b h,aF b h⟩
  ·exact Ae (by omega)
 have HU:=Aa (hu.mono (Y:=Y) λb h _=>aV.out b h)
 have HS:=Aa (hs.mono (Y:=Y) λb h _=>aV.out b h)
 have ak:=Aa aT
 obtain⟨ua,uc,rfl,_,_⟩:=hu
 clear aU aF hs aS hs0 aT hY
 have ao:=Aa (Gv [(.cells #[.string t.name,.slice a0 t.args.length c0] 29:Obj),(.cells #[.string ⟨#[]⟩,.slice none 0 0] 29:Obj)] w)
 have HW:Hid (∃W,W=(w.alloc (.cells #[.string t.name,.slice a0 t.args.length c0] 29)).alloc (.cells #[.string ⟨#[]⟩,.slice none 0 0] 29)/\Below w.heap.size w W/\W.heap.size=w.heap.size+2/\Ac W w.heap.size #[.string t.name,.slice a0 t.args.length c0] 29/\Ac W (w.heap.size+1) #[.string ⟨#[]⟩,.slice none 0 0] 29):=⟨_,rfl,ao.out.1,ao.out.2.1,ao.out.2.2 0 _ rfl,ao.out.2.2 1 _ rfl⟩
 go_enter Tryz.func32,Tryz.ntmps32
 go_wp2_with fail
 obtain⟨w0,hw0,hb0,hz0,aX,aY⟩:=HW.out
 rw[<-hw0]
 have aZ:=Aa hb0
 have bz:=Aa aX
 have b3:=Aa aY
 have b4:=Aa hz0
 clear hw0 HW hb0 hz0 aX aY ao
 go_loopw [11] (λi wr=>iZ rs inner m t Y w i wr) (λi wr=>m-(intOf i).toNat)
 case atStart=>
  exact⟨0,t,a0,c0,AE _,rfl,by rw[Nat.sub_zero]; exact(Mx (Kn _ _ _ _)).symm,hz,bz.out,HS.out.later aZ.out,b3.out,aZ.out,by have:=b4.out; omega⟩
 case round=>
  obtain⟨j,tc,a,c,hj,rfl,heq,b5,hT,ba,aq,bb,b6⟩:=hrel
  have ar:=Aa heq
  have bc:=Aa b5
  have aH:=Aa hT
  have aI:=Aa ba
  have aJ:=Aa aq
  have aC:=Aa bb
  have t0:=hT.c0
  have t1:=hT.c1
  clear heq ba aq hT bb
  go_wp2_with fail
  refine(iV rs tc inner a c _ wr Y (HU.out.later aC.out) aI.out bw (λp hp=>(ak.out p hp).1) (by have:=bc.out; omega)).mono ?_
  rintro e w1 ⟨hb1,b7⟩
  have B1:=Aa (aC.out.trans (hb1.mono aC.out.size))
  have T1:=Aa (aH.out.below hb1 aH.out.lt)
  have R1:=Aa (aJ.out.below hb1 aJ.out.lt)
  have S1:=Aa (aI.out.later hb1)
  have hz1:wr.heap.size<=w1.heap.size:=hb1.size
  clear hb1 t0 t1 aH aJ aI aC
  rcases b7 with ⟨hn,rfl⟩|⟨p,v,hp,b8,rfl,bf⟩
  ·have af:Hid (BL rs inner m t=(0,tc,j)):=by
    unfold Hid
    rw[ar.out,Mu (by rw[MB,<-Ko rs inner]; exact hn)]
    simp[D3]
   have t0:=T1.out.c0
   have t1:=T1.out.c1
   have r0:=R1.out.c0
   have r1:=R1.out.c1
   have rf:=R1.out.frozen
   clear hn
   go_wp2_with fail
   refine Ap (v:=.tuple #[.agg #[.string tc.name,.slice a tc.args.length c],.int .i64 (j:Int),.int .i64 0]) (by simp[results,Tryz.results32,go_sem,AU,AG,r0,r1]) rfl ?_
   refine⟨(B1.out.setCell (by simp) _).setCell (by simp) _,tc,a,c,j,0,rfl,af.out,(S1.out.kept λb hb=>?_).mono λb hb _=>bx.out b hb⟩
   have:=(aW.out b hb).2
   rw[Aq _ _ _ _ (by simpa using this),Aq _ _ _ _ (by simpa using this)]
  ·obtain⟨x,z,hx,hf,bg⟩:=MA hp
   have HX:=Aa hx
   have HF:=Aa hf
   have au:=Aa bg
   have aK:=Aa (bf.mono (Y:=Y) λb hb _=>aG.out b (by omega))
   obtain⟨va,vc,rfl,_,_⟩:=bf
   clear hp b8 hx hf bg
   by_cases aL:j=m
   ·have b9:(j:Int)=(m:Int):=by omega
    have af:Hid (BL rs inner m t=(9,⟨⟨#[]⟩,[]⟩,0)):=by
     unfold Hid
     rw[ar.out,aL,Nat.sub_self,Mv au.out]
     exact Iy _ _ (by decide)
    clear aL
    have r0:=R1.out.c0
    have r1:=R1.out.c1
    have rf:=R1.out.frozen
    go_wp2_with fail
    refine Ap (v:=.tuple #[.agg #[.string ⟨#[]⟩,.slice none 0 0],.int .i64 0,.int .i64 9]) (by simp[results,Tryz.results32,go_sem,AU,AG,r0,r1]) rfl ?_
    exact⟨(B1.out.setCell (by simp) _).setCell (by simp) _,⟨⟨#[]⟩,[]⟩,none,0,0,9,rfl,af.out,⟨by simp,Ad rfl⟩⟩
   ·have b9:¬((j:Int)=(m:Int)):=by omega
    have bN:j<m:=by omega
    clear aL
    have t0:=T1.out.c0
    have t1:=T1.out.c1
    go_wp2_with fail
    refine(Jn HX.out _ _ w1 Y ⟨a,c,rfl,S1.out⟩ aK.out).mono ?_
    rintro e w2 ⟨a9,c9,rfl,bh,hb2⟩
    have bj:Hid (Below w2.heap.size w2 (w2.alloc (.cells #[.string x.name,.slice a9 x.args.length c9] 29))):=(Af _ _).alloc (Aj _) _
    have ag:=Aa (hb2.alloc hb2.size (.cells #[.string x.name,.slice a9 x.args.length c9] 29))
    have bA:Hid (Ac (w2.alloc (.cells #[.string x.name,.slice a9 x.args.length c9] 29)) w2.heap.size #[.string x.name,.slice a9 x.args.length c9] 29):=Ac.new w2 _ _
    have bB:=Aa (bh.later bj.out)
    clear bh hb2 t0 t1 bj
    go_wp2_with fail
    have TB:=Aa (T1.out.below ag.out T1.out.lt)
    have RB:=Aa (R1.out.below ag.out R1.out.lt)
    have SB:=Aa (S1.out.later ag.out)
    have PB:=Aa (aK.out.later ag.out)
    have BB:=Aa (B1.out.trans (ag.out.mono B1.out.size))
    have bO:w.heap.size+2<=(w2.alloc (.cells #[.string x.name,.slice a9 x.args.length c9] 29)).heap.size:=by have:=ag.out.size; omega
    clear T1 R1 S1 aK B1 ag
    generalize w2.heap.size=B at *
    generalize (w2.alloc (.cells #[.string x.name,.slice a9 x.args.length c9] 29))=wB at *
    have bC:Hid True:=trivial
    clear b6 hz1
    go_loopw [16] (λi wr=>jA rs tc x a a9 c c9 B w wB i wr) (λi wr=>rs.length-(intOf i).toNat)
    case atStart=>exact⟨0,AE _,rfl,by simp[Df],bA.out,TB.out,RB.out,Af _ _⟩
    case round=>
     obtain⟨k,hk,rfl,hfn,bk,bl,aq,av⟩:=hrel
     have bm:=Aa hfn
     have XB:=Aa bk
     have bn:=Aa bl
     have bo:=Aa aq
     have bp:=Aa av
     have bD:=av.size
     clear hfn bk bl aq
     by_cases hlt:k<rs.length
     ·obtain⟨bq,oq,a1,c1,a2,c2,e1,d0,d1,d2,d3,hs1,hs2⟩:=((HU.out.later BB.out).later av).get k hlt
      subst e1
      have bE:(k:Int)<(rs.length:Int):=by omega
      have D:=Aa (And.intro d0 (And.intro d1 (And.intro d2 d3)))
      have Q1:=Aa (hs1.mono (Y:=λb=>Y b/\b<wr.heap.size) λb h1 h2=>⟨h1,h2⟩)
      have Q2:=Aa (hs2.mono (Y:=λb=>Y b/\b<wr.heap.size) λb h1 h2=>⟨h1,h2⟩)
      have SX:=Aa ((bB.out.later av).mono (Y:=λb=>Y b/\b<wr.heap.size) λb h1 h2=>⟨h1,h2⟩)
      have br:=Aa (jB (x:=x) hlt bm.out)
      have aD:=Aa (ak.out _ (AV hlt))
      clear hs1 hs2 d0 d1 d2 d3 av
      generalize rs[k]=r at *
      go_upto_region 12 with fail
      go_cut [17,18,19] (λo q f wc=>Ns r x Y wr o q f wc)
      case first=>
       have BD:Hid (Below wr.heap.size wr wr.drew):=below_drewN (Af _ _) 1
       refine CU (S:=λw'=>Below wr.heap.size wr w') (by kernel_rfl) BD.out (λhHeld=>?_)
       refine tkz 0 ?_
       refine tkz 1 ?_
       refine tkz 2 ?_
       refine tkz 3 ?_ (hy:=by intro w' hSw;have c0:=cell_later hSw D.out.1;have c1:=cell_later hSw D.out.2.1;have c2:=cell_later hSw D.out.2.2.1;have c3:=cell_later hSw D.out.2.2.2;go_simp<;>with_reducible rfl)
       refine tkz 4 ?_ (hy:=by intro w' hSw;have c0:w'.cell? ⟨B,0,none⟩=some (.string x.name):=(XB.out.below hSw XB.out.lt).cell 0;have c1:w'.cell? ⟨B,1,none⟩=some (.slice a9 x.args.length c9):=(XB.out.below hSw XB.out.lt).cell 1;go_simp<;>with_reducible rfl)
       generalize wr.drew=wd at *
       refine DV (rs:=[5,10]) (by kernel_rfl) (by simp) ?_
       refine Cb rfl (λK hK=>?_) (Cb rfl (λK hK=>?_) DW)
       ·go_simp
        go_at_call 47
        refine(PH r x a1 a2 a9 c1 c2 c9 wd (λb=>Y b/\b<wr.heap.size) (Q1.out.later BD.out) (Q2.out.later BD.out) (SX.out.later BD.out) aD.out.1 aD.out.2).mono ?_
        rintro e w5 ⟨y,ay,cy,ok,full,rfl,aw,ae,ax⟩
        have aM:=Aa aw
        have aN:=Aa ax
        have B5:=Aa (BD.out.trans (ae.mono BD.out.size))
        have aO:=Aa ae
        clear aw ax ae
        go_simp
        refine hK.out _ _ (by exact B5.out) (λhHeld=>?_)
        clear hK K
        try simp only[Act.put,sq]
        refine tkz 6 ?_
        refine tkz 7 ?_
        refine tkz 8 ?_
        refine tkz 9 ?_
        refine rdq 10 rfl λK hK=>?_
        go_simp
        refine hK.out _ _ (by exact B5.out.alloc B5.out.size _) (λhHeld=>?_)
        clear hK K
        try simp only[Act.put,sq]
        refine rdq 11 rfl λK hK=>?_
        go_simp
        refine hK.out _ _ (by exact B5.out.alloc B5.out.size _) (λhHeld=>?_)
        clear hK K
        try simp only[Act.put,sq]
        refine tkz 12 ?_
        refine tkz 13 ?_
        refine dnq ?_
        go_wp2_with fail
        go_meet
        exact iW BD.out aO.out aM.out aN.out
       ·go_simp
        refine hK.out _ _ (by exact BD.out.alloc BD.out.size _) (λhHeld=>?_)
        clear hK K
        try simp only[Act.put,sq]
        have BZ:Hid (Below wd.heap.size wd (wd.alloc (.cells #[.string ⟨#[]⟩,.slice none 0 0] 29))):=(Af _ _).alloc (Aj _) _
        have UZ:=Aa (Ac.new wd #[.string ⟨#[]⟩,.slice none 0 0] 29)
        have az:=Aa (BD.out.trans (BZ.out.mono BD.out.size))
        have za:Hid ((wd.alloc (.cells #[.string ⟨#[]⟩,.slice none 0 0] 29)).heap.size=wd.heap.size+1):=by simp[Hid]
        generalize (wd.alloc (.cells #[.string ⟨#[]⟩,.slice none 0 0] 29))=wz at *
        refine rdq 5 rfl λK hK=>?_
        go_simp
        go_at_call 47
        refine(PH r x a1 a2 a9 c1 c2 c9 wz (λb=>Y b/\b<wr.heap.size) (Q1.out.later az.out) (Q2.out.later az.out) (SX.out.later az.out) aD.out.1 aD.out.2).mono ?_
        rintro e w5 ⟨y,ay,cy,ok,full,rfl,aw,ae,ax⟩
        have aM:=Aa aw
        have aN:=Aa ax
        have B5:=Aa (az.out.trans (ae.mono az.out.size))
        have aO:=Aa ae
        have U5:=Aa (UZ.out.below ae UZ.out.lt)
        clear aw ax ae
        go_simp
        refine hK.out _ _ (by exact B5.out) (λhHeld=>?_)
        clear hK K
        try simp only[Act.put,sq]
        refine tkz 6 ?_
        refine tkz 7 ?_
        refine tkz 8 ?_
        refine tkz 9 ?_
        have z0:=U5.out.c0
        have z1:=U5.out.c1
        have zf:=U5.out.frozen
        have zl:wd.heap.size<w5.heap.size:=U5.out.lt
        have UP:=Aa (iX (c:=cy) BD.out za.out aO.out B5.out U5.out aM.out aN.out)
        refine rdq 11 rfl λK hK=>?_
        go_simp
        refine hK.out _ _ (by exact UP.out.1) (λhHeld=>?_)
        clear hK K
        try simp only[Act.put,sq]
        refine tkz 12 ?_
        refine tkz 13 ?_
        refine dnq ?_
        go_wp2_with fail
        go_meet
        exact UP.out.2
      obtain⟨U,y,ay,cy,ok,full,rfl,rfl,rfl,hU,bs,bt,ah,bF⟩:=hcut
      have KU:=Aa bs
      have SU:Hid (Sl wc (λb=>Y b/\b≠U) ay y.args):=bt.mono λb hb _=>⟨by
       rcases hb.1 with h|h
       ·exact h
       ·exact aG.out b (by omega),hb.2⟩
      have BU:=Aa (bp.out.trans (ah.mono bp.out.size))
      have bG:=Aa (XB.out.below ah XB.out.lt)
      have a7:=Aa (bn.out.below ah bn.out.lt)
      have ai:=Aa (bo.out.below ah bo.out.lt)
      have bH:=ah.size
      clear bs bt ah
      rcases bF with ⟨a8,rfl,rfl⟩|⟨z2,a8,rfl,aa,aP⟩
      ·have bI:Hid (Df (rs.take (k+1)) x=none):=br.out.1.trans a8
       clear a8
       go_wp2_with fail
       go_roundw
       case rel=>exact⟨k+1,by omega,by go_num,bI.out,bG.out,a7.out,ai.out,BU.out⟩
       case measure=>simp[intOf]; omega
      ·have bJ:z=z2:=by
        have h1:=br.out.2 z2 a8
        rw[HF.out]at h1
        exact Hf h1
       subst bJ
       clear a8
       have BW:=Aa (BB.out.trans (BU.out.mono BB.out.size))
       cases full with
       |true=>
        have HG:Hid (2000<Ab [AL z p tc]):=Do (aa.1 rfl) (PI z p tc x HX.out)
        have af:Hid (BL rs inner m t=(8,⟨⟨#[]⟩,[]⟩,0)):=by
         unfold Hid
         have e1:m-j=(m-(j+1))+1:=by omega
         rw[ar.out,e1,Km au.out HG.out]
         exact Iy _ _ (by decide)
        clear aa aP
        have r0:=ai.out.c0
        have r1:=ai.out.c1
        have rf:=ai.out.frozen
        go_wp2_with fail
        refine Ap (v:=.tuple #[.agg #[.string ⟨#[]⟩,.slice none 0 0],.int .i64 0,.int .i64 8]) (by simp[results,Tryz.results32,go_sem,AU,AG,r0,r1]) rfl ?_
        exact⟨(BW.out.setCell (by simp) _).setCell (by simp) _,⟨⟨#[]⟩,[]⟩,none,0,0,8,rfl,af.out,⟨by simp,Ad rfl⟩⟩
       |false=>
        have aQ:=aP rfl
        subst aQ
        clear aa aP
        have t0:=a7.out.c0
        have t1:=a7.out.c1
        have u0:=KU.out.c0
        have u1:wc.cell? ⟨U,1,none⟩=some (.slice ay y.args.length cy):=KU.out.cell 1
        go_wp2_with fail
        refine(Mp y p tc _ _ _ wc Y ⟨a,c,rfl,SB.out.later BU.out⟩ (PB.out.later BU.out) ⟨ay,cy,rfl,SU.out.mono λb hb _=>hb.1⟩ (by have:=bc.out; omega)).mono ?_
        rintro e w6 ⟨v6,rfl,⟨a6,c6,rfl,bu⟩,aA⟩
        have S6:Hid (Sl w6 Y a6 (AL y p tc).args):=bu.mono λb hb _=>by
         rcases hb with h|h
         ·exact h
         ·exact aG.out b (by omega)
        have T6:=Aa (a7.out.below aA a7.out.lt)
        have R6:=Aa (ai.out.below aA ai.out.lt)
        have B6:=Aa (BW.out.trans (aA.mono BW.out.size))
        have bP:=aA.size
        clear bu aA t0 t1 u0 u1
        obtain⟨tn,aR⟩:∃tn,tn=AL y p tc:=⟨_,rfl⟩
        rw[<-aR]at S6 au
        rw[<-aR]
        clear aR
        have t0:=T6.out.c0
        have t1:=T6.out.c1
        have tf:=T6.out.frozen
        have tl:=T6.out.lt
        have TF:Hid (Ac ((w6.setCell ⟨w.heap.size,0,none⟩ (.string tn.name)).setCell ⟨w.heap.size,1,none⟩ (.slice a6 tn.args.length c6)) w.heap.size #[.string tn.name,.slice a6 tn.args.length c6] 29):=(T6.out.set 0 _).set 1 _
        have RF:Hid (Ac ((w6.setCell ⟨w.heap.size,0,none⟩ (.string tn.name)).setCell ⟨w.heap.size,1,none⟩ (.slice a6 tn.args.length c6)) (w.heap.size+1) #[.string ⟨#[]⟩,.slice none 0 0] 29):=(R6.out.setOther _ _ (by omega)).setOther _ _ (by omega)
        have SF:Hid (Sl ((w6.setCell ⟨w.heap.size,0,none⟩ (.string tn.name)).setCell ⟨w.heap.size,1,none⟩ (.slice a6 tn.args.length c6)) Y a6 tn.args):=S6.out.kept λb hb=>by
         have:=(aW.out b hb).1
         rw[Aq _ _ _ _ (by simpa using this),Aq _ _ _ _ (by simpa using this)]
        have BF:Hid (Below w.heap.size w ((w6.setCell ⟨w.heap.size,0,none⟩ (.string tn.name)).setCell ⟨w.heap.size,1,none⟩ (.slice a6 tn.args.length c6))):=(B6.out.setCell (by simp) _).setCell (by simp) _
        have ZF:Hid (((w6.setCell ⟨w.heap.size,0,none⟩ (.string tn.name)).setCell ⟨w.heap.size,1,none⟩ (.slice a6 tn.args.length c6)).heap.size=w6.heap.size):=by simp[Hid,World.setCell]
        go_wp2_with fail
        generalize ((w6.setCell ⟨w.heap.size,0,none⟩ (.string tn.name)).setCell ⟨w.heap.size,1,none⟩ (.slice a6 tn.args.length c6))=wf at *
        clear t0 t1 tf tl
        refine(Ie tn _ 2000 wf Y ⟨a6,c6,rfl,SF.out⟩ (by decide) (by decide)).mono ?_
        rintro e w7 ⟨rfl,aj⟩
        have T7:=Aa (TF.out.below aj TF.out.lt)
        have R7:=Aa (RF.out.below aj RF.out.lt)
        have S7:=Aa (SF.out.later aj)
        have B7:=Aa (BF.out.trans (aj.mono BF.out.size))
        have bK:w.heap.size+2<=w7.heap.size:=by have:=aj.size; have:=ZF.out; omega
        clear aj TF RF SF BF
        by_cases hg:2000<Ab [tn]
        ·have aB:min (Ab [tn]:Int) (2000+1)=2001:=by omega
         rw[aB]
         have af:Hid (BL rs inner m t=(8,⟨⟨#[]⟩,[]⟩,0)):=by
          unfold Hid
          have e1:m-j=(m-(j+1))+1:=by omega
          rw[ar.out,e1,Km au.out hg]
          exact Iy _ _ (by decide)
         clear hg aB
         have r0:=R7.out.c0
         have r1:=R7.out.c1
         have rf:=R7.out.frozen
         go_wp2_with fail
         refine Ap (v:=.tuple #[.agg #[.string ⟨#[]⟩,.slice none 0 0],.int .i64 0,.int .i64 8]) (by simp[results,Tryz.results32,go_sem,AU,AG,r0,r1]) rfl ?_
         exact⟨(B7.out.setCell (by simp) _).setCell (by simp) _,⟨⟨#[]⟩,[]⟩,none,0,0,8,rfl,af.out,⟨by simp,Ad rfl⟩⟩
        ·have aB:min (Ab [tn]:Int) (2000+1)=(Ab [tn]:Int):=by omega
         rw[aB]
         have hle:¬(2000:Int)<(Ab [tn]:Int):=by omega
         have HG:Hid (Ab [tn]<=2000):=by unfold Hid; omega
         have bL:Hid (BL rs inner m t=D3 (j+1) (BL rs inner (m-(j+1)) tn)):=by
          unfold Hid
          have e1:m-j=(m-(j+1))+1:=by omega
          rw[ar.out,e1,Mw au.out HG.out,My,Nat.add_comm 1 j]
         clear hg aB
         go_wp2_with fail
         go_roundw
         case rel=>exact⟨j+1,tn,a6,c6,by omega,by go_num,bL.out,HG.out,T7.out,S7.out,R7.out,B7.out,bK⟩
         case measure=>simp[intOf]; omega
     ·have bM:rs.take k=rs:=AW (by omega)
      have h1:=bm.out
      rw[bM,HF.out]at h1
      cases h1
theorem jC (rs:List Pr) (t t2:Tm) (m:Nat) (u:Value) (a a2:Option Addr) (c c2:Nat) (w:World) (X:Nat->Prop) (hu:QV w X u rs) (hs:Sl w X a t.args) (hs2:Sl w X a2 t2.args) (au:rs.length<=40) (av:∀p∈rs,Ab [p.l]<=1000000/\Ab [p.r]<=1000000) (hz:Ab [t]<=2000) (hz2:Ab [t2]<=2000) (hm:m<=400):
  Calls Tryz.prog 18 #[u,.agg #[.string t.name,.slice a t.args.length c],.agg #[.string t2.name,.slice a2 t2.args.length c2],.int .i64 (m:Int)] w λe w'=>e=.returned (.tuple #[.bool (DD rs m t t2).1,.int .i64 (DD rs m t t2).2])/\Below w.heap.size w w':=by
 have HU:=Aa hu
 have HS:=Aa hs
 have aG:=Aa hs2
 have aw:=Aa av
 obtain⟨ua,uc,rfl,_,_⟩:=hu
 clear hs hs2 av
 have HW:Hid (∃W,W=(w.alloc (.cells #[.string t.name,.slice a t.args.length c] 29)).alloc (.cells #[.string t2.name,.slice a2 t2.args.length c2] 29)/\Below w.heap.size w W/\Ac W (w.heap.size+1) #[.string t2.name,.slice a2 t2.args.length c2] 29):=by
  obtain⟨h1,h2,h3⟩:=Gv [(.cells #[.string t.name,.slice a t.args.length c] 29:Obj),(.cells #[.string t2.name,.slice a2 t2.args.length c2] 29:Obj)] w
  exact⟨_,rfl,h1,h3 1 _ rfl⟩
 go_enter Tryz.func18,Tryz.ntmps18
 go_wp2_with fail
 obtain⟨w0,hw0,hb0,az⟩:=HW.out
 rw[<-hw0]
 have af:=Aa hb0
 have a6:=Aa az
 clear hw0 HW hb0 az
 refine(TJ rs t true m _ a c w0 X (HU.out.later af.out) (HS.out.later af.out) au aw.out hz hm).mono ?_
 rintro e w1 ⟨hb1,x,ax,cx,n1,er,rfl,a7,a8⟩
 have ai:=Aa a7
 have aH:=Aa a8
 have ag:=Aa (af.out.trans (hb1.mono af.out.size))
 have T1:=Aa (a6.out.below hb1 a6.out.lt)
 clear a7 a8 hb1
 by_cases h0:er=0
 ·subst h0
  have aA:Hid (Below w1.heap.size w1 (w1.alloc (.cells #[.string x.name,.slice ax x.args.length cx] 29))):=(Af _ _).alloc (Aj _) _
  have KX:Hid (Ac (w1.alloc (.cells #[.string x.name,.slice ax x.args.length cx] 29)) w1.heap.size #[.string x.name,.slice ax x.args.length cx] 29):=Ac.new w1 _ _
  have t0:∀o,(w1.alloc o).cell? ⟨w.heap.size+1,0,none⟩=some (.string t2.name):=λo=>(T1.out.alloc o).cell 0
  have t1:∀o,(w1.alloc o).cell? ⟨w.heap.size+1,1,none⟩=some (.slice a2 t2.args.length c2):=λo=>(T1.out.alloc o).cell 1
  go_wp2_with fail
  clear t0 t1
  have ah:=Aa (ag.out.trans (aA.out.mono ag.out.size))
  have aj:=Aa (aH.out.later aA.out)
  generalize (w1.alloc (.cells #[.string x.name,.slice ax x.args.length cx] 29))=w2 at *
  refine(TJ rs t2 true m _ a2 c2 w2 X (HU.out.later ah.out) (aG.out.later ah.out) au aw.out hz2 hm).mono ?_
  rintro e w3 ⟨hb3,y,ay,cy,n2,ak,rfl,aB,aC⟩
  have aD:=Aa aB
  have aI:=Aa aC
  have aa:=Aa (ah.out.trans (hb3.mono ah.out.size))
  have ao:=Aa (KX.out.below hb3 KX.out.lt)
  have aq:=Aa (aj.out.later hb3)
  clear aB aC hb3
  by_cases h1:ak=0
  ·subst h1
   have ae:Hid (DD rs m t t2=(BI x y,0)):=by unfold Hid DD; rw[ai.out,aD.out]; simp
   have ar:Hid (Below w3.heap.size w3 (w3.alloc (.cells #[.string y.name,.slice ay y.args.length cy] 29))):=(Af _ _).alloc (Aj _) _
   have x0:∀o,(w3.alloc o).cell? ⟨w1.heap.size,0,none⟩=some (.string x.name):=λo=>(ao.out.alloc o).cell 0
   have x1:∀o,(w3.alloc o).cell? ⟨w1.heap.size,1,none⟩=some (.slice ax x.args.length cx):=λo=>(ao.out.alloc o).cell 1
   have aK:w1.heap.size<w3.heap.size:=ao.out.lt
   go_wp2_with fail
   refine(Kd x y _ _ _ _ _ ⟨ax,cx,rfl,aq.out.later ar.out⟩ ⟨ay,cy,rfl,aI.out.later ar.out⟩).mono ?_
   rintro e w5 ⟨rfl,aF⟩
   have aJ:=Aa ((aa.out.trans (ar.out.mono aa.out.size)).trans (aF.mono (by have:=aa.out.size; simp; omega)))
   clear aF x0 x1
   go_wp2_with fail
   refine Ap (v:=.tuple #[.bool (BI x y),.int .i64 0]) (by simp[results,Tryz.results18,go_sem]) rfl ?_
   exact⟨by rw[ae.out],aJ.out⟩
  ·have ae:Hid (DD rs m t t2=(false,ak)):=by unfold Hid DD; rw[ai.out,aD.out]; simp[h1]
   go_wp2_with fail
   refine Ap (v:=.tuple #[.bool false,.int .i64 ak]) (by simp[results,Tryz.results18,go_sem]) rfl ?_
   exact⟨by rw[ae.out],aa.out.alloc aa.out.size _⟩
 ·have ae:Hid (DD rs m t t2=(false,er)):=by unfold Hid DD; rw[ai.out]; simp[h0]
  go_wp2_with fail
  refine Ap (v:=.tuple #[.bool false,.int .i64 er]) (by simp[results,Tryz.results18,go_sem]) rfl ?_
  exact⟨by rw[ae.out],ag.out.alloc ag.out.size _⟩
open Go.ChangeShapes Go.WideShapes Go.ChangeAt Go.RowKit
theorem Tryz.cellsTerm:Tryz.prog.cellsOf 29=2:=by kernel_rfl
theorem Tryz.cellsStr:Tryz.prog.cellsOf 9=1:=by kernel_rfl
theorem Tryz.cellsSl:Tryz.prog.cellsOf 27=1:=by kernel_rfl
theorem jD {w:World} {a:Addr} {cs:List Value} (h:w.cells? 0 a 2=some cs):∃c0 c1,cs=[c0,c1]/\w.cell? a=some c0/\w.cell? (a.add 1)=some c1:=by
 have e:(List.range 2)=[0,1]:=rfl
 simp only[World.cells?,AE,if_true,e] at h
 simp only[List.mapM_cons,List.mapM_nil,Option.bind_eq_bind,Option.bind_eq_some_iff,Option.pure_def] at h
 obtain⟨c0,h0,r,⟨c1,h1,r2,h2,h3⟩,h4⟩:=h
 simp only[GH] at h2 h3 h4
 subst h2; subst h3; subst h4
 exact⟨c0,c1,rfl,by simpa [Addr.add] using h0,h1⟩
theorem TK {H:Type} {enc:TypeId×Value->H} {w:World} {sp:Nat->Bool} {held:Bool}:∀(fuel:Nat) (cs:List Value) (x:DataW H×List MemPlace),DataW.trod enc Tryz.prog w 0 sp held fuel 29 cs=some x->
  ∃(t:Tm) (a:Option Addr) (c:Nat),cs=[.string t.name,.slice a t.args.length c]/\Sl w (λ_=>True) a t.args:=by
 intro fuel
 induction fuel using Nat.strongRecOn with
 |ind fuel ih=>
  intro cs x h
  obtain⟨xs,n,ak,hx,hl,ag,hf⟩:=DataW.trod_struct Tryz.underlying29 h
  have f0:=hf 0 _ rfl
  have f1:=hf 1 _ rfl
  rw[Tryz.cellsTerm]at hl
  match cs,hl with
  | [c0,c1],_=>
   match xs,ag with
   | [y0,y1],_=>
    simp[Tryz.cellsStr,Tryz.cellsSl]at f0 f1
    obtain⟨s,e0,_,hs⟩:=DataW.trod_string Tryz.underlying9 f0
    simp at e0
    subst e0
    rcases DataW.trod_slice Tryz.underlying27 f1 with ⟨e1,_⟩|⟨a,len,cap,elems,rest,n2,ao,e1,_,hb,aq,ah,ar,aa,_⟩
    ·simp at e1
     subst e1
     exact⟨⟨s,[]⟩,none,0,rfl,by simp,Ad rfl⟩
    ·simp at e1
     subst e1
     unfold maxLen at ah
     rw[Tryz.cellsTerm]at aa
     have key:∀i,∃t:Tm,i<len->∃a' c',w.cell? (a.add (i*2))=some (.string t.name)/\w.cell? ((a.add (i*2)).add 1)=some (.slice a' t.args.length c')/\Sl w (λ_=>True) a' t.args:=by
      intro i
      by_cases hi:i<len
      ·have h1:=aa i hi
       have ai:i<elems.length:=by omega
       rw[Ha ai,Option.bind_eq_some_iff]at h1
       obtain⟨cs',h2,h3⟩:=h1
       obtain⟨d0,d1,rfl,g0,g1⟩:=jD h2
       obtain⟨t,a',c',e3,ae⟩:=ih n2 (by omega) _ _ h3
       simp at e3
       obtain⟨rfl,rfl⟩:=e3
       exact⟨t,λ_=>⟨a',c',g0,g1,ae⟩⟩
      ·exact⟨⟨s,[]⟩,λh=>absurd h hi⟩
     obtain⟨T,hT⟩:=Classical.skolem.1 key
     refine⟨⟨s,(List.range len).map T⟩,some a,cap,by simp,by simp; omega,?_⟩
     by_cases h0:len=0
     ·subst h0; exact Ad rfl
     ·right
      obtain⟨b,o,sp⟩:=a
      obtain⟨a0,c0,g0,_,_⟩:=hT 0 (by omega)
      have aj:sp=none:=by simpa [Addr.add] using World.cell?_spot g0
      subst aj
      refine⟨b,o,rfl,NA _ _ _ λi hi=>?_⟩
      simp at hi
      obtain⟨a',c',g0,g1,ae⟩:=hT i hi
      refine⟨trivial,?_,a',c',?_,?_⟩
      ·simp only[Hc,List.getElem_range]
       by_cases af:i=0
       ·subst af; simpa [Addr.add] using g0
       ·have:i*2≠0:=by omega
        simpa [Addr.add,this] using g0
      ·simp only[Hc,List.getElem_range]
       by_cases af:i=0
       ·subst af; simpa [Addr.add] using g1
       ·have:i*2≠0:=by omega
        simpa [Addr.add,this] using g1
      ·simpa using ae
theorem Tryz.cellsPair:Tryz.prog.cellsOf 31=4:=by kernel_rfl
theorem jE {w:World} {a:Addr} {cs:List Value} (h:w.cells? 0 a 4=some cs):∃c0 c1 c2 c3,cs=[c0,c1,c2,c3]/\w.cell? a=some c0/\w.cell? (a.add 1)=some c1/\w.cell? (a.add 2)=some c2/\w.cell? (a.add 3)=some c3:=by
 have e:(List.range 4)=[0,1,2,3]:=rfl
 simp only[World.cells?,AE,if_true,e] at h
 simp only[List.mapM_cons,List.mapM_nil,Option.bind_eq_bind,Option.bind_eq_some_iff,Option.pure_def] at h
 obtain⟨c0,h0,r,⟨c1,h1,r2,⟨c2,h2,r3,⟨c3,h3,r4,h4,h5⟩,h6⟩,h7⟩,h8⟩:=h
 simp only[GH] at h4 h5 h6 h7 h8
 subst h4; subst h5; subst h6; subst h7; subst h8
 exact⟨c0,c1,c2,c3,rfl,by simpa [Addr.add] using h0,h1,h2,h3⟩
theorem jF {H:Type} {enc:TypeId×Value->H} {w:World} {sp:Nat->Bool} {held:Bool} (fuel:Nat) (cs:List Value) (x:DataW H×List MemPlace) (h:DataW.trod enc Tryz.prog w 0 sp held fuel 31 cs=some x):
  ∃(d:Pr) (a1:Option Addr) (c1:Nat) (a2:Option Addr) (c2:Nat),cs=[.string d.l.name,.slice a1 d.l.args.length c1,.string d.r.name,.slice a2 d.r.args.length c2]/\Sl w (λ_=>True) a1 d.l.args/\Sl w (λ_=>True) a2 d.r.args:=by
 obtain⟨xs,n,ae,hx,hl,aa,hf⟩:=DataW.trod_struct Tryz.underlying31 h
 have f0:=hf 0 _ rfl
 have f1:=hf 1 _ rfl
 rw[Tryz.cellsPair]at hl
 match cs,hl with
 | [c0,c1,c2,c3],_=>
  match xs,aa with
  | [y0,y1],_=>
   simp[Tryz.cellsStr,Tryz.cellsTerm]at f0 f1
   obtain⟨t1,a1,k1,e1,hs1⟩:=TK _ _ _ f0
   obtain⟨t2,a2,k2,e2,hs2⟩:=TK _ _ _ f1
   simp at e1 e2
   obtain⟨rfl,rfl⟩:=e1
   obtain⟨rfl,rfl⟩:=e2
   exact⟨⟨t1,t2⟩,a1,k1,a2,k2,rfl,hs1,hs2⟩
theorem jG {H:Type} {enc:TypeId×Value->H} {w:World} {sp:Nat->Bool} {held:Bool} {r:Reach} {b0:Nat} {v:Value} {d:DataW H} {p:List MemPlace} (hv:Value.okWide Tryz.prog w r b0 22 v) (h:DataW.Trod enc Tryz.prog w 0 sp held 22 v d p):∃ls,QV w (λ_=>True) v ls:=by
 obtain⟨a0,aa,af,rfl⟩:=okWide_slice Tryz.underlying22 hv
 obtain⟨fuel,hf⟩:=h
 rcases DataW.trod_slice Tryz.underlying22 hf with ⟨e1,_⟩|⟨a,len,cap,elems,rest,n2,ak,e1,_,hb,ao,ag,aq,ae,_⟩
 ·simp[Value.cells]at e1
  obtain⟨rfl,rfl,rfl⟩:=e1
  exact⟨[],none,0,rfl,by simp,Ad rfl⟩
 ·simp[Value.cells]at e1
  obtain⟨rfl,rfl,rfl⟩:=e1
  unfold maxLen at ag
  rw[Tryz.cellsPair]at ae
  have key:∀i,∃d:Pr,i<aa->∃a1 c1 a2 c2,w.cell? (a.add (i*4))=some (.string d.l.name)/\w.cell? ((a.add (i*4)).add 1)=some (.slice a1 d.l.args.length c1)/\w.cell? ((a.add (i*4)).add 2)=some (.string d.r.name)/\w.cell? ((a.add (i*4)).add 3)=some (.slice a2 d.r.args.length c2)/\Sl w (λ_=>True) a1 d.l.args/\Sl w (λ_=>True) a2 d.r.args:=by
   intro i
   by_cases hi:i<aa
   ·have h1:=ae i hi
    have ah:i<elems.length:=by omega
    rw[Ha ah,Option.bind_eq_some_iff]at h1
    obtain⟨cs',h2,h3⟩:=h1
    obtain⟨d0,d1,d2,d3,rfl,g0,g1,g2,g3⟩:=jE h2
    obtain⟨d,a1,c1,a2,c2,e3,hs1,hs2⟩:=jF n2 _ _ h3
    simp at e3
    obtain⟨rfl,rfl,rfl,rfl⟩:=e3
    exact⟨d,λ_=>⟨a1,c1,a2,c2,g0,g1,g2,g3,hs1,hs2⟩⟩
   ·exact⟨⟨⟨⟨#[]⟩,[]⟩,⟨⟨#[]⟩,[]⟩⟩,λh=>absurd h hi⟩
  obtain⟨Z,hZ⟩:=Classical.skolem.1 key
  refine⟨(List.range aa).map Z,some a,af,by simp,by simp; omega,?_⟩
  by_cases h0:aa=0
  ·subst h0; exact Ad rfl
  ·right
   obtain⟨b,o,sp⟩:=a
   obtain⟨_,_,_,_,g0,_⟩:=hZ 0 (by omega)
   have ai:sp=none:=by simpa [Addr.add] using World.cell?_spot g0
   subst ai
   refine⟨b,o,rfl,trivial,λi hi=>?_⟩
   simp at hi
   obtain⟨a1,c1,a2,c2,g0,g1,g2,g3,hs1,hs2⟩:=hZ i hi
   simp only[Hc,List.getElem_range]
   by_cases aj:i=0
   ·subst aj; exact⟨a1,c1,a2,c2,by simpa [Addr.add] using g0,by simpa [Addr.add] using g1,by simpa [Addr.add] using g2,by simpa [Addr.add] using g3,hs1,hs2⟩
   ·have h3:i*4≠0:=by omega
    exact⟨a1,c1,a2,c2,by simpa [Addr.add,h3] using g0,by simpa [Addr.add,h3] using g1,by simpa [Addr.add,h3] using g2,by simpa [Addr.add,h3] using g3,hs1,hs2⟩
end Go.Proofs.YtlkeafenklamjaaGreatDoor
