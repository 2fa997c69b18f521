import Derived.Test.YtlkeafenklamjaaGreatDoorOv4
namespace Go.Proofs.YtlkeafenklamjaaGreatDoor
set_option linter.all false
set_option maxRecDepth 20000
set_option maxHeartbeats 8000000
open Go.RowKit
def EX (ls:List Bd) (a b:Pr) (pl:List Int):Pr:=⟨fT ls a.r,fT ls (AL b.r pl a.l)⟩
def Zr (ls:List Bd) (a b:Pr) (pl:List Int) (w:World) (e:Ending) (w':World):Prop:=
 Below w.heap.size w w'/\(((2000<Ab [(EX ls a b pl).l]∨2000<Ab [(EX ls a b pl).r])/\e=.returned (.tuple #[.agg #[.string ⟨#[]⟩,.slice none 0 0,.string ⟨#[]⟩,.slice none 0 0],.int .i64 8]))∨
  (Ab [(EX ls a b pl).l]<=2000/\Ab [(EX ls a b pl).r]<=2000/\∃y b1 d1 b2 d2,y=Dz (EX ls a b pl)/\e=.returned (.tuple #[.agg #[.string y.l.name,.slice b1 y.l.args.length d1,.string y.r.name,.slice b2 y.r.args.length d2],.int .i64 0])/\Sl w' (λb=>w.heap.size<=b) b1 y.l.args/\Sl w' (λb=>w.heap.size<=b) b2 y.r.args))
theorem RL (BT:Nat) (ls:List Bd) (ho:Hp ls) (oa nb:Pr) (pl:List Int) (a1 a2 a3 a4:Option Addr) (c1 c2 c3 c4:Nat) (pv u:Value) (w:World) (X:Nat->Prop) (hs1:Sl w X a1 oa.l.args) (hs2:Sl w X a2 oa.r.args) (hs3:Sl w X a3 nb.l.args) (bj:Sl w X a4 nb.r.args) (hp:PV w X pv pl) (hu:BV w X u ls) (hat:(AR oa.l pl).isSome=true) (hz:Ab [oa.l]<=1000000) (hT:Tb BT w) (b7:BT<=w.heap.size):
  Calls Tryz.prog 38 #[.agg #[.string oa.l.name,.slice a1 oa.l.args.length c1,.string oa.r.name,.slice a2 oa.r.args.length c2,.string nb.l.name,.slice a3 nb.l.args.length c3,.string nb.r.name,.slice a4 nb.r.args.length c4],pv,u] w λe w'=>Zr ls oa nb pl w e w':=by
 have b8:=Aa (hs1.mono (Y:=λb=>X b/\b<w.heap.size) λb h1 h2=>⟨h1,h2⟩)
 have b9:=Aa (hs2.mono (Y:=λb=>X b/\b<w.heap.size) λb h1 h2=>⟨h1,h2⟩)
 have bA:=Aa (bj.mono (Y:=λb=>X b/\b<w.heap.size) λb h1 h2=>⟨h1,h2⟩)
 have bB:=Aa (hp.mono (Y:=λb=>X b/\b<w.heap.size) λb h1 h2=>⟨h1,h2⟩)
 have HU:=Aa (hu.mono (Y:=λb=>X b/\b<w.heap.size) λb h1 h2=>⟨h1,h2⟩)
 have HT:=Aa hT
 obtain⟨pa,pc,rfl,cf,_⟩:=hp
 obtain⟨ua,uc,rfl,cg,_⟩:=hu
 clear hs1 hs2 hs3 bj hT
 go_enter Tryz.func38,Tryz.ntmps38
 go_wp2_with fail
 have Bx:Below w.heap.size w ((w.alloc (.cells #[.string oa.l.name,.slice a1 oa.l.args.length c1,.string oa.r.name,.slice a2 oa.r.args.length c2,.string nb.l.name,.slice a3 nb.l.args.length c3,.string nb.r.name,.slice a4 nb.r.args.length c4] 66)).alloc (.cells #[.string ⟨#[]⟩,.slice none 0 0,.string ⟨#[]⟩,.slice none 0 0] 31)):=((Af _ _).alloc (Aj _) _).alloc (by simp) _
 have aD:Ac ((w.alloc (.cells #[.string oa.l.name,.slice a1 oa.l.args.length c1,.string oa.r.name,.slice a2 oa.r.args.length c2,.string nb.l.name,.slice a3 nb.l.args.length c3,.string nb.r.name,.slice a4 nb.r.args.length c4] 66)).alloc (.cells #[.string ⟨#[]⟩,.slice none 0 0,.string ⟨#[]⟩,.slice none 0 0] 31)) w.heap.size #[.string oa.l.name,.slice a1 oa.l.args.length c1,.string oa.r.name,.slice a2 oa.r.args.length c2,.string nb.l.name,.slice a3 nb.l.args.length c3,.string nb.r.name,.slice a4 nb.r.args.length c4] 66:=(Ac.new w _ _).alloc _
 have aF:Ac ((w.alloc (.cells #[.string oa.l.name,.slice a1 oa.l.args.length c1,.string oa.r.name,.slice a2 oa.r.args.length c2,.string nb.l.name,.slice a3 nb.l.args.length c3,.string nb.r.name,.slice a4 nb.r.args.length c4] 66)).alloc (.cells #[.string ⟨#[]⟩,.slice none 0 0,.string ⟨#[]⟩,.slice none 0 0] 31)) (w.heap.size+1) #[.string ⟨#[]⟩,.slice none 0 0,.string ⟨#[]⟩,.slice none 0 0] 31:=by
  have h:=Ac.new (w.alloc (.cells #[.string oa.l.name,.slice a1 oa.l.args.length c1,.string oa.r.name,.slice a2 oa.r.args.length c2,.string nb.l.name,.slice a3 nb.l.args.length c3,.string nb.r.name,.slice a4 nb.r.args.length c4] 66)) #[.string ⟨#[]⟩,.slice none 0 0,.string ⟨#[]⟩,.slice none 0 0] 31
  rw[CN]at h
  exact h
 have hz2:((w.alloc (.cells #[.string oa.l.name,.slice a1 oa.l.args.length c1,.string oa.r.name,.slice a2 oa.r.args.length c2,.string nb.l.name,.slice a3 nb.l.args.length c3,.string nb.r.name,.slice a4 nb.r.args.length c4] 66)).alloc (.cells #[.string ⟨#[]⟩,.slice none 0 0,.string ⟨#[]⟩,.slice none 0 0] 31)).heap.size=w.heap.size+2:=by simp
 generalize (w.alloc (.cells #[.string oa.l.name,.slice a1 oa.l.args.length c1,.string oa.r.name,.slice a2 oa.r.args.length c2,.string nb.l.name,.slice a3 nb.l.args.length c3,.string nb.r.name,.slice a4 nb.r.args.length c4] 66)).alloc (.cells #[.string ⟨#[]⟩,.slice none 0 0,.string ⟨#[]⟩,.slice none 0 0] 31)=W at *
 obtain⟨R,hR⟩:∃R,R=w.heap.size+1:=⟨_,rfl⟩
 obtain⟨Q,hQ⟩:∃Q,Q=w.heap.size:=⟨_,rfl⟩
 rw[<-hR]at aF ⊢
 rw[<-hQ]at aD ⊢
 have aw:Hid (R=w.heap.size+1/\Q=w.heap.size):=⟨hR,hQ⟩
 clear hR hQ
 refine(UN ls ho _ W _ (HU.out.later Bx)).mono ?_
 rintro e w3 ⟨L,rfl,bk,hL3,hb3⟩
 have aN:=Bx.trans (hb3.mono Bx.size)
 have bl:=Aa hL3
 have aO:=aD.below hb3 aD.lt
 have aP:=aF.below hb3 aF.lt
 have aG:=Aa bk
 obtain⟨mr,bm⟩:∃mr,mr=W.heap.size:=⟨_,rfl⟩
 rw[<-bm]at aG ⊢
 have bC:Hid (w.heap.size+2<=mr):=by unfold Hid; omega
 clear bm hL3 bk hb3 Bx aD aF
 go_wp2_with fail
 refine(UQ mr w3).mono ?_
 rintro e w4 ⟨rfl,hw4⟩
 have ae:Below w3.heap.size w3 w4:=by rw[hw4]; exact(Af _ _).alloc (Aj _) _
 obtain⟨mb,aQ⟩:∃mb,mb=w3.heap.size:=⟨_,rfl⟩
 have bn:Ac w4 mb #[.map (some mr)] 96:=by rw[hw4,aQ]; exact Ac.new w3 _ _
 rw[<-aQ]
 have hz3:W.heap.size<=W.heap.size:=Aj _
 have aR:Hid (EE w4 mb mr (λ_=>True) ls L):=⟨bn,aG.out.below ae aG.out.lt,bl.out.imp λa l h=>((h.later ae).mono λ_ _ _=>trivial)⟩
 have bo:=aN.trans (ae.mono aN.size)
 have ah:=aO.below ae aO.lt
 have bp:=Aa (aP.below ae aP.lt)
 have aS:=Aa bo
 have bq:=Aa ah
 have p4:=λk=>ah.cell k
 have bD:=ah.c0
 have bE:=ah.c1
 have bF:=ah.c2
 have bG:=ah.c3
 have bH:w4.cell? ⟨Q,4,none⟩=some (.string nb.l.name):=ah.cell 4
 have bI:w4.cell? ⟨Q,5,none⟩=some (.slice a3 nb.l.args.length c3):=ah.cell 5
 have bJ:w4.cell? ⟨Q,6,none⟩=some (.string nb.r.name):=ah.cell 6
 have bK:w4.cell? ⟨Q,7,none⟩=some (.slice a4 nb.r.args.length c4):=ah.cell 7
 clear hw4 ae bn aQ aN aO aP bo ah aG bl p4
 go_wp2_with fail
 refine(PS mb mr ls L oa.r 2000 a2 c2 w4 (λ_=>True) (by decide) ((b9.out.later aS.out).mono λ_ _ _=>trivial) aR.out).mono ?_
 rintro e w5 ⟨ax,ai⟩
 have ao:=Aa (aS.out.trans (ax.mono aS.out.size))
 have aa:=Aa (bp.out.below ax bp.out.lt)
 have br:=Aa (bq.out.below ax bq.out.lt)
 have aH:=Aa (aR.out.later ax)
 have cj:Hid (mb<w5.heap.size):=aH.out.1.lt
 clear ax bD bE bF bG bH bI bJ bK aR
 rcases ai with ⟨hle,b1,d1,rfl,bs⟩|⟨hle,rfl⟩
 case inr=>
  have ay:=Aa hle
  clear hle
  have q0:∀o,(w5.alloc o).cell? ⟨R,0,none⟩=some (.string ⟨#[]⟩):=λo=>(aa.out.alloc o).cell 0
  have q1:∀o,(w5.alloc o).cell? ⟨R,1,none⟩=some (.slice none 0 0):=λo=>(aa.out.alloc o).cell 1
  have q2:∀o,(w5.alloc o).cell? ⟨R,2,none⟩=some (.string ⟨#[]⟩):=λo=>(aa.out.alloc o).cell 2
  have q3:∀o,(w5.alloc o).cell? ⟨R,3,none⟩=some (.slice none 0 0):=λo=>(aa.out.alloc o).cell 3
  have r0:=aa.out.cell 0
  have r1:=aa.out.cell 1
  have r2:=aa.out.cell 2
  have r3:=aa.out.cell 3
  have qf:∀o k,(w5.alloc o).frozen? ⟨R,k,none⟩=false:=λo k=>(aa.out.alloc o).frozen k
  have rf:=aa.out.frozen
  have ql:R<w5.heap.size:=aa.out.lt
  go_wp2_with fail
  refine Ap (v:=.tuple #[.agg #[.string ⟨#[]⟩,.slice none 0 0,.string ⟨#[]⟩,.slice none 0 0],.int .i64 8]) (by simp[results,Tryz.results38,go_sem,AU,AG,Gc,q0,q1,q2,q3,r0,r1,r2,r3,ql]) rfl ?_
  have hk:=aw.out
  exact⟨by first|exact((((ao.out.setCell (p:=⟨R,0,none⟩) (by simp; omega) _).setCell (p:=⟨R,1,none⟩) (by simp; omega) _).setCell (p:=⟨R,2,none⟩) (by simp; omega) _).setCell (p:=⟨R,3,none⟩) (by simp; omega) _).alloc (by simp[World.setCell]; exact ao.out.size) _|exact((((ao.out.alloc ao.out.size _).setCell (p:=⟨R,0,none⟩) (by simp; omega) _).setCell (p:=⟨R,1,none⟩) (by simp; omega) _).setCell (p:=⟨R,2,none⟩) (by simp; omega) _).setCell (p:=⟨R,3,none⟩) (by simp; omega) _,Ad ⟨Ad ay.out,rfl⟩⟩
 case inl=>
  have ay:=Aa hle
  have aI:=Aa bs
  clear hle bs
  have bt:Hid (fT ls oa.r=(EX ls oa nb pl).l):=rfl
  rw[bt.out]at ay aI ⊢
  obtain⟨g1,aT⟩:∃g1,g1=(EX ls oa nb pl).l:=⟨_,rfl⟩
  rw[<-aT]at ay aI bt ⊢
  have bL:=Aa aT
  clear aT
  have aJ:Below w5.heap.size w5 (w5.alloc (.cells #[.string g1.name,.slice b1 g1.args.length d1] 29)):=(Af _ _).alloc (Aj _) _
  have aK:=Ac.new w5 #[.string g1.name,.slice b1 g1.args.length d1] 29
  have aj:=br.out.alloc (.cells #[.string g1.name,.slice b1 g1.args.length d1] 29)
  have aU:=aa.out.alloc (.cells #[.string g1.name,.slice b1 g1.args.length d1] 29)
  have bM:(w5.alloc (.cells #[.string g1.name,.slice b1 g1.args.length d1] 29)).cell? ⟨Q,0,none⟩=some (.string oa.l.name):=aj.cell 0
  have bN:(w5.alloc (.cells #[.string g1.name,.slice b1 g1.args.length d1] 29)).cell? ⟨Q,1,none⟩=some (.slice a1 oa.l.args.length c1):=aj.cell 1
  have bO:(w5.alloc (.cells #[.string g1.name,.slice b1 g1.args.length d1] 29)).cell? ⟨Q,2,none⟩=some (.string oa.r.name):=aj.cell 2
  have bP:(w5.alloc (.cells #[.string g1.name,.slice b1 g1.args.length d1] 29)).cell? ⟨Q,3,none⟩=some (.slice a2 oa.r.args.length c2):=aj.cell 3
  have bQ:(w5.alloc (.cells #[.string g1.name,.slice b1 g1.args.length d1] 29)).cell? ⟨Q,4,none⟩=some (.string nb.l.name):=aj.cell 4
  have bR:(w5.alloc (.cells #[.string g1.name,.slice b1 g1.args.length d1] 29)).cell? ⟨Q,5,none⟩=some (.slice a3 nb.l.args.length c3):=aj.cell 5
  have bS:(w5.alloc (.cells #[.string g1.name,.slice b1 g1.args.length d1] 29)).cell? ⟨Q,6,none⟩=some (.string nb.r.name):=aj.cell 6
  have bT:(w5.alloc (.cells #[.string g1.name,.slice b1 g1.args.length d1] 29)).cell? ⟨Q,7,none⟩=some (.slice a4 nb.r.args.length c4):=aj.cell 7
  go_wp2_with fail
  generalize w5.alloc (.cells #[.string g1.name,.slice b1 g1.args.length d1] 29)=wb at *
  obtain⟨Bw,az⟩:∃Bw,Bw=w5.heap.size:=⟨_,rfl⟩
  rw[<-az]at aK ⊢
  have ar:=Aa (ao.out.trans (aJ.mono ao.out.size))
  have bU:Hid (w.heap.size+2<=Bw):=by have:=bC.out; have h2:=aa.out.lt; have h3:=aw.out; have h4:=aH.out.2.1.lt; unfold Hid; omega
  have a7:=Aa (aI.out.later aJ)
  have bu:=Aa (aH.out.later aJ)
  clear bM bN bO bP bQ bR bS bT aJ az ao aa br aH aI
  refine(WA nb.r pl oa.l _ _ _ wb (λ_=>True) (λ_=>True) ⟨a1,c1,rfl,(b8.out.later ar.out).mono λ_ _ _=>trivial⟩ ((bB.out.later ar.out).mono λ_ _ _=>trivial) ⟨a4,c4,rfl,(bA.out.later ar.out).mono λ_ _ _=>trivial⟩ hat hz).mono ?_
  rintro e w6 ⟨v6,rfl,⟨a6,c6,bV,bw⟩,au⟩
  subst bV
  have bx:=Aa (bw.mono (Y:=λ_=>True) λ_ _ _=>trivial)
  have bz:=Aa (ar.out.trans (au.mono ar.out.size))
  have aV:=aU.below au aU.lt
  have aW:=aK.below au aK.lt
  have b3:=Aa (bu.out.later au)
  have a8:=Aa (a7.out.later au)
  clear bw au aU aK aj bu a7 ar
  generalize b4:AL nb.r pl oa.l=pt at *
  have b5:=Aa b4
  clear b4
  go_wp2_with fail
  refine(PS mb mr ls L pt 2000 a6 c6 w6 (λ_=>True) (by decide) bx.out b3.out).mono ?_
  rintro e w7 ⟨aA,ai⟩
  have ak:=Aa (bz.out.trans (aA.mono bz.out.size))
  have ag:=Aa (aV.below aA aV.lt)
  have bW:=Aa (aW.below aA aW.lt)
  have aX:=Aa (a8.out.later aA)
  have aY:=Aa (HT.out.on (ak.out.mono b7))
  clear aA aV aW a8 b3 bx
  rcases ai with ⟨af,b2,d2,rfl,aq⟩|⟨af,rfl⟩
  case inr=>
   have aB:Hid (2000<Ab [(EX ls oa nb pl).r]):=by unfold Hid EX; rw[b5.out]; exact af
   clear af
   have q0:∀o,(w7.alloc o).cell? ⟨R,0,none⟩=some (.string ⟨#[]⟩):=λo=>(ag.out.alloc o).cell 0
   have q1:∀o,(w7.alloc o).cell? ⟨R,1,none⟩=some (.slice none 0 0):=λo=>(ag.out.alloc o).cell 1
   have q2:∀o,(w7.alloc o).cell? ⟨R,2,none⟩=some (.string ⟨#[]⟩):=λo=>(ag.out.alloc o).cell 2
   have q3:∀o,(w7.alloc o).cell? ⟨R,3,none⟩=some (.slice none 0 0):=λo=>(ag.out.alloc o).cell 3
   have r0:=ag.out.cell 0
   have r1:=ag.out.cell 1
   have r2:=ag.out.cell 2
   have r3:=ag.out.cell 3
   have qf:∀o k,(w7.alloc o).frozen? ⟨R,k,none⟩=false:=λo k=>(ag.out.alloc o).frozen k
   have rf:=ag.out.frozen
   have ql:R<w7.heap.size:=ag.out.lt
   go_wp2_with fail
   refine Ap (v:=.tuple #[.agg #[.string ⟨#[]⟩,.slice none 0 0,.string ⟨#[]⟩,.slice none 0 0],.int .i64 8]) (by simp[results,Tryz.results38,go_sem,AU,AG,Gc,q0,q1,q2,q3,r0,r1,r2,r3,ql]) rfl ?_
   have hk:=aw.out
   exact⟨by first|exact((((ak.out.setCell (p:=⟨R,0,none⟩) (by simp; omega) _).setCell (p:=⟨R,1,none⟩) (by simp; omega) _).setCell (p:=⟨R,2,none⟩) (by simp; omega) _).setCell (p:=⟨R,3,none⟩) (by simp; omega) _).alloc (by simp[World.setCell]; exact ak.out.size) _|exact((((ak.out.alloc ak.out.size _).setCell (p:=⟨R,0,none⟩) (by simp; omega) _).setCell (p:=⟨R,1,none⟩) (by simp; omega) _).setCell (p:=⟨R,2,none⟩) (by simp; omega) _).setCell (p:=⟨R,3,none⟩) (by simp; omega) _,Ad ⟨Ae aB.out,rfl⟩⟩
  case inl=>
   obtain⟨g2,hg2⟩:∃g2,g2=fT ls pt:=⟨_,rfl⟩
   rw[<-hg2]at af aq ⊢
   have aZ:Hid (EX ls oa nb pl=⟨g1,g2⟩):=by unfold Hid; rw[hg2,bL.out,<-b5.out]; rfl
   have aB:=Aa af
   have ba:=Aa aq
   have bb:=ay.out
   clear hg2 aq
   have aC:Below w7.heap.size w7 (w7.alloc (.cells #[.string g2.name,.slice b2 g2.args.length d2] 29)):=(Af _ _).alloc (Aj _) _
   have bX:=Ac.new w7 #[.string g2.name,.slice b2 g2.args.length d2] 29
   have bc:=bW.out.alloc (.cells #[.string g2.name,.slice b2 g2.args.length d2] 29)
   have aL:=ag.out.alloc (.cells #[.string g2.name,.slice b2 g2.args.length d2] 29)
   have k0:(w7.alloc (.cells #[.string g2.name,.slice b2 g2.args.length d2] 29)).cell? ⟨Bw,0,none⟩=some (.string g1.name):=bc.cell 0
   have k1:(w7.alloc (.cells #[.string g2.name,.slice b2 g2.args.length d2] 29)).cell? ⟨Bw,1,none⟩=some (.slice b1 g1.args.length d1):=bc.cell 1
   go_wp2_with fail
   generalize w7.alloc (.cells #[.string g2.name,.slice b2 g2.args.length d2] 29)=w8 at *
   have aM:=Aa (ak.out.trans (aC.mono ak.out.size))
   refine(Zq BT ⟨g1,g2⟩ b1 b2 d1 d2 w8 (λ_=>True) ((aX.out.later aC).mono λ_ _ _=>trivial) ((ba.out.later aC).mono λ_ _ _=>trivial) (aY.out.on (aC.mono (by have:=ak.out.size; omega))) (by have:=aM.out.size; omega) (by simp only; omega)).mono ?_
   rintro e w9 ⟨e1,f1,e2,f2,rfl,bf,bg,bh⟩
   have bY:=Aa (aM.out.trans (bh.mono aM.out.size))
   have av:=Aa (aL.below bh aL.lt)
   have bZ:=aM.out.size
   obtain⟨y,hy⟩:∃y,y=Dz ⟨g1,g2⟩:=⟨_,rfl⟩
   rw[<-hy]at bf bg ⊢
   have HY:=Aa hy
   have b6:Hid (w.heap.size+2<=w8.heap.size):=by have:=aw.out; have:=aL.lt; unfold Hid; omega
   have cc:=Aa (bf.mono (Y:=λb=>w.heap.size+2<=b) λb hb _=>by have:=b6.out; omega)
   have cd:=Aa (bg.mono (Y:=λb=>w.heap.size+2<=b) λb hb _=>by have:=b6.out; omega)
   clear bf bg hy bh aL bc bX aC k0 k1 bZ
   have q0:=av.out.cell 0
   have q1:=av.out.cell 1
   have q2:=av.out.cell 2
   have q3:=av.out.cell 3
   have qf:=av.out.frozen
   have ql:R<w9.heap.size:=av.out.lt
   go_wp2_with fail
   refine Ap (v:=.tuple #[.agg #[.string y.l.name,.slice e1 y.l.args.length f1,.string y.r.name,.slice e2 y.r.args.length f2],.int .i64 0]) (by simp[results,Tryz.results38,go_sem,AU,AG,Gc,q0,q1,q2,q3,ql]) rfl ?_
   have hk:=aw.out
   refine⟨(((bY.out.setCell (p:=⟨R,0,none⟩) (by simp; omega) _).setCell (p:=⟨R,1,none⟩) (by simp; omega) _).setCell (p:=⟨R,2,none⟩) (by simp; omega) _).setCell (p:=⟨R,3,none⟩) (by simp; omega) _,Ae ⟨?_,?_,y,e1,f1,e2,f2,?_,rfl,?_,?_⟩⟩
   ·rw[aZ.out]; exact bb
   ·rw[aZ.out]; exact af
   ·rw[aZ.out]; exact HY.out
   ·refine Sl.mono (X:=λb=>w.heap.size+2<=b) ?_ (λb hb _=>by omega)
    exact Cy (Cy (Cy (Cy cc.out (by omega)) (by omega)) (by omega)) (by omega)
   ·refine Sl.mono (X:=λb=>w.heap.size+2<=b) ?_ (λb hb _=>by omega)
    exact Cy (Cy (Cy (Cy cd.out (by omega)) (by omega)) (by omega)) (by omega)
end Go.Proofs.YtlkeafenklamjaaGreatDoor
