/- Several texts in one. -/
import Derived.Test.YtlkeafenklamjaaGreatDoorZBCriticalSaysOwn
import Derived.Deep.RegionHeld
import Derived.Deep.RegionHeld3
import Derived.Lib.Builder
import Derived.RangeFuncNested
import Derived.RangeFuncBound
import Derived.RangeFuncCalls
import Derived.RangeFuncLeaves
import Derived.RangeFuncWrites
import Derived.Shelf.Abstract
import Derived.Shelf.RegionOpen
import Derived.OwnWalkIn
import Derived.TacticsInMore
import Derived.LoopNIn
import Derived.LoopIn
import Derived.Laws.EntriesVeiled
import Derived.Test.YtlkeafenklamjaaGreatDoorW60
import Derived.Ground.SlgnProg
import Derived.Shelf.SlicesE.Clone
import Derived.Deep.DeepCutAuto
namespace Go.Proofs.YtlkeafenklamjaaGreatDoor
set_option linter.all false
set_option maxRecDepth 20000
set_option maxHeartbeats 8000000
open Go.RowKit
def O8 (w0:World) (M:Nat) (ls:List Bd) (l:List Tm) (most:Int) (n i:Value) (wr:World):Prop:=∃k:Nat,k<=l.length/\i=.int .i64 k/\n=.int .i64 (min (1+Ab (Am ls (l.take k))) (most+1))/\Below M w0 wr
theorem VG (ls:List Bd) (t:Tm):∀(u v:Value) (most:Int) (w:World) (X:Nat->Prop),BV w X u ls->TV w X v t->0<=most->most<=1000000->
  Calls Tryz.prog 45 #[u,v,.int .i64 most] w λe w'=>e=.returned (.int .i64 (min (Ab [Ag ls t]) (most+1)))/\Below w.heap.size w w':=by
 induction t using Tm.ind with
 |h s l ih=>
  intro u v most w X hu hv ak ao
  obtain⟨a,c,rfl,hs⟩:=hv
  have IH:=Aa ih
  have HU:=Aa hu
  have HS:=Aa hs
  have hl:=hs.1
  clear ih hu hs
  go_enter Tryz.func45,Tryz.ntmps45
  go_wp2_with fail
  refine(Mb ls s u _ X (by exact HU.out.alloc _)).mono ?_
  rintro e w1 ⟨hb1,ae⟩
  have T1:=Aa ((Ac.new w #[.string s,.slice a l.length c] 29).below hb1 (by simp))
  have B1:=Aa (((Af w.heap.size w).alloc (Aj _) (.cells #[.string s,.slice a l.length c] 29)).trans (hb1.mono (by simp)))
  have aq:w.heap.size<w1.heap.size:=T1.out.lt
  clear hb1
  have t0:∀o,(w1.alloc o).cell? ⟨w.heap.size,0,none⟩=some (.string s):=λo=>(T1.out.alloc o).cell 0
  have t1:∀o,(w1.alloc o).cell? ⟨w.heap.size,1,none⟩=some (.slice a l.length c):=λo=>(T1.out.alloc o).cell 1
  rcases ae with ⟨x,ax,cx,hf,rfl,af⟩|⟨hf,rfl⟩
  ·by_cases ag:l=[]
   ·subst ag
    have HF:=Aa (Ik hf)
    have SX:=Aa af
    clear hf af
    go_wp2_with fail
    refine(Ie x _ most _ _ ⟨ax,cx,rfl,SX.out.later ((Af w1.heap.size w1).alloc (Aj _) _)⟩ ak ao).mono ?_
    rintro e w3 ⟨rfl,hb3⟩
    go_wp2_with fail
    go_ret
    exact⟨BG (by rw[HF.out]),(B1.out.alloc B1.out.size _).trans (hb3.mono (by have:=B1.out.size; simp; omega))⟩
   ·have HD:=Aa (Fv (l:=ls) (s:=s) (Ad ag))
    have av:((l.length:Int)==0)=false:=DL.2 (by have:=Fb.2 ag; omega)
    clear hf af
    go_wp2_with fail
    have T2:=Aa (T1.out.alloc (.cells #[.string x.name,.slice ax x.args.length cx] 29))
    have B2:=Aa (B1.out.alloc B1.out.size (.cells #[.string x.name,.slice ax x.args.length cx] 29))
    generalize w1.alloc (.cells #[.string x.name,.slice ax x.args.length cx] 29)=w2 at *
    clear t0 t1
    go_loopw [9,10] (λn i wr=>O8 w2 w2.heap.size ls l most n i wr) (λn i wr=>l.length-(intOf i).toNat)
    case atStart=>exact⟨0,AE _,rfl,by simp[Am,Ab]; omega,Af _ _⟩
    case round=>
     obtain⟨k,hk,rfl,rfl,hb⟩:=hrel
     have c0:wr.cell? ⟨w.heap.size,0,none⟩=some (.string s):=(T2.out.below hb T2.out.lt).cell 0
     have c1:wr.cell? ⟨w.heap.size,1,none⟩=some (.slice a l.length c):=(T2.out.below hb T2.out.lt).cell 1
     have hn:0<=((1:Int)+Ab (Am ls (l.take k))):=by omega
     have BW:=Aa (B2.out.trans (hb.mono B2.out.size))
     have HB:=Aa hb
     by_cases hlt:k<l.length
     ·obtain⟨b,o,a',c',rfl,d0,d1,hx⟩:=HS.out.get BW.out (λ_ _ h=>h) k hlt
      by_cases hle:1+(Ab (Am ls (l.take k)):Int)<=most
      ·have aa:min (1+(Ab (Am ls (l.take k)):Int)) (most+1)=1+(Ab (Am ls (l.take k)):Int):=by omega
       rw[aa]
       go_wp2_with fail
       refine(IH.out _ (AV hlt) _ _ _ _ X (HU.out.later BW.out) hx (by omega) (by omega)).mono ?_
       rintro e w3 ⟨rfl,hb3⟩
       have ah:=Aa (NO ls l k hlt)
       have ar:0<=min ((Ab [Ag ls l[k]]:Int)) (most-(1+(Ab (Am ls (l.take k)):Int))+1):=by omega
       have au:min ((Ab [Ag ls l[k]]:Int)) (most-(1+(Ab (Am ls (l.take k)):Int))+1)<=1000001:=by omega
       go_wp2_with fail
       go_roundw
       case rel=>exact⟨k+1,by omega,by go_num,by rw[ah.out]; congr 1; omega,hb.trans (hb3.mono hb.size)⟩
       case measure=>simp[intOf]; omega
      ·have aa:min (1+(Ab (Am ls (l.take k)):Int)) (most+1)=most+1:=by omega
       rw[aa]
       have hz:(Ab [(⟨s,Am ls l⟩:Tm)]:Int)=1+Ab (Am ls l):=by simp[Ab]
       have ai:=NP ls l k
       have HF:=Aa (show(most+1:Int)=min (Ab [(⟨s,Am ls l⟩:Tm)]:Int) (most+1) by omega)
       clear hz
       go_wp2_with fail
       go_ret
       exact⟨BG (by rw[HD.out]; exact HF.out),BW.out⟩
     ·have aj:l.take k=l:=AW (by omega)
      rw[aj]
      have hz:(Ab [(⟨s,Am ls l⟩:Tm)]:Int)=1+Ab (Am ls l):=by simp[Ab]
      have HZ:=Aa hz
      clear hz
      go_wp2_with fail
      all_goals (go_ret; exact⟨BG (by rw[HD.out]; have:=HZ.out; omega),BW.out⟩)
  ·have HD:Hid (Ag ls ⟨s,l⟩=⟨s,Am ls l⟩):=Fv (Ae hf)
   clear hf
   go_wp2_with fail
   have T2:=Aa (T1.out.alloc (.cells #[.string ⟨#[]⟩,.slice none 0 0] 29))
   have B2:=Aa (B1.out.alloc B1.out.size (.cells #[.string ⟨#[]⟩,.slice none 0 0] 29))
   generalize w1.alloc (.cells #[.string ⟨#[]⟩,.slice none 0 0] 29)=w2 at *
   clear t0 t1
   go_loopw [9,10] (λn i wr=>O8 w2 w2.heap.size ls l most n i wr) (λn i wr=>l.length-(intOf i).toNat)
   case atStart=>exact⟨0,AE _,rfl,by simp[Am,Ab]; omega,Af _ _⟩
   case round=>
    obtain⟨k,hk,rfl,rfl,hb⟩:=hrel
    have c0:wr.cell? ⟨w.heap.size,0,none⟩=some (.string s):=(T2.out.below hb T2.out.lt).cell 0
    have c1:wr.cell? ⟨w.heap.size,1,none⟩=some (.slice a l.length c):=(T2.out.below hb T2.out.lt).cell 1
    have hn:0<=((1:Int)+Ab (Am ls (l.take k))):=by omega
    have BW:=Aa (B2.out.trans (hb.mono B2.out.size))
    have HB:=Aa hb
    by_cases hlt:k<l.length
    ·obtain⟨b,o,a',c',rfl,d0,d1,hx⟩:=HS.out.get BW.out (λ_ _ h=>h) k hlt
     by_cases hle:1+(Ab (Am ls (l.take k)):Int)<=most
     ·have aa:min (1+(Ab (Am ls (l.take k)):Int)) (most+1)=1+(Ab (Am ls (l.take k)):Int):=by omega
      rw[aa]
      go_wp2_with fail
      refine(IH.out _ (AV hlt) _ _ _ _ X (HU.out.later BW.out) hx (by omega) (by omega)).mono ?_
      rintro e w3 ⟨rfl,hb3⟩
      have ah:=Aa (NO ls l k hlt)
      have ar:0<=min ((Ab [Ag ls l[k]]:Int)) (most-(1+(Ab (Am ls (l.take k)):Int))+1):=by omega
      have au:min ((Ab [Ag ls l[k]]:Int)) (most-(1+(Ab (Am ls (l.take k)):Int))+1)<=1000001:=by omega
      go_wp2_with fail
      go_roundw
      case rel=>exact⟨k+1,by omega,by go_num,by rw[ah.out]; congr 1; omega,hb.trans (hb3.mono hb.size)⟩
      case measure=>simp[intOf]; omega
     ·have aa:min (1+(Ab (Am ls (l.take k)):Int)) (most+1)=most+1:=by omega
      rw[aa]
      have hz:(Ab [(⟨s,Am ls l⟩:Tm)]:Int)=1+Ab (Am ls l):=by simp[Ab]
      have ai:=NP ls l k
      have HF:=Aa (show(most+1:Int)=min (Ab [(⟨s,Am ls l⟩:Tm)]:Int) (most+1) by omega)
      clear hz
      go_wp2_with fail
      go_ret
      exact⟨BG (by rw[HD.out]; exact HF.out),BW.out⟩
    ·have aj:l.take k=l:=AW (by omega)
     rw[aj]
     have hz:(Ab [(⟨s,Am ls l⟩:Tm)]:Int)=1+Ab (Am ls l):=by simp[Ab]
     have HZ:=Aa hz
     clear hz
     go_wp2_with fail
     all_goals (go_ret; exact⟨BG (by rw[HD.out]; have:=HZ.out; omega),BW.out⟩)
def Iv (p:Pr):Bool:=decide (3000<Ab [p.l])||decide (3000<Ab [p.r])
def GU (l:List Pr):Bool:=l.any Iv
def Iw (ls:List Pr):Bool:=GU ls||decide (100<ls.length)
theorem VH {l:List Pr} {k:Nat} (h:k<l.length):GU (l.take (k+1))=(GU (l.take k)||Iv l[k]):=by
 unfold GU; rw[Bm h,He]; simp
theorem VI {l:List Pr} {k:Nat} (h:k<l.length) (h0:Iv l[k]=true):Iw l=true:=by
 have e:GU l=true:=by
  unfold GU
  rw[D7]
  exact⟨l[k],AV h,h0⟩
 unfold Iw
 rw[e]; rfl
def VJ (ls:List Pr) (w:World) (v:Value) (wr:World):Prop:=∃k:Nat,v=.int .i64 (k:Int)/\k<=ls.length/\GU (ls.take k)=false/\Below w.heap.size w wr
theorem VK (ls:List Pr) (u:Value) (w:World) (X:Nat->Prop) (hu:QV w X u ls):
  Calls Tryz.prog 4 #[u] w λe w'=>e=.returned (.bool (Iw ls))/\Below w.heap.size w w':=by
 have HU:=Aa (hu.mono (Y:=λb=>X b/\b<w.heap.size) λb h1 h2=>⟨h1,h2⟩)
 obtain⟨a,c,rfl,hl,af⟩:=hu
 clear af
 go_enter Tryz.func4,Tryz.ntmps4
 go_wp2_with fail
 go_loopw [3] (λv wr=>VJ ls w v wr) (λv wr=>ls.length-(intOf v).toNat)
 case atStart=>exact⟨0,rfl,AE _,rfl,Af _ _⟩
 case round=>
  obtain⟨k,rfl,hk,hT,hb⟩:=hrel
  have HB:=Aa hb
  have HT:=Aa hT
  clear hT
  by_cases hlt:k<ls.length
  ·obtain⟨b,o,a1,c1,a2,c2,rfl,d0,d1,d2,d3,hs1,hs2⟩:=(HU.out.later hb).get k hlt
   have ag:(k:Int)<(ls.length:Int):=by omega
   have ah:=Aa hs1
   have ai:=Aa hs2
   have HY:=Aa (VI hlt)
   have HN:=Aa (VH hlt)
   clear hs1 hs2 hb
   generalize ls[k]=d at *
   go_wp2_with fail
   refine(NL d.l _ _ _ ⟨a1,c1,rfl,ah.out⟩).mono ?_
   rintro e w1 ⟨rfl,hb1⟩
   have aa:=Aa (HB.out.trans (hb1.mono HB.out.size))
   have aj:=Aa (ai.out.later hb1)
   have ak:=cell_later hb1 d2
   have ao:=cell_later hb1 d3
   clear hb1
   cases hq:decide (3000<Ab [d.l]) with
   |true=>
    have HF:=Aa (HY.out (by unfold Iv; rw[hq]; rfl))
    clear hq
    go_wp2_with fail
    go_ret
    exact⟨BH HF.out.symm,aa.out⟩
   |false=>
    have HQ:=Aa hq
    clear hq
    go_wp2_with fail
    refine(NL d.r _ _ _ ⟨a2,c2,rfl,aj.out⟩).mono ?_
    rintro e w2 ⟨rfl,hb2⟩
    have ae:=Aa (aa.out.trans (hb2.mono aa.out.size))
    clear hb2
    cases hq:decide (3000<Ab [d.r]) with
    |true=>
     have HF:=Aa (HY.out (by unfold Iv; rw[hq]; simp))
     clear hq
     go_wp2_with fail
     go_ret
     exact⟨BH HF.out.symm,ae.out⟩
    |false=>
     have HF:Hid (GU (ls.take (k+1))=false):=by unfold Hid; rw[HN.out,HT.out]; unfold Iv; rw[HQ.out,hq]; rfl
     clear hq
     go_wp2_with fail
     go_roundw
     case rel=>exact⟨k+1,by go_num,by omega,HF.out,ae.out⟩
     case measure=>simp[intOf]; omega
  ·have HF:Hid (decide (100<ls.length)=Iw ls):=by
    have h:=HT.out
    rw[AW (by omega)]at h
    unfold Hid Iw
    rw[h]; rfl
   go_wp2_with fail
   go_ret
   exact⟨BH (by rw[<-HF.out,Fs]; simp; omega),HB.out⟩
def VL (ls:List Pr) (w:World) (v:Value) (wr:World):Prop:=∃k:Nat,v=.int .i64 (k:Int)/\k<=ls.length/\El ls k=0/\Below w.heap.size w wr
theorem O9 {a b:Tm} (h:Ay a≠0):CA a b=Ay a:=by unfold CA; rw[An h]
theorem VM {a b:Tm} (h:Ay a=0):CA a b=Ay b:=by unfold CA; rw[As h]
theorem Pa (ls:List Pr) (u:Value) (w:World) (X:Nat->Prop) (hu:QV w X u ls):
  Calls Tryz.prog 60 #[u] w λe w'=>e=.returned (.int .i64 (Ck ls))/\Below w.heap.size w w':=by
 have HU:=Aa (hu.mono (Y:=λb=>X b/\b<w.heap.size) λb h1 h2=>⟨h1,h2⟩)
 obtain⟨a,c,rfl,hl,ai⟩:=hu
 clear ai
 go_enter Tryz.func60,Tryz.ntmps60
 by_cases ae:40<ls.length
 ·go_wp2_with fail
  go_ret
  exact⟨BG (by unfold Ck; rw[As ae]),Af _ _⟩
 ·go_wp2_with fail
  go_loopw [12] (λv wr=>VL ls w v wr) (λv wr=>ls.length-(intOf v).toNat)
  case atStart=>exact⟨0,rfl,AE _,rfl,Af _ _⟩
  case round=>
   obtain⟨k,rfl,hk,hT,hb⟩:=hrel
   have HB:=Aa hb
   have HT:=Aa hT
   clear hT
   by_cases hlt:k<ls.length
   ·obtain⟨b,o,a1,c1,a2,c2,rfl,d0,d1,d2,d3,hs1,hs2⟩:=(HU.out.later hb).get k hlt
    have aj:(k:Int)<(ls.length:Int):=by omega
    have aa:Below wr.heap.size wr (wr.alloc (.cells #[.string ls[k].l.name,.slice a1 ls[k].l.args.length c1,.string ls[k].r.name,.slice a2 ls[k].r.args.length c2] 31)):=(Af _ _).alloc (Aj _) _
    have ak:=Aa (hs1.later aa)
    have ao:=Aa (hs2.later aa)
    have P1:=Aa (Ac.new wr #[.string ls[k].l.name,.slice a1 ls[k].l.args.length c1,.string ls[k].r.name,.slice a2 ls[k].r.args.length c2] 31)
    have ag:=Aa (hb.trans (aa.mono hb.size))
    have HY:=Aa (Up hlt ae HT.out)
    have HN:=Aa (LH hlt HT.out)
    clear hs1 hs2 hb aa
    generalize ls[k]=d at *
    go_wp2_with fail
    generalize wr.alloc (.cells #[.string d.l.name,.slice a1 d.l.args.length c1,.string d.r.name,.slice a2 d.r.args.length c2] 31)=w1 at *
    generalize wr.heap.size=P at *
    refine(J0 d.l _ _ _ ⟨a1,c1,rfl,ak.out⟩).mono ?_
    rintro e w2 ⟨rfl,hb2⟩
    have aq:=Aa (ao.out.later hb2)
    have af:=Aa (ag.out.trans (hb2.mono ag.out.size))
    have p2:=cell_later hb2 (P1.out.cell 2)
    have p3:=cell_later hb2 (P1.out.cell 3)
    clear hb2
    by_cases hm:Ay d.l=0
    ·have HM:=Aa (VM (b:=d.r) hm)
     rw[hm]
     clear hm
     go_wp2_with fail
     refine(J0 d.r _ _ _ ⟨a2,c2,rfl,aq.out⟩).mono ?_
     rintro e w3 ⟨rfl,hb3⟩
     have ah:=Aa (af.out.trans (hb3.mono af.out.size))
     clear hb3
     by_cases hm:Ay d.r=0
     ·have HF:Hid (El ls (k+1)=0):=by unfold Hid; rw[HN.out,HM.out,hm]
      rw[hm]
      clear hm
      go_wp2_with fail
      go_roundw
      case rel=>exact⟨k+1,by go_num,by omega,HF.out,ah.out⟩
      case measure=>simp[intOf]; omega
     ·have ar:(Ay d.r==0)=false:=by simpa using hm
      have HF:Hid (Ck ls=Ay d.r):=by unfold Hid; rw[HY.out (by rw[HM.out]; exact hm),HM.out]
      clear hm
      go_wp2_with fail
      go_ret
      exact⟨BG HF.out.symm,ah.out⟩
    ·have ar:(Ay d.l==0)=false:=by simpa using hm
     have HF:Hid (Ck ls=Ay d.l):=by unfold Hid; rw[HY.out (by rw[O9 hm]; exact hm),O9 hm]
     clear hm
     go_wp2_with fail
     go_ret
     exact⟨BG HF.out.symm,af.out⟩
   ·have au:k=ls.length:=by omega
    go_wp2_with fail
    go_ret
    exact⟨BG (by unfold Ck; rw[An ae,<-au]; exact HT.out.symm),HB.out⟩
def Pb (ls:List Pr) (w:World) (v:Value) (wr:World):Prop:=∃k:Nat,v=.int .i64 (k:Int)/\k<=ls.length/\Eo ls k=0/\Below w.heap.size w wr
theorem CC {t:Tm} (h:Ay t=0):Ab [t]<=200:=by
 unfold Ay at h
 split at h
 ·exact absurd h (by decide)
 ·omega
theorem VN {l:List ByteArray} {f:ByteArray->Bool} {k:Nat} (h:k<l.length) (h0:(l.take k).all f=true) (h1:f l[k]=true):(l.take (k+1)).all f=true:=by
 rw[Bm h,List.all_append,h0]
 simpa using h1
theorem VO (ls:List Pr) (u:Value) (w:World) (X:Nat->Prop) (hu:QV w X u ls):
  Calls Tryz.prog 5 #[u] w λe w'=>e=.returned (.int .i64 (Cg ls))/\Below w.heap.size w w':=by
 have HU:=Aa (hu.mono (Y:=λb=>X b/\b<w.heap.size) λb h1 h2=>⟨h1,h2⟩)
 obtain⟨a,c,rfl,hl,aB⟩:=hu
 clear aB
 go_enter Tryz.func5,Tryz.ntmps5
 by_cases aj:40<ls.length
 ·go_wp2_with fail
  go_ret
  exact⟨BG (by unfold Cg; rw[As aj]),Af _ _⟩
 go_wp2_with fail
 go_loopw [3] (λv wr=>Pb ls w v wr) (λv wr=>ls.length-(intOf v).toNat)
 case atStart=>exact⟨0,rfl,AE _,rfl,Af _ _⟩
 case round=>
  obtain⟨k,rfl,hk,hT,hb⟩:=hrel
  have HB:=Aa hb
  have HT:=Aa hT
  clear hT
  by_cases hlt:k<ls.length
  ·obtain⟨b,o,a1,c1,a2,c2,rfl,d0,d1,d2,d3,hs1,hs2⟩:=(HU.out.later hb).get k hlt
   have aC:(k:Int)<(ls.length:Int):=by omega
   have au:=Aa hs1
   have av:=Aa hs2
   have HY:=Aa (ON hlt aj HT.out)
   have HN:=Aa (Kf hlt HT.out)
   clear hs1 hs2 hb
   generalize ls[k]=d at *
   go_wp2_with fail
   have aw:=Aa (And.intro d0 (And.intro d1 (And.intro d2 d3)))
   have TM:Hid (∀w',Below wr.heap.size wr w'->Calls Tryz.prog 13 #[.agg #[.string d.l.name,.slice a1 d.l.args.length c1],.agg #[.string d.r.name,.slice a2 d.r.args.length c2]] w' λe w''=>e=.returned (.int .i64 (CA d.l d.r))/\Below wr.heap.size wr w''/\w''.cell? ⟨b,o+k*4,none⟩=some (.string d.l.name)/\w''.cell? ⟨b,o+k*4+1,none⟩=some (.slice a1 d.l.args.length c1)/\w''.cell? ⟨b,o+k*4+2,none⟩=some (.string d.r.name)/\w''.cell? ⟨b,o+k*4+3,none⟩=some (.slice a2 d.r.args.length c2)):=λw' hb=>by
    refine(Uo d.l d.r _ _ w' _ ⟨_,_,rfl,au.out.later hb⟩ ⟨_,_,rfl,av.out.later hb⟩).mono ?_
    rintro e w'' ⟨rfl,hb2⟩
    have hb3:=hb.trans (hb2.mono hb.size)
    exact⟨rfl,hb3,cell_later hb3 d0,cell_later hb3 d1,cell_later hb3 d2,cell_later hb3 d3⟩
   go_region_held3 (λw'=>w'.cell? ⟨b,o+k*4,none⟩=some (.string d.l.name)/\w'.cell? ⟨b,o+k*4+1,none⟩=some (.slice a1 d.l.args.length c1)/\w'.cell? ⟨b,o+k*4+2,none⟩=some (.string d.r.name)/\w'.cell? ⟨b,o+k*4+3,none⟩=some (.slice a2 d.r.args.length c2)) (first|exact hS|exact aw.out|go_keep)
    (first
     | (go_at_call 13; refine(TM.out _ (by first|exact Af _ _|exact(Af _ _).drew)).mono ?_; rintro e w5 ⟨rfl,ax,hS⟩))
   have aa:=Aa ax
   have ag:=Aa hS
   clear ax hS TM aw d0 d1 d2 d3
   by_cases hm:CA d.l d.r=0
   ·have HM:Hid (Ay d.l=0/\Ay d.r=0):=by
     unfold CA at hm
     split at hm
     ·rename_i h; exact⟨h,hm⟩
     ·rename_i h; exact absurd hm h
    have ak:Hid (Bt d=if Ak d.l.name=true then 2 else if (At [] (Ao [d.r])).all (λn=>AF n (At [] (Ao [d.l])))=true then 0 else 15):=by unfold Hid Bt; rw[As hm]
    rw[hm]
    clear hm
    obtain⟨d0,d1,d2,d3⟩:=ag.out
    go_wp2_with fail
    refine(Du _ _).mono ?_
    rintro e w6 ⟨rfl,ay⟩
    rw[ay]
    clear ay w6
    cases hv:Ak d.l.name with
    |true=>
     have HE:Hid (2=Cg ls):=by
      have h1:=ak.out
      rw[As hv]at h1
      have h2:=HY.out (by rw[h1]; decide)
      unfold Hid
      rw[h2,h1]
     clear hv
     go_wp2_with fail
     go_ret
     exact⟨BG HE.out,HB.out.trans (aa.out.mono HB.out.size)⟩
    |false=>
     have az:Hid (Bt d=if (At [] (Ao [d.r])).all (λn=>AF n (At [] (Ao [d.l])))=true then 0 else 15):=by
      have h1:=ak.out
      rw[An (by rw[hv]; decide)]at h1
      exact h1
     clear hv ak
     go_wp2_with fail
     refine(Ip d.l _ _ _ ⟨_,_,rfl,au.out.later aa.out⟩ (by have:=CC HM.out.1; omega)).mono ?_
     rintro e w6 ⟨v6,rfl,ae,ah⟩
     have ao:=Aa (aa.out.trans (ah.mono aa.out.size))
     have L6:=Aa (ae.mono (Y:=λ_=>True) λ_ _ _=>trivial)
     clear ae d0 d1 d2 d3
     have d2:w6.cell? ⟨b,o+k*4+2,none⟩=some (.string d.r.name):=cell_later ah ag.out.2.2.1
     have d3:w6.cell? ⟨b,o+k*4+3,none⟩=some (.slice a2 d.r.args.length c2):=cell_later ah ag.out.2.2.2
     clear ah
     go_wp2_with fail
     refine(Ip d.r _ _ _ ⟨_,_,rfl,av.out.later ao.out⟩ (by have:=CC HM.out.2; omega)).mono ?_
     rintro e w7 ⟨v7,rfl,aq,ar⟩
     have a6:=Aa (HB.out.trans ((ao.out.trans (ar.mono ao.out.size)).mono HB.out.size))
     have aD:=Aa (L6.out.later ar)
     clear ar d2 d3 L6 ag
     generalize At [] (Ao [d.l])=lh at *
     generalize At [] (Ao [d.r])=lr at *
     obtain⟨a7,c7,rfl,⟨aL,aF⟩,h7⟩:=aq
     go_wp2_with fail
     go_loop [7] (λi=>∃j:Nat,j<=lr.length/\i=.int .i64 j/\Hid ((lr.take j).all (λn=>AF n lh)=true)) (λi=>lr.length-(intOf i).toNat)
     case atStart=>exact⟨0,AE _,rfl,by unfold Hid; simp⟩
     case round=>
      obtain⟨j,hj,rfl,HA⟩:=hrel
      by_cases af:j<lr.length
      ·obtain⟨b7,o7,rfl,_,a8⟩:=h7.resolve_left (λh=>by rw[h] at af; simp at af)
       have e7:=a8 j af
       have aG:(j:Int)<(lr.length:Int):=by omega
       clear a8
       have aH:=Aa (VN (f:=λn=>AF n lh) af HA.out)
       have aI:Hid (AF lr[j] lh=false->lr.all (λn=>AF n lh)=false):=λh=>by
        rw[I4]
        intro h2
        have h3:=G8.1 h2 _ (AV af)
        rw[h]at h3
        cases h3
       generalize lr[j]=nm at *
       go_wp2_with fail
       refine(Hl nm lh _ _ (λ_=>True) (by exact aD.out)).mono ?_
       rintro e w8 ⟨rfl,aA⟩
       rw[aA]
       clear aA w8
       cases ai:AF nm lh with
       |true=>
        have aJ:=Aa (aH.out ai)
        clear ai
        go_wp2_with fail
        go_round
        case rel=>exact⟨j+1,by omega,by go_num,aJ⟩
        case measure=>simp[intOf]; omega
       |false=>
        have HE:Hid (15=Cg ls):=by
         have h1:=az.out
         rw[aI.out ai,An (by decide)]at h1
         have h2:=HY.out (by rw[h1]; decide)
         unfold Hid
         rw[h2,h1]
        clear ai
        go_wp2_with fail
        go_ret
        exact⟨BG HE.out,a6.out⟩
      ·have HZ:Hid (Eo ls (k+1)=0):=by
        have h1:=az.out
        have h2:=HA.out
        rw[AW (by omega)]at h2
        rw[h2,As rfl]at h1
        unfold Hid
        rw[HN.out,h1]
       go_wp2_with fail
       go_roundw
       case rel=>exact⟨k+1,by go_num,by omega,HZ.out,a6.out⟩
       case measure=>simp[intOf]; omega
   ·have aM:(CA d.l d.r==0)=false:=by simpa using hm
    have HE:Hid (CA d.l d.r=Cg ls):=by
     have h1:Bt d=CA d.l d.r:=by unfold Bt; rw[An hm]
     have h2:=HY.out (by rw[h1]; exact hm)
     unfold Hid
     rw[h2,h1]
    clear hm
    go_wp2_with fail
    go_ret
    exact⟨BG HE.out,HB.out.trans (aa.out.mono HB.out.size)⟩
  ·have aK:k=ls.length:=by omega
   go_wp2_with fail
   go_ret
   exact⟨BG (by unfold Cg; rw[An aj,<-aK]; exact HT.out.symm),HB.out⟩
theorem Pd {w:World} {b b' e z n:Nat} {v:Value} {xs:List Value} (h:w.ownsRow b e z v n xs) (hb:b'<=b):w.ownsRow b' e z v n xs:=by
 obtain⟨h1,h2⟩:=h
 exact⟨h1,h2.imp id λ⟨g,cap,cur,h3,h4,h5⟩=>⟨g,cap,cur,h3,AX hb h4,h5⟩⟩
def Eq (w0:World) (N:Nat) (q0:Value) (ps:List (List Int)) (q:Value) (xs:List Value) (wr:World):Prop:=
 wr.ownsRow N 56 1 q ps.length xs/\Db wr (λb=>N<=b/\some b≠q.ownBlock) ps xs/\w0.grownBy wr q0.ownBlock/\(∀k,q.ownBlock=some k->q0.ownBlock=some k∨w0.heap.size<=k)
theorem PV.grownBy {w w':World} {Z:Nat->Prop} {u:Value} {z:List Int} {r:Option Nat} (h:PV w Z u z) (hg:w.grownBy w' r) (hZ:∀b,Z b->some b≠r):PV w' Z u z:=by
 have h1:PV w (λb=>Z b/\b<w.heap.size) u z:=h.mono λb h1 h2=>⟨h1,h2⟩
 have h2:PV w' (λb=>Z b/\b<w.heap.size) u z:=h1.kept λb hx=>hg.block b hx.2 (hZ b hx.1)
 exact h2.mono λb hx _=>hx.1
theorem Eq.push {w0 wr w1:World} {N:Nat} {q0 q:Value} {ps:List (List Int)} {xs:List Value} (h:Eq w0 N q0 ps q xs wr) (hN:N<=wr.heap.size) (hb:Below wr.heap.size wr w1) {u:Value} {z:List Int} (hu:PV w1 (λb=>wr.heap.size<=b) u z) (hn:ps.length<=1000000) (A:Nat) (hA:w1.heap.size=A):
  ∃q' w3,(Builtin.append_ #[52,52] 52 #[q,.slice (some ⟨A,0,none⟩) 1 1]).run Tryz.prog (w1.alloc (.cells #[u] 56))=.ok q' w3/\Eq w0 N q0 (ps++[z]) q' (xs++[u]) w3:=by
 subst hA
 obtain⟨i0,hi,hz0,hz1,hz2⟩:=CT Tryz.infoInts
 obtain⟨hown,hrow,ae,hat⟩:=h
 have hlt:=hown.lt
 have hs1:=hb.size
 have hown1:w1.ownsRow N 56 1 q ps.length xs:=hown.kept (w':=w1) (row:=none) ⟨hb.os,hb.tape,hb.output,hb.size,λj hj _=>hb.block j hj⟩ (by rcases F9 (Value.ownBlock q) with h|⟨x,h⟩; exact Ad h; exact Ae (by rw[h]; simp))
 obtain⟨g,cap,w3,hr,ho,hg,aa,af⟩:=run_append_lies (P:=Tryz.prog) (w:=w1.alloc (.cells #[u] 56)) 52 52 N 56 i0 _ 1 24 Tryz.underlying52 hi hz0 hz1 hz2 rfl (by decide) q ps.length xs (hown1.alloc _)
  ⟨w1.heap.size,0,none⟩ 1 1 [u] rfl (cell_one_new _ _ _) (λx hx=>by simp at hx; subst hx; exact hu.one) (by decide) (by unfold maxLen; omega) (by omega) (by simp; omega) _ rfl
 have ag:N<=g:=by
  rcases aa with e|e
  ·exact(hlt g e).1
  ·simp at e; omega
 refine⟨_,w3,hr,by simpa using ho,?_,?_,λk hk=>?_⟩
 ·refine Db.append (hrow.imp λu' z' hp=>?_) ?_
  ·have h1:PV wr (λb=>(N<=b/\some b≠q.ownBlock)/\b<wr.heap.size) u' z':=hp.mono λb h1 h2=>⟨h1,h2⟩
   have h2:PV w3 (λb=>(N<=b/\some b≠q.ownBlock)/\b<wr.heap.size) u' z':=h1.kept λb hx=>by
    rw[hg.block b (by simp; omega) hx.1.2,AP _ _ _ (by omega),hb.block b hx.2]
   refine h2.mono λb hx _=>⟨hx.1.1,λe=>?_⟩
   simp[Value.ownBlock]at e
   rcases aa with e'|e'
   ·exact hx.1.2 (by rw[e',e])
   ·simp at e'; omega
  ·refine⟨u,[],rfl,?_,rfl⟩
   have h1:PV w1 (λb=>wr.heap.size<=b/\b<w1.heap.size) u z:=hu.mono λb h1 h2=>⟨h1,h2⟩
   have h2:PV w3 (λb=>wr.heap.size<=b/\b<w1.heap.size) u z:=h1.kept λb hx=>by
    rw[hg.block b (by simp; omega) (λe=>by have:=(hlt b e.symm).2; omega),AP _ _ _ hx.2]
   refine h2.mono λb hx _=>⟨by omega,λe=>?_⟩
   simp[Value.ownBlock]at e
   rcases aa with e'|e'
   ·have:=(hlt g e').2; omega
   ·simp at e'; omega
 ·exact GM (GM ae (Gk hb q.ownBlock) hat) (GM (Gk ((Af _ _).alloc (Aj _) (.cells #[u] 56)) q.ownBlock) hg (λk hk=>Ad hk)) hat
 ·simp[Value.ownBlock]at hk
  subst hk
  rcases aa with e|e
  ·exact hat _ e
  ·right; simp at e; have:=ae.size; omega
theorem VP {W:World} {Z:Nat->Prop} {u:Value} {z:List Int} (h:PV W Z u z) (i:Int) (F:Nat) (hF:W.heap[F]? = some (.cells #[.int .i64 i] 3 (0,0))) (hn:z.length<=1000000):
  ∃q w2,(Builtin.append_ #[56,56] 56 #[.slice (some ⟨F,0,none⟩) 1 1,u]).run Tryz.prog W=.ok q w2/\PV w2 (λb=>b=F∨W.heap.size<=b) q (i::z)/\Below W.heap.size W w2:=by
 obtain⟨i0,hi,hz0,hz1,hz2⟩:=CT Tryz.infoInt
 have aa:=Vg h
 rw[<-hz1]at aa
 have ag:F<W.heap.size:=by
  apply G7
  intro hn
  rw[I2 (by omega)]at hF; cases hF
 have ae:W.cell? ⟨F,0,none⟩=some (.int .i64 i):=by simp[World.cell?,hF]
 by_cases h0:z=[]
 ·subst h0
  have hg:=run_append_room_src (P:=Tryz.prog) W 56 56 56 3 i0 Tryz.underlying56 hi F 0 1 1 u 0 [] aa (by omega) (by simp) (by simp)
  refine⟨_,_,hg,⟨_,_,rfl,by simp,Ae ⟨F,0,rfl,Ad rfl,λj hj=>?_⟩⟩,?_⟩
  ·simp at hj; subst hj; simpa [World.setCells] using ae
  ·simpa [World.setCells] using Af W.heap.size W
 ·have ah:=Fb.2 h0
  have af:=run_firstCells_some (P:=Tryz.prog) W.drew i0.size 1 ⟨F,0,none⟩ 1 1 [.int .i64 i] (by rw[hz1]; rfl) (λj v hj=>by
   match j,hj with
   |0,hj=>simp at hj; subst hj; simpa [Addr.add] using ae)
  have hg:=run_append_grow_src (P:=Tryz.prog) W 56 56 56 3 i0 (.int .i64 0) Tryz.underlying56 hi hz0 (some ⟨F,0,none⟩) 1 1 [.int .i64 i] af u z.length _ aa (by omega) (by omega) (by rw[hz2]; exact growslice_fits (by omega) (by omega))
  have ai:=grownCap_ge W (1+z.length) 1 3
  have aj:=grownCap_le_maxLen W (1+z.length) 1 3 (by unfold maxLen; omega)
  refine⟨_,_,hg,⟨some ⟨W.heap.size,0,none⟩,grownCap W (1+z.length) 1 3,by rw[Bs,Nat.add_comm],⟨by simp; omega,by simp; omega⟩,Ae ⟨W.heap.size,0,rfl,Ae (Aj _),λj hj=>?_⟩⟩,?_⟩
  ·have hb:=EZ W.drew (.cells (([Value.int .i64 i]++z.map λx=>Value.int .i64 x).toArray++Builtin.zeroCells (Value.int .i64 0).cells (grownCap W (1+z.length) 1 3-(1+z.length))) 3)
   have hb':(W.drew.alloc (.cells (([Value.int .i64 i]++z.map λx=>Value.int .i64 x).toArray++Builtin.zeroCells (Value.int .i64 0).cells (grownCap W (1+z.length) 1 3-(1+z.length))) 3)).heap[W.heap.size]? = _:=hb
   rw[Lib.cell_of_heap hb',Ey,Array.getElem?_append_left (by simp at hj ⊢; omega)]
   simp at hj
   cases j with
   |zero=>simp
   |succ j=>simp
  ·exact((Af W.heap.size W).drew).alloc (Aj _) _
def VQ (w1:World) (N:Nat) (q1:Value) (ps:List (List Int)) (i:Nat) (ls:List (List Int)) (q j:Value) (wr:World):Prop:=
 ∃(k:Nat) (xs:List Value),k<=ls.length/\j=.int .i64 k/\Eq w1 N q1 (ps++(ls.take k).map λp=>(i:Int)::p) q xs wr
def VR (w0:World) (N:Nat) (l:List Tm) (q i:Value) (wr:World):Prop:=
 ∃(k:Nat) (xs:List Value),k<=l.length/\i=.int .i64 k/\Eq w0 N (.slice none 0 0) ([]::Ca 0 (l.take k)) q xs wr
theorem Eq.mono {w0 w1 wr:World} {N:Nat} {q0 q1 q:Value} {ps aa:List (List Int)} {xs ae:List Value} (h:Eq w0 N q0 aa q1 ae w1) (h1:Eq w1 N q1 ps q xs wr):Eq w0 N q0 ps q xs wr:=by
 refine⟨h1.1,h1.2.1,GM h.2.2.1 h1.2.2.1 h.2.2.2,λk hk=>?_⟩
 rcases h1.2.2.2 k hk with e|e
 ·exact h.2.2.2 k e
 ·exact Ae (AX h.2.2.1.size e)
theorem Eq.later {w0 w1 w2:World} {N:Nat} {q0 q:Value} {ps:List (List Int)} {xs:List Value} (h:Eq w0 N q0 ps q xs w1) (hb:Below w1.heap.size w1 w2):Eq w0 N q0 ps q xs w2:=
 ⟨h.1.kept (w' := w2) (row := none) ⟨hb.os, hb.tape, hb.output, hb.size, λj hj _ => hb.block j hj⟩ (by rcases F9 (Value.ownBlock q) with h | ⟨x, h⟩; exact Ad h; exact Ae (by rw [h]; simp)),
  h.2.1.imp λu z hp=>hp.later hb,GM h.2.2.1 (Gk hb q.ownBlock) h.2.2.2,h.2.2.2⟩
theorem Eq.here {w1:World} {N:Nat} {q0 q:Value} {ps:List (List Int)} {xs:List Value} {w0:World} (h:Eq w0 N q0 ps q xs w1):Eq w1 N q ps q xs w1:=⟨h.1,h.2.1,Gk (Af _ _) _,λ_ h=>Ad h⟩
theorem Pe (t:Tm):∀(v:Value) (w:World) (X:Nat->Prop),TV w X v t->Ab [t]<=900000->
  Calls Tryz.prog 26 #[v] w λe w'=>∃v' xs,e=.returned v'/\w'.ownsRow w.heap.size 56 1 v' (Bq t).length xs/\Db w' (λb=>w.heap.size<=b/\some b≠v'.ownBlock) (Bq t) xs/\Below w.heap.size w w':=by
 induction t using Tm.ind with
 |h s l ih=>
  intro v w X0 hv0 hsm
  obtain⟨X,hX,hv⟩:∃X:Nat->Prop,(∀b,X b->b<w.heap.size)/\TV w X v ⟨s,l⟩:=⟨λb=>X0 b/\b<w.heap.size,λ_ h=>h.2,hv0.mono λb h1 h2=>⟨h1,h2⟩⟩
  clear hv0
  obtain⟨a,c,rfl,hs⟩:=hv
  have IH:=Aa ih
  clear ih
  have hl:=hs.1
  have hz:Ab [(⟨s,l⟩:Tm)]=1+Ab l:=by simp[Ab]
  rw[hz]at hsm
  clear hz
  go_enter Tryz.func26,Tryz.ntmps26
  go_wp2_with fail
  go_loopw [3,4] (λq i wr=>VR (w.alloc (Obj.cells #[Value.string s,Value.slice a l.length c] 29)) (w.heap.size+1) l q i wr) (λq i wr=>l.length-(intOf i).toNat)
  case atStart=>
   refine⟨0,[.slice none 0 0],AE _,rfl,⟨by simp[Ca],Ae ⟨w.heap.size+1,1,#[.slice none 0 0],by simp[Ca],Aj _,?_,by simp[Ca],by decide,by simp,by simp[Ca]⟩⟩,⟨_,[],rfl,⟨none,0,rfl,by simp,Ad rfl⟩,by simp[Ca,Db]⟩,Gk ((Af _ _).alloc (Aj _) _) _,λk hk=>?_⟩
   ·have:=EZ (w.alloc (Obj.cells #[Value.string s,Value.slice a l.length c] 29)) (Obj.cells #[Value.slice none 0 0] 56)
    simpa using this
   ·simp[Value.ownBlock]at hk; right; simp; omega
  case round=>
   obtain⟨k,xs,hk,rfl,hout⟩:=hrel
   have ag:=Aa hout
   have K0:=Aa ((Ac.new w #[.string s,.slice a l.length c] 29).grown hout.2.2.1 (by simp[Value.ownBlock]))
   have c1:=K0.out.c1
   have ar:w.heap.size+1<=wr.heap.size:=by have:=hout.2.2.1.size; simpa using this
   have au:Below w.heap.size w wr:=((Af w.heap.size w).alloc (Aj _) (.cells #[.string s,.slice a l.length c] 29)).trans ⟨hout.2.2.1.os,hout.2.2.1.tape,hout.2.2.1.output,hout.2.2.1.size,λj hj=>hout.2.2.1.block j (by simp; omega) (by simp[Value.ownBlock])⟩
   have aJ:=Aa au
   clear hout
   by_cases hlt:k<l.length
   ·obtain⟨b,o,a',c',rfl,d0,d1,hx⟩:=hs.get au (λ_ _ h=>h) k hlt
    have hst:=C4 l k hlt
    have av:=C5 l (k+1)
    have HT:=Aa (Vd l k hlt)
    have HX:=Aa hx
    have aw:Ab [l[k]]<=900000:=by omega
    have aV:(([]:List Int)::Ca 0 (l.take k)).length+Ab [l[k]]<=1000000:=by simp[OH]; omega
    clear au hx hst av
    go_wp2_with fail
    refine(IH.out _ (AV hlt) _ _ X (by exact HX.out) aw).mono ?_
    rintro e w1 ⟨v1,ys,rfl,hown1,ae,hb1⟩
    have aK:0<(Bq l[k]).length:=by simp[Bq]
    obtain⟨g1,aL,rfl,aM,ax,ah⟩:=EA hown1 aK
    have aB:∀p∈Bq l[k],p.length<=1000000:=λp hp=>by
     unfold Bq at hp
     rcases BE.1 hp with rfl|hp
     ·simp
     ·have h1:=Ve _ _ p hp
      generalize l[k]=tk at *
      obtain⟨s',l'⟩:=tk
      have:Ab [(⟨s',l'⟩:Tm)]=1+Ab l':=by simp[Ab]
      simp only at h1
      omega
    have aN:=Aa aB
    have ai:=Aa ae
    have ay:=Aa ah
    have aW:=Aa hb1
    have af:=Aa (ag.out.later hb1)
    have aO:=L2 l[k]
    have aP:Hid (w.heap.size+1<=w1.heap.size):=AX ar hb1.size
    have aC:Hid (∀b,wr.heap.size<=b->some b≠Value.ownBlock u3):=λb hb e=>by have:=(ag.out.1.lt b e.symm).2; omega
    generalize az:Bq l[k]=ls at *
    have aQ:(([]:List Int)::Ca 0 (l.take k)).length+ls.length<=1000000:=by omega
    generalize aX:wr.heap.size=n0 at *
    clear hown1 ae ah hb1 az aB aO
    go_wp2_with fail
    go_loopw [3,6] (λq j wr2=>VQ w1 (w.heap.size+1) u3 ([]::Ca 0 (l.take k)) k ls q j wr2) (λq j wr2=>ls.length-(intOf j).toNat)
    case atStart=>exact⟨0,_,AE _,rfl,by simpa using af.out.here⟩
    case round=>
     obtain⟨m,aY,hm,rfl,aa⟩:=hrel
     have ao:=Aa aa
     have a6:=aa.2.2.1.size
     clear aa
     by_cases a7:m<ls.length
     ·obtain⟨u,aD,aF⟩:=ai.out.get m a7
      have e1:∀o,(wr.alloc o).cell? ⟨g1,m,none⟩=some u:=λo=>by
       have h1:=ay.out m u aD
       have h2:=ao.out.2.2.1.block g1 ax (aC.out g1 aM)
       have h3:(wr.alloc o).heap[g1]? = w1.heap[g1]? := by rw[AP _ _ _ (by omega),h2]
       simpa [World.cell?,h3] using h1
      have aG:=PV.grownBy aF ao.out.2.2.1 (λb hb=>aC.out b hb.1)
      obtain⟨q2,w2,hr2,a8,aj⟩:=VP (aG.later ((Af _ _).alloc (Aj _) (.cells #[.int .i64 (k:Int)] 3))) (k:Int) wr.heap.size (by simpa using EZ wr (.cells #[.int .i64 (k:Int)] 3)) (aN.out _ (AV a7))
      obtain⟨aq,cq,rfl,-⟩:∃aq cq,q2=.slice aq (ls[m].length+1) cq/\True:=by obtain⟨aq,cq,h,_⟩:=a8; exact⟨aq,cq,by simpa using h,trivial⟩
      have ak:Below wr.heap.size wr w2:=((Af _ _).alloc (Aj _) _).trans (aj.mono (by simp))
      have aH:((([]:List Int)::Ca 0 (l.take k))++(ls.take m).map λp=>(k:Int)::p).length<=1000000:=by
       rw[Dm,DZ,Hh]; omega
      obtain⟨q3,w3,hr3,aI⟩:=Eq.push ao.out (AX aP.out a6) ak (a8.mono λb hb _=>by simp at hb; omega) aH w2.heap.size rfl
      have aR:=Aa hr2
      have aS:=Aa hr3
      have aT:=Aa aI
      have aU:Hid ((ls.take (m+1)).map (λp=>(k:Int)::p)=(ls.take m).map (λp=>(k:Int)::p)++[(k:Int)::ls[m]]):=by
       unfold Hid; rw[Bm a7,Cr]; rfl
      clear aF aD aG hr2 hr3 aI a8 aj ak aH
      go_wp2_with first
       | (at_builtin; refine D1 rfl _ _ _ _ rfl rfl rfl aR.out ?_)
       | (at_builtin; refine D1 rfl _ _ _ _ rfl rfl rfl aS.out ?_)
      go_roundw
      case rel=>exact⟨m+1,_,by omega,by go_num,by rw[aU.out,<-Gb]; exact aT.out⟩
      case measure=>simp[intOf]; omega
     ·have aA:ls.take m=ls:=AW (by omega)
      have h1:=ao.out
      rw[aA,Cf,<-HT.out]at h1
      have HF:=Aa (af.out.mono h1)
      clear h1
      go_wp2_with fail
      go_roundw
      case rel=>exact⟨k+1,_,by omega,by go_num,HF.out⟩
      case measure=>simp[intOf]; omega
   ·have aA:l.take k=l:=AW (by omega)
    have ho:=ag.out
    rw[aA]at ho
    have HF:=Aa ho
    clear ho
    go_wp2_with fail
    go_ret
    exact⟨_,_,rfl,Pd HF.out.1 (by omega),HF.out.2.1.imp λu z hp=>hp.mono λb hb _=>⟨by omega,hb.2⟩,aJ.out⟩
theorem Pf (b o n pc:Nat) (hn:n+1<=pc) (w':World):Sem.run Tryz.prog (Instr.slice 56 (.slice (some ⟨b,o,none⟩) (n+1) pc) (some (.int .i64 1)) none none) w'=.ok (.slice (if pc=1 then some ⟨b,o,none⟩ else some ⟨b,o+1,none⟩) n (pc-1)) w':=by
 have ae:(1:Int)<=(n:Int)+1:=by omega
 have e1:(1:Int)<=((n+1:Nat):Int):=by omega
 rw[run_slice_l (P:=Tryz.prog) (ht:=Tryz.underlying56) (h0:=by omega) (h1:=e1)]
 by_cases aa:pc=1
 ·subst aa
  simp[go_sem,sliced]
 ·simp[go_sem,sliced,aa]
theorem VS {P:Program} {ops:Array Oper} {o:Oper} {a:Act} {K:Act->World->Prop} {Q:Exit->Act->World->Prop} {E:Prop} {w w':World} {v u v':Value} (hgd:o.guard=none) (s x:Operand) (t t':TypeId)
  (ho:o.op=.call { callee:=.builtin .append,args:=#[s,x],argTypes:=#[t,t']}) (hs:a.eval s=v) (hx:a.eval x=u)
  (hr:(Builtin.append_ #[t,t'] o.type #[v,u]).run P w=.ok v' w') (h:K (a.put o.dst v') w'):if Region.wanted o (yielded ops a.tmps)=true then Oper.wp P o a w K Q else E:=by
 have hw:Region.wanted o (yielded ops a.tmps)=true:=by simp[Region.wanted,hgd]
 rw[As hw]
 unfold Oper.wp execOp
 simp only[ho,resolve,invoke,builtin,Sem.run_bind,Sem.run_pure,Result.andThen_ok,List.map_toArray,BP,G9,hs,hx,hr]
 exact h
theorem Pg {w:World} {N N' T T' n m:Nat} {q u:Value} {xs ys:List Value} (h:w.ownsRow N T 1 q n xs) (h':w.ownsRow N' T' 1 u m ys) (hT:T≠T') (k:Nat) (hk:q.ownBlock=some k):u.ownBlock≠some k:=by
 intro e
 obtain⟨_,h⟩:=h
 obtain⟨_,h'⟩:=h'
 rcases h with ⟨rfl,_⟩|⟨g,cap,cur,rfl,_,hg,_⟩
 ·simp[Value.ownBlock]at hk
 ·rcases h' with ⟨rfl,_⟩|⟨g',cap',cur',rfl,_,aa,_⟩
  ·simp[Value.ownBlock]at e
  ·simp[Value.ownBlock]at hk e
   subst hk; subst e
   rw[hg]at aa; simp at aa; exact hT aa.2
def GV (W W':World) (u u':Value) (n:Nat):Prop:=
 (∃g cap,u=.slice (some ⟨g,0,none⟩) n cap/\u'=.slice (some ⟨g,0,none⟩) (n+1) cap)∨((∀k,u'.ownBlock=some k->W.heap.size<=k)/\Below W.heap.size W W')
theorem VT {W:World} {N:Nat} {u:Value} {hs:List Int} (h:W.ownsRow N 3 1 u hs.length (hs.map λz=>.int .i64 z)) (hN:N<=W.heap.size) (i:Int) (F:Nat) (hF:W.heap[F]? = some (.cells #[.int .i64 i] 3 (0,0))) (hn:hs.length<=1000000):
  ∃u' W',(Builtin.append_ #[56,56] 56 #[u,.slice (some ⟨F,0,none⟩) 1 1]).run Tryz.prog W=.ok u' W'/\W'.ownsRow N 3 1 u' (hs++[i]).length ((hs++[i]).map λz=>.int .i64 z)/\W.grownBy W' u.ownBlock/\GV W W' u u' hs.length:=by
 obtain⟨i0,hi,hz0,hz1,hz2⟩:=CT Tryz.infoInt
 have ai:W.cell? ⟨F,0,none⟩=some (.int .i64 i):=by simp[World.cell?,hF]
 have ae:Src Tryz.prog i0.size 56 (.slice (some ⟨F,0,none⟩) 1 1) 1 [.int .i64 i] W:=by
  rw[hz1]
  refine Src.ofSlice W Tryz.underlying56 ⟨F,0,none⟩ 1 1 _ (by simp) (λj v hj=>?_) (by intro v hv; simp at hv; subst hv; rfl)
  match j,hj with
  |0,hj=>simp at hj; subst hj; simpa [Addr.add] using ai
 have h':=h
 obtain⟨hl,h1⟩:=h
 have grow:∀(base:Option Addr) (cap:Nat),u=.slice base hs.length cap->(Builtin.firstCells i0.size hs.length (.slice base hs.length cap)).run Tryz.prog W.drew=.ok (hs.map λz=>Value.int .i64 z).toArray W.drew->cap<hs.length+1->cap<=1000000 -> 
   ∃u' W',(Builtin.append_ #[56,56] 56 #[u,.slice (some ⟨F,0,none⟩) 1 1]).run Tryz.prog W=.ok u' W'/\W'.ownsRow N 3 1 u' (hs++[i]).length ((hs++[i]).map λz=>.int .i64 z)/\W.grownBy W' u.ownBlock/\GV W W' u u' hs.length:=by
  intro base cap hu aj ak af
  subst hu
  have hg:=run_append_grow_src (P:=Tryz.prog) W 56 56 56 3 i0 (.int .i64 0) Tryz.underlying56 hi hz0 base hs.length cap _ aj _ 1 _ ae (by omega) (by omega) (by rw[hz2]; exact growslice_fits (by omega) (by omega))
  have aq:=grownCap_ge W (hs.length+1) cap 3
  have af:=grownCap_le_maxLen W (hs.length+1) cap 3 (by unfold maxLen; omega)
  have ag:Below W.heap.size W (W.drew.alloc (.cells (((hs.map λz=>Value.int .i64 z)++[Value.int .i64 i]).toArray++Builtin.zeroCells (Value.int .i64 0).cells (grownCap W (hs.length+1) cap 3-(hs.length+1))) 3)):=((Af W.heap.size W).drew).alloc (Aj _) _
  refine⟨_,_,hg,⟨by simp,Ae ⟨W.heap.size,_,_,by simp,hN,EZ W.drew _,by simp; omega,af,?_,?_⟩⟩,Gk ag _,Ae ⟨λk hk=>?_,ag⟩⟩
  ·simp[Builtin.zeroCells,Value.cells]; omega
  ·rw[Array.toList_append,GI (by simp),AW (by simp)]; simp
  ·simp[Value.ownBlock]at hk; omega
 rcases h1 with ⟨hu,h0⟩|⟨g,cap,cur,hu,ao,hgb,ar,af,hcs,ah⟩
 ·have e:hs=[]:=Ew.1 h0
  subst e
  exact grow none 0 hu (by simp[Builtin.firstCells,go_sem]) (by simp) (by omega)
 ·by_cases aa:hs.length+1<=cap
  ·subst hu
   simp only[Nat.mul_one] at hcs ah
   have au:g<W.heap.size:=(h'.lt g rfl).2
   have hnz:hs.length<cur.size:=by omega
   have hg:=run_append_room_src (P:=Tryz.prog) W 56 56 56 3 i0 Tryz.underlying56 hi g 0 hs.length cap _ 1 _ ae aa (λj hj=>by simp at hj; subst hj; rw[hz1]; simp[World.cell?,hgb,hnz]) (λj hj=>by simp at hj; subst hj; rw[hz1]; simp[World.frozen?,hgb])
   rw[hz1]at hg
   simp only[World.setCells,Ey,Nat.mul_one] at hg
   refine⟨_,_,hg,⟨by simp,Ae ⟨g,cap,cur.setIfInBounds hs.length (.int .i64 i),by simp,ao,?_,by simpa using aa,af,by simp[hcs],?_⟩⟩,⟨rfl,rfl,rfl,by simp[World.setCell],λk hk hkb=>Aq _ _ _ _ (by simp[Value.ownBlock] at hkb; simpa using hkb)⟩,Ad ⟨g,cap,rfl,rfl⟩⟩
   ·simp[World.setCell,Array.getElem?_modify,hgb]
   ·simp only[Array.toList_setIfInBounds,Dm,Ic,Nat.mul_one,Cr,BP,G9]
    rw[Bm (by simpa using hnz),List.take_set_of_le (by omega),ah]
    simp
  ·exact grow (some ⟨g,0,none⟩) cap hu (by
    have hc:=h'.cells (g:=g) (by rw[hu]; rfl)
    exact run_firstCells_some (P:=Tryz.prog) W.drew i0.size hs.length ⟨g,0,none⟩ hs.length cap _ (by rw[hz1]; simp) (λj v hj=>hc j v hj)) (by omega) (by omega)
def Cn (A:Nat) (w w':World) (q u:Value):Prop:=
 w'.os=w.os/\w'.tape=w.tape/\w'.output=w.output/\w.heap.size<=w'.heap.size/\∀b,b<w.heap.size->b≠A->some b≠q.ownBlock->some b≠u.ownBlock->w'.heap[b]? = w.heap[b]?
theorem Cn.of_below {A:Nat} {w w':World} (hb:Below w.heap.size w w') (q u:Value):Cn A w w' q u:=⟨hb.os,hb.tape,hb.output,hb.size,λk hk _ _ _=>hb.block k hk⟩
theorem Cn.of_grown {A:Nat} {w w':World} {q:Value} (hb:w.grownBy w' q.ownBlock) (u:Value):Cn A w w' q u:=⟨hb.os,hb.tape,hb.output,hb.size,λk hk _ h _=>hb.block k hk h⟩
theorem Cn.of_grown' {A:Nat} {w w':World} {u:Value} (hb:w.grownBy w' u.ownBlock) (q:Value):Cn A w w' q u:=⟨hb.os,hb.tape,hb.output,hb.size,λk hk _ _ h=>hb.block k hk h⟩
theorem Cn.trans {A:Nat} {w w1 w2:World} {q q1 u u1:Value} (h:Cn A w w1 q u) (h1:Cn A w1 w2 q1 u1) (hq:∀k,q1.ownBlock=some k->q.ownBlock=some k∨w.heap.size<=k) (hu:∀k,u1.ownBlock=some k->u.ownBlock=some k∨w.heap.size<=k):Cn A w w2 q u:=
 ⟨h1.1.trans h.1,h1.2.1.trans h.2.1,h1.2.2.1.trans h.2.2.1,AX h.2.2.2.1 h1.2.2.2.1,λb hb aa ae af=>(h1.2.2.2.2 b (Do hb h.2.2.2.1) aa
  (λe=>by rcases hq b e.symm with h2|h2; exact ae h2.symm; omega) (λe=>by rcases hu b e.symm with h2|h2; exact af h2.symm; omega)).trans (h.2.2.2.2 b hb aa ae af)⟩
theorem Cn.own {A:Nat} {w w':World} {q u v:Value} {N T n:Nat} {xs:List Value} (aa:A<N) (h:Cn A w w' q u) (hv:w.ownsRow N T 1 v n xs) (hq:∀k,v.ownBlock=some k->q.ownBlock≠some k) (hu:∀k,v.ownBlock=some k->u.ownBlock≠some k):w'.ownsRow N T 1 v n xs:=by
 have hlt:=hv.lt
 obtain⟨h1,h2⟩:=hv
 refine⟨h1,h2.imp id ?_⟩
 rintro⟨g,cap,cur,rfl,hg,hh,hr⟩
 exact⟨g,cap,cur,rfl,hg,by rw[h.2.2.2.2 g (hlt g rfl).2 (by have:=(hlt g rfl).1; omega) (λe=>hq g rfl e.symm) (λe=>hu g rfl e.symm)]; exact hh,hr⟩
def CQ (A:Nat) (w0:World) (N:Nat) (q0 u:Value) (hs:List Int) (Y:Nat->Prop) (ps:List (List Int)) (q:Value) (xs:List Value) (wr:World):Prop:=
 wr.ownsRow N 56 1 q ps.length xs/\wr.ownsRow N 3 1 u hs.length (hs.map λz=>.int .i64 z)/\Db wr (λb=>N<=b/\some b≠q.ownBlock/\some b≠u.ownBlock/\¬Y b) ps xs/\Cn A w0 wr q0 u/\(∀k,q.ownBlock=some k->q0.ownBlock=some k∨w0.heap.size<=k)
theorem Ph:(56:Nat)≠3:=by decide
theorem CQ.far {A:Nat} {w0 wr:World} {N:Nat} {q0 q u:Value} {hs:List Int} {Y:Nat->Prop} {ps:List (List Int)} {xs:List Value} (h:CQ A w0 N q0 u hs Y ps q xs wr) (k:Nat) (hk:q.ownBlock=some k):u.ownBlock≠some k:=Pg h.1 h.2.1 Ph k hk
theorem CQ.far' {A:Nat} {w0 wr:World} {N:Nat} {q0 q u:Value} {hs:List Int} {Y:Nat->Prop} {ps:List (List Int)} {xs:List Value} (h:CQ A w0 N q0 u hs Y ps q xs wr) (k:Nat) (hk:u.ownBlock=some k):q.ownBlock≠some k:=Pg h.2.1 h.1 (D6 Ph) k hk
theorem CQ.later {A:Nat} {w0 w1 w2:World} {N:Nat} {q0 q u:Value} {hs:List Int} {Y:Nat->Prop} {ps:List (List Int)} {xs:List Value} (aa:A<N) (h:CQ A w0 N q0 u hs Y ps q xs w1) (hb:Below w1.heap.size w1 w2):CQ A w0 N q0 u hs Y ps q xs w2:=by
 refine⟨Cn.own aa (Cn.of_below (A:=A) hb (.slice none 0 0) (.slice none 0 0)) h.1 (by simp[Value.ownBlock]) (by simp[Value.ownBlock]),Cn.own aa (Cn.of_below (A:=A) hb (.slice none 0 0) (.slice none 0 0)) h.2.1 (by simp[Value.ownBlock]) (by simp[Value.ownBlock]),h.2.2.1.imp λu z hp=>hp.later hb,h.2.2.2.1.trans (Cn.of_below hb q u) h.2.2.2.2 (λk h=>Ad h),h.2.2.2.2⟩
theorem CQ.here {A:Nat} {w0 w1:World} {N:Nat} {q0 q u:Value} {hs:List Int} {Y:Nat->Prop} {ps:List (List Int)} {xs:List Value} (h:CQ A w0 N q0 u hs Y ps q xs w1):CQ A w1 N q u hs Y ps q xs w1:=⟨h.1,h.2.1,h.2.2.1,Cn.of_below (Af _ _) _ _,λ_ h=>Ad h⟩
theorem CQ.push {A:Nat} {w0 wr w1:World} {N:Nat} {q0 q u:Value} {hs:List Int} {Y:Nat->Prop} {ps:List (List Int)} {xs:List Value} (ah:A<N) (h:CQ A w0 N q0 u hs Y ps q xs wr) (hN:N<=wr.heap.size) (hY:∀b,Y b->b<wr.heap.size) (hb:Below wr.heap.size wr w1) {x:Value} {z:List Int} (hx:PV w1 (λb=>wr.heap.size<=b) x z) (hn:ps.length<=1000000) (B0:Nat) (hA:w1.heap.size=B0):
  ∃q' w3,(Builtin.append_ #[52,52] 52 #[q,.slice (some ⟨B0,0,none⟩) 1 1]).run Tryz.prog (w1.alloc (.cells #[x] 56))=.ok q' w3/\CQ A w0 N q0 u hs Y (ps++[z]) q' (xs++[x]) w3/\(w1.alloc (.cells #[x] 56)).grownBy w3 q.ownBlock:=by
 subst hA
 obtain⟨i0,hi,hz0,hz1,hz2⟩:=CT Tryz.infoInts
 have hb2:Below wr.heap.size wr (w1.alloc (.cells #[x] 56)):=hb.alloc hb.size _
 have h2:=CQ.later ah h hb2
 have ai:=h2.far
 have aa:=h2.far'
 have hs1:=hb.size
 have ae:=h.1.lt
 have af:=h.2.1.lt
 obtain⟨g,cap,w3,hr,ho,hg,aj,ak⟩:=run_append_lies (P:=Tryz.prog) (w:=w1.alloc (.cells #[x] 56)) 52 52 N 56 i0 _ 1 24 Tryz.underlying52 hi hz0 hz1 hz2 rfl (by decide) q ps.length xs h2.1
  ⟨w1.heap.size,0,none⟩ 1 1 [x] rfl (cell_one_new _ _ _) (λy hy=>by simp at hy; subst hy; exact hx.one) (by decide) (by unfold maxLen; omega) (by omega) (by simp; omega) _ rfl
 have ag:∀b,some b=Value.ownBlock (.slice (some ⟨g,0,none⟩) (ps.length+1) cap)->q.ownBlock=some b∨w1.heap.size+1<=b:=λb e=>by
  simp[Value.ownBlock]at e
  subst e
  rcases aj with e|e
  ·exact Ad e
  ·right; simp at e; omega
 have hF:Cn A (w1.alloc (.cells #[x] 56)) w3 q (.slice none 0 0):=Cn.of_grown hg _
 refine⟨_,w3,hr,⟨by simpa using ho,Cn.own ah hF h2.2.1 aa (by simp[Value.ownBlock]),?_,?_,λk hk=>?_⟩,hg⟩
 ·refine Db.append (h.2.2.1.imp λu' z' hp=>?_) ⟨x,[],rfl,?_,rfl⟩
  ·refine((hp.mono (Y:=λb=>(N<=b/\some b≠q.ownBlock/\some b≠u.ownBlock/\¬Y b)/\b<wr.heap.size) λb h1 h2=>⟨h1,h2⟩).kept (w':=w3) λb hx=>?_).mono λb hx _=>⟨hx.1.1,λe=>?_,hx.1.2.2⟩
   ·rw[hg.block b (by simp; omega) hx.1.2.1,hb2.block b hx.2]
   ·rcases ag b e with e|e
    ·exact hx.1.2.1 e.symm
    ·omega
  ·refine((hx.mono (Y:=λb=>wr.heap.size<=b/\b<w1.heap.size) λb h1 h2=>⟨h1,h2⟩).kept (w':=w3) λb hx=>?_).mono λb hx _=>⟨by omega,λe=>?_,λe=>?_,λe=>?_⟩
   ·rw[hg.block b (by simp; omega) (λe=>by have:=(ae b e.symm).2; omega),AP _ _ _ hx.2]
   ·rcases ag b e with e|e
    ·have:=(ae b e).2; omega
    ·omega
   ·have:=(af b e.symm).2; omega
   ·have:=hY b e; omega
 ·exact h2.2.2.2.1.trans (Cn.of_grown hg u) h2.2.2.2.2 (λk h=>Ad h)
 ·rcases ag k hk.symm with e|e
  ·exact h.2.2.2.2 k e
  ·right; have:=h.2.2.2.1.2.2.2.1; omega
theorem CQ.store {A:Nat} {w0 wr:World} {N:Nat} {q0 q u:Value} {hs:List Int} {Y:Nat->Prop} {ps:List (List Int)} {xs:List Value} (aa:A<N) (h:CQ A w0 N q0 u hs Y ps q xs wr) (v:Value):CQ A w0 N q0 u hs Y ps q xs (wr.setCell ⟨A,0,none⟩ v):=by
 have hf:Cn A wr (wr.setCell ⟨A,0,none⟩ v) (.slice none 0 0) (.slice none 0 0):=⟨rfl,rfl,rfl,by simp[World.setCell],λb hb hA _ _=>Aq _ _ _ _ (by simpa using hA)⟩
 refine⟨Cn.own aa hf h.1 (by simp[Value.ownBlock]) (by simp[Value.ownBlock]),Cn.own aa hf h.2.1 (by simp[Value.ownBlock]) (by simp[Value.ownBlock]),h.2.2.1.imp λx z hp=>hp.kept λb hb=>Aq _ _ _ _ (by have:=hb.1; simp; omega),h.2.2.2.1.trans hf (by simp[Value.ownBlock]) (by simp[Value.ownBlock]),h.2.2.2.2⟩
theorem VU {A:Nat} {W W' aa:World} {N:Nat} {q u u':Value} {hs:List Int} {i:Int} (ag:A<N) (h:W.ownsRow N 3 1 u hs.length (hs.map λz=>.int .i64 z)) (hg:W.grownBy W' u.ownBlock) (he:GV W W' u u' hs.length) (h':aa.ownsRow N 3 1 u' (hs++[i]).length ((hs++[i]).map λz=>.int .i64 z)) (hf:Cn A W' aa q u') (hq:∀k,u.ownBlock=some k->q.ownBlock≠some k):
  aa.ownsRow N 3 1 u hs.length (hs.map λz=>.int .i64 z):=by
 rcases he with ⟨g,cap,rfl,rfl⟩|⟨ae,ah⟩
 ·obtain⟨_,h1⟩:=h
  obtain⟨_,h2⟩:=h'
  rcases h1 with ⟨h1,_⟩|⟨g1,ai,aj,h1,hN,_,ak,ao,_,_⟩
  ·simp at h1
  ·rcases h2 with ⟨h2,_⟩|⟨g2,aq,af,h2,_,hh,_,_,hcs,ar⟩
   ·simp at h2
   ·simp at h1 h2
    obtain⟨rfl,rfl⟩:=h1
    obtain⟨rfl,rfl⟩:=h2
    refine⟨by simp,Ae ⟨g,cap,af,rfl,hN,hh,ak,ao,hcs,?_⟩⟩
    have h3:=Bu (List.take hs.length) ar
    rw[List.take_take]at h3
    simpa [GI,Nat.min_eq_left] using h3
 ·have hlt:=h.lt
  exact Cn.own ag ((Cn.of_below ah q u').trans hf (λk h=>Ad h) (λk h=>Ad h)) h hq (λk hk e=>by have:=ae k e; have:=(hlt k hk).2; omega)
theorem CQ.down {A:Nat} {w0 wr W W':World} {N:Nat} {q0 q u u':Value} {hs:List Int} {Y:Nat->Prop} {ps:List (List Int)} {xs:List Value} {i:Int} (ae:A<N) (h:CQ A w0 N q0 u hs Y ps q xs wr) (hb:Below wr.heap.size wr W) (h':W'.ownsRow N 3 1 u' (hs++[i]).length ((hs++[i]).map λz=>.int .i64 z)) (hg:W.grownBy W' u.ownBlock) (he:GV W W' u u' hs.length):
  CQ A W' N q u' (hs++[i]) (λb=>b<wr.heap.size/\(Y b∨some b=u.ownBlock)) ps q xs W':=by
 have h2:=CQ.later ae h hb
 have af:=h.2.1.lt
 have hs1:=hb.size
 have hu:∀b,b<wr.heap.size->some b=u'.ownBlock->some b=u.ownBlock:=λb hb e=>by
  rcases he with ⟨g,cap,rfl,rfl⟩|⟨aa,_⟩
  ·simpa [Value.ownBlock] using e
  ·have:=aa b e.symm; omega
 refine⟨Cn.own ae (Cn.of_grown' (A:=A) hg (.slice none 0 0)) h2.1 (by simp[Value.ownBlock]) h2.far,h',h.2.2.1.imp λx z hp=>?_,Cn.of_below (Af _ _) _ _,λ_ h=>Ad h⟩
 refine((hp.mono (Y:=λb=>(N<=b/\some b≠q.ownBlock/\some b≠u.ownBlock/\¬Y b)/\b<wr.heap.size) λb h1 h2=>⟨h1,h2⟩).kept (w':=W') λb hx=>?_).mono λb hx _=>⟨hx.1.1,hx.1.2.1,λe=>hx.1.2.2.1 (hu b hx.2 e),λe=>?_⟩
 ·rw[hg.block b (by omega) hx.1.2.2.1,hb.block b hx.2]
 ·rcases e.2 with e|e
  ·exact hx.1.2.2.2 e
  ·exact hx.1.2.2.1 e
theorem CQ.up {A:Nat} {w0 wr W W' ag:World} {N:Nat} {q0 q q' u u':Value} {hs:List Int} {Y:Nat->Prop} {ps ah:List (List Int)} {xs ai:List Value} {i:Int} (aj:A<N) (h:CQ A w0 N q0 u hs Y ps q xs wr) (hY:∀b,Y b->b<wr.heap.size) (hb:Below wr.heap.size wr W) (hg:W.grownBy W' u.ownBlock) (he:GV W W' u u' hs.length)
  (h':CQ A W' N q u' (hs++[i]) (λb=>b<wr.heap.size/\(Y b∨some b=u.ownBlock)) ah q' ai ag):CQ A w0 N q0 u hs Y ah q' ai ag:=by
 have h2:=CQ.later aj h hb
 have aa:=h.2.1.lt
 have hs1:=hb.size
 have hs2:=hg.size
 have hs0:=h.2.2.2.1.2.2.2.1
 have ae:∀k,u'.ownBlock=some k->u.ownBlock=some k∨W.heap.size<=k:=λk hk=>by
  rcases he with ⟨g,cap,rfl,rfl⟩|⟨af,_⟩
  ·exact Ad hk
  ·exact Ae (af k hk)
 refine⟨h'.1,VU aj h2.2.1 hg he h'.2.1 h'.2.2.2.1 h2.far',h'.2.2.1.imp λx z hp=>hp.mono λb hx _=>⟨hx.1,hx.2.1,λe=>hx.2.2.2 ⟨(aa b e.symm).2,Ae e⟩,λe=>hx.2.2.2 ⟨hY b e,Ad e⟩⟩,?_,λk hk=>?_⟩
 ·exact h2.2.2.2.1.trans ((Cn.of_grown' hg q).trans h'.2.2.2.1 (λk h=>Ad h) ae) h2.2.2.2.2 (λk h=>Ad h)
 ·rcases h'.2.2.2.2 k hk with e|e
  ·exact h.2.2.2.2 k e
  ·right; omega
abbrev Dn:=List Int×Tm
def Ci (q:List Int):Nat:=(q.headD 0).toNat
def Co:List Int->Nat->Nat->List Int->List Tm->List Dn
 |_,_,_,_,[]=>[]
 |hs,j,st,r,⟨s,l⟩::rest=>(if j<st then [] else (hs++[(j:Int)],⟨s,l⟩)::Co (hs++[(j:Int)]) 0 (Ci (if j=st then r else [])) (if j=st then r else []).tail l)++Co hs (j+1) st r rest
def AM (hs fs:List Int) (t:Tm):List Dn:=(hs,t)::Co hs 0 (Ci fs) fs.tail t.args
theorem Hr (hs:List Int) (j st:Nat) (r:List Int) (t:Tm) (rest:List Tm):Co hs j st r (t::rest)=(if j<st then [] else AM (hs++[(j:Int)]) (if j=st then r else []) t)++Co hs (j+1) st r rest:=by
 obtain⟨s,l⟩:=t
 rw[Co]
 rfl
theorem Pi (hs:List Int) (st:Nat) (r:List Int) (a b:List Tm):∀j,Co hs j st r (a++b)=Co hs j st r a++Co hs (j+a.length) st r b:=by
 induction a with
 |nil=>intro j; simp[Co]
 |cons t a ih=>
  intro j
  rw[Cf,Hr,Hr,ih,Gb,Bs]
  congr 3
  omega
theorem VV (hs:List Int) (st:Nat) (r:List Int) (l:List Tm) (k:Nat) (h:k<l.length) (hst:st<=k):Co hs 0 st r (l.take (k+1))=Co hs 0 st r (l.take k)++AM (hs++[(k:Int)]) (if k=st then r else []) l[k]:=by
 rw[Bm h,Pi,Hr]
 have e:0+(l.take k).length=k:=by rw[Hh]; omega
 rw[e,An (by omega)]
 simp[Co]
theorem Pj (hs:List Int) (st:Nat) (r:List Int):∀(l:List Tm) (j:Nat),j+l.length<=st->Co hs j st r l=[]
 | [],_,_=>by simp[Co]
 |t::l,j,h=>by
  rw[Hr,Pj hs st r l (j+1) (by simp at h; omega),As (by simp at h; omega)]
  rfl
theorem VW {β:Type} (g:List Int->Tm->List β):∀(l:List Tm) (hs:List Int) (j:Nat) (G:List Int->List β),(∀k p x,(h:k<l.length)->AR l[k] p=some x->G (((j+k:Nat):Int)::p)=g (hs++(((j+k:Nat):Int)::p)) x)->(Co hs j 0 [] l).flatMap (λd=>g d.1 d.2)=(Ca j l).flatMap G:=by
 intro l
 induction l using Tm.indL with
 |h0=>intro hs j G h; simp[Co,Ca]
 |h s l rest aa ae=>
  intro hs j G h
  have h1:(AM (hs++[(j:Int)]) [] ⟨s,l⟩).flatMap (λd=>g d.1 d.2)=(Bq (⟨s,l⟩:Tm)).flatMap λp=>G ((j:Int)::p):=by
   unfold AM Bq
   rw[I7,I7]
   congr 1
   ·have:=h 0 [] ⟨s,l⟩ (by simp) rfl
    simpa using this.symm
   ·refine aa (hs++[(j:Int)]) 0 _ λk p x hk hx=>?_
    have:=h 0 (((0+k:Nat):Int)::p) x (by simp) (by
     simp only[Et,AR]
     have e:((0+k:Nat):Int).toNat=k:=by omega
     rw[DX ⟨by omega,by rw[e]; exact hk⟩]
     simp only[e]
     exact hx)
    simpa using this
  rw[Hr,Is,List.flatMap_append,List.flatMap_append,List.flatMap_map]
  congr 1
  ·rw[An (by omega)]
   have e:(if j=0 then ([]:List Int) else [])=[]:=by split<;>rfl
   rw[e]
   exact h1
  ·refine ae hs (j+1) G λk p x hk hx=>?_
   have:=h (k+1) p x (by simp; omega) (by simpa using hx)
   have e:((j+(k+1):Nat):Int)=((j+1+k:Nat):Int):=by omega
   rw[e]at this
   exact this
theorem VX {β:Type} (g:List Int->Tm->List β) (t:Tm) (G:List Int->List β) (h:∀p x,AR t p=some x->G p=g p x):(AM [] [] t).flatMap (λd=>g d.1 d.2)=(Bq t).flatMap G:=by
 unfold AM Bq
 rw[I7,I7]
 congr 1
 ·exact(h [] t rfl).symm
 ·refine VW g t.args [] 0 G λk p x hk hx=>?_
  refine h _ _ ?_
  have e:((0+k:Nat):Int).toNat=k:=by omega
  simp only[AR]
  rw[DX ⟨by omega,by rw[e]; exact hk⟩]
  simp only[e]
  exact hx
theorem VY {W W' aa:World} {N:Nat} {u u':Value} {hs:List Int} {i:Int} {Q:Nat->Prop} (h:W.ownsRow N 3 1 u hs.length (hs.map λz=>.int .i64 z)) (hg:W.grownBy W' u.ownBlock) (he:GV W W' u u' hs.length) (h':aa.ownsRow N 3 1 u' (hs++[i]).length ((hs++[i]).map λz=>.int .i64 z)) (hf:Al Q W' aa) (hq:∀k,u.ownBlock=some k->u'.ownBlock≠some k->¬Q k):
  aa.ownsRow N 3 1 u hs.length (hs.map λz=>.int .i64 z):=by
 rcases he with ⟨g,cap,rfl,rfl⟩|⟨ae,ag⟩
 ·obtain⟨_,h1⟩:=h
  obtain⟨_,h2⟩:=h'
  rcases h1 with ⟨h1,_⟩|⟨g1,ah,ai,h1,hN,_,aj,ak,_,_⟩
  ·simp at h1
  ·rcases h2 with ⟨h2,_⟩|⟨g2,ao,af,h2,_,hh,_,_,hcs,aq⟩
   ·simp at h2
   ·simp at h1 h2
    obtain⟨rfl,rfl⟩:=h1
    obtain⟨rfl,rfl⟩:=h2
    refine⟨by simp,Ae ⟨g,cap,af,rfl,hN,hh,aj,ak,hcs,?_⟩⟩
    have h3:=Bu (List.take hs.length) aq
    rw[List.take_take]at h3
    simpa [GI,Nat.min_eq_left] using h3
 ·have hlt:=h.lt
  refine DG h λg hk=>?_
  have hl:=(hlt g hk).2
  have hs2:=ag.size
  rw[hf.block g (by omega) (hq g hk (λe=>by have:=ae g e; omega)),ag.block g hl]
open Go.RowKit Go.Shelf
def VZ (l:Nat) (r rb rd:Loop) (Post:Bool->World->Prop):Exit->Act->World->Prop
 | .normal,_,w3=>w3.heap[l]? = some (.loop rb)/\Post true (w3.putObj l (.loop r))
 | .ret,_,w3=>w3.heap[l]? = some (.loop rb)/\Post false (w3.putObj l (.loop rd))
 |_,_,_=>False
theorem Pk {P:Program} {n l:Nat} {r:Loop} {args:Array Value} {W:World} {Post:Bool->World->Prop} {assign body:Code} {ps:Array Tmp} {tmps:Array Value} {rb rd:Loop} (aa:rb={ r with state:=.busy}) (ae:rd={ r with state:=.done,pending:=some .ret}) (ag:r.assign=assign) (ah:r.body=body) (ai:r.params=ps) (aj:r.tmps=tmps) (hl:W.heap[l]? = some (.loop r)) (hr:r.state=.ready) (af:r.pending=none) (ak:args.size=ps.size)
  (h:assign.wpIn (Fence.wide.inRound l) n P (Exit.then (λa₁ w₁=>w₁.heap[l]? = some (.loop r)/\body.wpIn (Fence.wide.inRound l) n P (VZ l r rb rd Post) a₁ (w₁.putObj l (.loop rb))) (λ_ _ _=>False)) { tmps:=(ps.zip args).foldl (λt (p,v)=>t.setIfInBounds p v) tmps,defers:=[]} W):
  YieldAt Fence.wide n P l args W λe W'=>∃s,e=.returned (.bool s)/\Post s W':=by
 subst aa; subst ae; subst ag; subst ah; subst ai; subst aj
 refine⟨r.fn,_,r.assign,r.body,run_yield hl ak,roundIn_of_wpIn trivial (wpIn_mono h ?_)⟩
 rintro e a w1 hp
 cases e with
 |normal=>
  obtain⟨h1,h2⟩:=hp
  refine⟨_,run_beginRound h1 hr,wpIn_mono h2 ?_⟩
  rintro e3 a3 w3 h3
  cases e3 with
  |normal=>
   obtain⟨h3,h4⟩:=h3
   refine⟨_,_,run_endRound none h3,true,rfl,?_⟩
   have e4:({ r with state:=.ready,pending:=none}:Loop)=r:=by
    obtain⟨_,_,_,_,_,_,_,_⟩:=r
    simp at hr af
    subst hr; subst af
    rfl
   have e5:({ ({ r with state:=.busy}:Loop) with state:=if (none:Option Code).isNone then .ready else .done,pending:=none}:Loop)=r:=by rw[<-e4]; rfl
   rw[e5]
   exact h4
  |ret=>
   obtain⟨h3,h4⟩:=h3
   exact⟨_,_,run_endRound (some .ret) h3,false,rfl,h4⟩
  |exit id=>exact h3.elim
  |goto t=>exact h3.elim
  |panic c=>exact h3.elim
  |outgrown=>exact h3.elim
 |ret=>exact hp.elim
 |exit id=>exact hp.elim
 |goto t=>exact hp.elim
 |panic c=>exact hp.elim
 |outgrown=>exact hp.elim
theorem Pl {P:Program} {n:Nat} {g:Operand} {ps:Array Tmp} {assign body:Code} {Q:Exit->Act->World->Prop} {a:Act} {w:World} {gf:Nat} {lb:Array Value} (hg:a.eval g=.func (.func gf) #[] lb) (eg:∀args w,(callFunc gf args).run P w=.ok (.enter gf args) w)
  (h:∀(r:Loop),r.state=.ready->r.pending=none->r.tmps=a.tmps->r.params=ps->r.assign=assign->r.body=body -> 
   Calls P gf (#[.func (.yield (w.heap.size+1)) #[] #[]]++lb) ((w.alloc (.deferred (some []))).alloc (.loop r)) λe W=>(∃v,e=.returned v)/\((W.heap[w.heap.size+1]? = some (.loop r)/\Q .normal { a with defers:={ target:=.collected w.heap.size,args:=#[]}::a.defers} (W.putObj (w.heap.size+1) (.loop { r with state:=.exhausted})))∨
    (W.heap[w.heap.size+1]? = some (.loop { r with state:=.done,pending:=some .ret})/\Q .ret { a with defers:={ target:=.collected w.heap.size,args:=#[]}::a.defers} (W.putObj (w.heap.size+1) (.loop { r with state:=.exhausted,pending:=some .ret}))))):
  (Code.rangeFunc g ps assign body).wpIn Fence.wide n P Q a w:=by
 refine wpIn_rangeFunc ?_
 intro fn hfn
 obtain⟨r,hr⟩:∃r:Loop,r={ state:=.ready,pending:=none,fn,tmps:=a.tmps,params:=ps,assign,body,defers:=w.heap.size}:=⟨_,rfl⟩
 refine⟨w.heap.size+1,[{ target:=.collected w.heap.size,args:=#[]}],(w.alloc (.deferred (some []))).alloc (.loop r),{ target:=.fn (.func gf) lb,args:=#[.func (.yield (w.heap.size+1)) #[] #[]]},(w.alloc (.deferred (some []))).alloc (.loop r),gf,#[.func (.yield (w.heap.size+1)) #[] #[]]++lb,(w.alloc (.deferred (some []))).alloc (.loop r),?_,?_,?_,?_,?_,?_⟩
 ·rw[hr]; exact run_enterLoop_outer _ _ _ _ _
 ·simp only[resolve,hg]
  simp[go_sem]
 ·intro f' hf'; trivial
 ·simp[invoke,go_sem,eg]
 ·intro h; simp[Fence.wide] at h
 ·refine(DN.2 (h r (by rw[hr]) (by rw[hr]) (by rw[hr]) (by rw[hr]) (by rw[hr]) (by rw[hr]))).mono ?_
  rintro e W ⟨⟨v,rfl⟩,hc⟩
  rcases hc with ⟨hl,hq⟩|⟨hl,hq⟩
  ·have e1:=run_endLoop (P:=P) hl (by rw[hr]; simp)
   have e2:r.pending=none:=by rw[hr]
   exact⟨none,_,e1.trans (by rw[e2]),hq⟩
  ·have e1:=run_endLoop (P:=P) hl (by simp)
   exact⟨some .ret,_,e1,wpIn_ret hq⟩
abbrev Tk (α:Type):=List α->Bool->(Nat->Prop)->World->Prop
structure Fx {α:Type} (J:Tk α) (K:Nat->Prop):Prop where
 inside:∀ {pre s f W},J pre s f W->∀b,f b∨K b->b<W.heap.size
 apart:∀ {pre s f W},J pre s f W->∀b,K b->¬f b
 abide:∀ {pre s f W W'},J pre s f W->W.heap.size<=W'.heap.size->(∀b,f b∨K b->W'.heap[b]? = W.heap[b]?)->J pre s f W'
theorem Fx.exq {α:Type} {J:Tk α} {K:Nat->Prop} (h:Fx J K) {pre:List α} {s:Bool} {f g:Nat->Prop} {W W':World} (hj:J pre s f W) (he:Al g W W') (hg:∀b,f b∨K b->¬g b):J pre s f W':=
 h.abide hj he.size λb hb=>he.block b (h.inside hj b hb) (hg b hb)
def Mg {α:Type} (lp:Nat) (L:α->Array Value->World->(Nat->Prop)->Prop) (J:Tk α) (all:List α):Prop:=
 ∀(n:Nat) (pre:List α) (x:α) (args:Array Value) (Z f:Nat->Prop) (W:World),(pre++[x]) <+: all->J pre true f W->L x args W Z->(∀b,Z b->b<W.heap.size/\¬f b)->
  YieldAt Fence.wide n Tryz.prog lp args W λe W'=>∃s,e=.returned (.bool s)/\∃f',J (pre++[x]) s f' W'/\Al f W W'/\∀b,f' b->f b∨W.heap.size<=b
def Mh (s:Bool) (P:Prop):Prop:=s=false->P
def Jk {α:Type} (lp:Nat) (L:α->Array Value->World->(Nat->Prop)->Prop) (J:Tk α) (all:List α) (S:World->Prop):Prop:=
 ∀(n:Nat) (pre:List α) (x:α) (args:Array Value) (Z f:Nat->Prop) (W:World),(pre++[x]) <+: all->J pre true f W->L x args W Z->(∀b,Z b->b<W.heap.size/\¬f b)->
  YieldAt Fence.wide n Tryz.prog lp args W λe W'=>∃s,e=.returned (.bool s)/\∃f',J (pre++[x]) s f' W'/\Al f W W'/\(∀b,f' b->f b∨W.heap.size<=b)/\Mh s (S W')
def Pm (S:World->Prop):Prop:=∀(W W':World),S W->W.heap.size<=W'.heap.size->(∀b,b<W.heap.size->W'.heap[b]? = W.heap[b]? ∨ (∃r,W.heap[b]? = some (.loop r))∨∃d,W.heap[b]? = some (.deferred d))->S W'
theorem Pm.put {S:World->Prop} (h:Pm S) {W:World} (hs:S W) {l:Nat} {r:Loop} (hl:W.heap[l]? = some (.loop r)) (o:Obj):S (W.putObj l o):=
 h _ _ hs (by simp) λb hb=>by
  by_cases e:b=l
  ·subst e; exact Ae (Ad ⟨r,hl⟩)
  ·exact Ad (World.putObj_heap_other e)
theorem Mg.toS {α:Type} {lp:Nat} {L:α->Array Value->World->(Nat->Prop)->Prop} {J:Tk α} {all:List α} (h:Mg lp L J all):Jk lp L J all (λ_=>True):=by
 intro n pre x args Z f W h1 h2 h3 h4
 obtain⟨hfn,aa,af,ae,hy,hR⟩:=h n pre x args Z f W h1 h2 h3 h4
 refine⟨hfn,aa,af,ae,hy,RoundIn.mono hR ?_⟩
 rintro e W' ⟨s,he,f',a,b,c⟩
 exact⟨s,he,f',a,b,c,λ_=>trivial⟩
def Cu {α:Type} (J:Tk α) (all pre:List α) (f g:Nat->Prop) (W:World) (s:Bool) (W':World):Prop:=
 ∃(m:Nat) (f':Nat->Prop),m<=all.length/\(s=true->m=all.length)/\J (pre++all.take m) s f' W'/\Al (λb=>f b∨g b) W W'/\∀b,f' b->f b∨W.heap.size<=b
theorem Cu.nil {α:Type} {J:Tk α} {pre:List α} {f g:Nat->Prop} {W:World} (h:J pre true f W):Cu J [] pre f g W true W:=
 ⟨0,f,Aj _,λ_=>rfl,by simpa using h,Al.refl _ _,λb hb=>Ad hb⟩
theorem Cu.one {α:Type} {J:Tk α} {pre:List α} {x:α} {f f' g:Nat->Prop} {W W':World} {s:Bool} (h:J (pre++[x]) s f' W') (he:Al f W W') (hf:∀b,f' b->f b∨W.heap.size<=b):Cu J [x] pre f g W s W':=
 ⟨1,f',by simp,λ_=>rfl,by simpa using h,he.mono λb hb _=>Ad hb,hf⟩
theorem Cu.end_true {α:Type} {J:Tk α} {all pre:List α} {f g:Nat->Prop} {W W':World} (h:Cu J all pre f g W true W'):∃f',J (pre++all) true f' W'/\Al (λb=>f b∨g b) W W'/\∀b,f' b->f b∨W.heap.size<=b:=by
 obtain⟨m,f',hm,hs,hj,he,hf⟩:=h
 obtain rfl:=hs rfl
 exact⟨f',by simpa using hj,he,hf⟩
theorem Cu.trans {α:Type} {J:Tk α} {a1 a2 pre:List α} {f f1 g g2:Nat->Prop} {W W1 W2:World} {s:Bool} (hj:J (pre++a1) true f1 W1) (he:Al (λb=>f b∨g b) W W1) (hf:∀b,f1 b->f b∨W.heap.size<=b) (h:Cu J a2 (pre++a1) f1 g2 W1 s W2) (hg:∀b,g2 b->g b∨W.heap.size<=b):Cu J (a1++a2) pre f g W s W2:=by
 obtain⟨m,f',hm,hs,aa,ae,hf2⟩:=h
 refine⟨a1.length+m,f',by simp; omega,λh=>by simp[hs h],?_,he.transN ae ?_,?_⟩
 ·rw[List.take_append,AW (by omega)]
  simpa [Gb] using aa
 ·rintro i hi hl
  rcases hi with hi|hi
  ·rcases hf i hi with h|h
   ·exact Ad h
   ·omega
  ·rcases hg i hi with h|h
   ·exact Ae h
   ·omega
 ·intro b hb
  have:=he.size
  rcases hf2 b hb with h|h
  ·exact hf b h
  ·right; omega
theorem Cu.stop {α:Type} {J:Tk α} {a1 a2 pre:List α} {f g:Nat->Prop} {W W':World} (h:Cu J a1 pre f g W false W'):Cu J (a1++a2) pre f g W false W':=by
 obtain⟨m,f',hm,hs,hj,he,hf⟩:=h
 exact⟨m,f',by simp; omega,by simp,by rw[GI hm]; exact hj,he,hf⟩
theorem Cu.mono {α:Type} {J:Tk α} {a pre:List α} {f g g':Nat->Prop} {W W':World} {s:Bool} (h:Cu J a pre f g W s W') (hg:∀b,g b->b<W.heap.size->g' b):Cu J a pre f g' W s W':=by
 obtain⟨m,f',hm,hs,hj,he,hf⟩:=h
 exact⟨m,f',hm,hs,hj,he.mono λb hb hl=>hb.imp id (λh=>hg b h hl),hf⟩
theorem Cu.exq {α:Type} {J:Tk α} {a pre:List α} {f g:Nat->Prop} {W W':World} {s:Bool} (h:Cu J a pre f g W s W'):Al (λb=>f b∨g b) W W':=by
 obtain⟨_,_,_,_,_,he,_⟩:=h
 exact he
theorem Cu.from {α:Type} {J:Tk α} {a pre:List α} {f g g':Nat->Prop} {W0 W W':World} {s:Bool} (h:Cu J a pre f g W s W') (he:Al g' W0 W) (hg:∀b,g b->g' b∨W0.heap.size<=b):Cu J a pre f g' W0 s W':=by
 obtain⟨m,f',hm,hs,hj,aa,hf⟩:=h
 refine⟨m,f',hm,hs,hj,(he.mono (R:=λb=>f b∨g' b) λb hb _=>Ae hb).transN aa ?_,λb hb=>?_⟩
 ·rintro i hi hl
  rcases hi with hi|hi
  ·exact Ad hi
  ·rcases hg i hi with h|h
   ·exact Ae h
   ·omega
 ·have:=he.size
  rcases hf b hb with h|h
  ·exact Ad h
  ·right; omega
def Pn {α:Type} (J:Tk α) (all pre:List α) (f:Nat->Prop) (S:World->Prop) (w:World) (e:Ending) (w':World):Prop:=
 (∃v,e=.returned v)/\∃b,Cu J all pre f (λ_=>False) w b w'/\Mh b (S w')
attribute [local go_sem] GJ
theorem V3 {ops:Array Oper} {o:Oper} {a:Act} {K:Act->World->Prop} {Q:Exit->Act->World->Prop} {E:Prop} {W:World} {N:Nat} {u:Value} {hs:List Int} (hgd:o.guard=none) (s x:Operand)
  (ho:o.op=.call { callee:=.builtin .append,args:=#[s,x],argTypes:=#[56,56]}) (aa:o.type=56) (hs':a.eval s=u) (i:Int) (F:Nat) (hx:a.eval x=.slice (some ⟨F,0,none⟩) 1 1)
  (h:W.ownsRow N 3 1 u hs.length (hs.map λz=>.int .i64 z)) (hN:N<=W.heap.size) (hF:W.heap[F]? = some (.cells #[.int .i64 i] 3 (0,0))) (hn:hs.length<=1000000)
  (hk:∀u' W',W'.ownsRow N 3 1 u' (hs++[i]).length ((hs++[i]).map λz=>.int .i64 z)->W.grownBy W' u.ownBlock->GV W W' u u' hs.length->K (a.put o.dst u') W'):if Region.wanted o (yielded ops a.tmps)=true then Oper.wp Tryz.prog o a W K Q else E:=by
 obtain⟨u',W',hr,h1,h2,h3⟩:=VT h hN i F hF hn
 exact VS hgd s x _ _ ho hs' hx (by rw[aa]; exact hr) (hk u' W' h1 h2 h3)
theorem CQ.from {A:Nat} {w wr:World} {o:Obj} {N:Nat} {q0 q u:Value} {hs:List Int} {Y:Nat->Prop} {ps:List (List Int)} {xs:List Value} (h:CQ A (w.alloc o) N q0 u hs Y ps q xs wr):CQ A w N q0 u hs Y ps q xs wr:=by
 refine⟨h.1,h.2.1,h.2.2.1,(Cn.of_below ((Af _ _).alloc (Aj _) o) q0 u).trans h.2.2.2.1 (λk h=>Ad h) (λk h=>Ad h),λk hk=>?_⟩
 rcases h.2.2.2.2 k hk with e|e
 ·exact Ad e
 ·right; simp at e; omega
theorem V4 (l:List Tm) (k:Nat) (h:k<l.length):1+Ab [l[k]]<=1+Ab l:=by
 have:=C4 l k h
 have:=C5 l (k+1)
 omega
attribute [local go_sem] GJ
def Mi (x:Dn) (args:Array Value) (W:World) (Z:Nat->Prop):Prop:=∃u v,args=#[u,v]/\PV W Z u x.1/\TV W Z v x.2
theorem V5 (fs:List Int) (v:Value) (w:World) (X:Nat->Prop) (hv:PV w X v fs) (h0:∀z∈fs.take 1,0<=z):
  Calls Tryz.prog 83 #[v] w λe w'=>Below w.heap.size w w'/\∃rv,e=.returned (.tuple #[.int .i64 (Ci fs:Int),rv])/\PV w' X rv fs.tail:=by
 obtain⟨a,c,rfl,hl,hc⟩:=hv
 cases fs with
 |nil=>
  go_enter Tryz.func83,Tryz.ntmps83
  go_wp2_with fail
  refine Ap (v:=.tuple #[.int .i64 0,.slice none 0 0]) (by simp[results,Tryz.results83,go_sem]) rfl ?_
  exact⟨Af _ _,_,rfl,none,0,rfl,by simp,Ad rfl⟩
 |cons z zs=>
  have hz:=h0 z (by simp)
  have e:(Ci (z::zs):Int)=z:=by unfold Ci; simp; omega
  rcases hc with hc|⟨b,o,rfl,Gr,hcell⟩
  ·cases hc
  obtain⟨aa,ae⟩:=hl
  simp only[Bs] at aa ae
  have hz0:=hcell 0 (by simp)
  simp only[FL,Et] at hz0
  have HE:=Aa e
  by_cases h1:c=1
  ·have h2:zs=[]:=Ew.1 (by omega)
   subst h1; subst h2
   clear hcell h0 e
   go_enter Tryz.func83,Tryz.ntmps83
   go_wp2_with fail
   go_region_held3 (λw'=>w'.cell? ⟨b,o,none⟩=some (.int .i64 z)) (go_keep) (fail)
   go_wp2_with fail
   refine Ap (v:=.tuple #[.int .i64 z,.slice (some ⟨b,o,none⟩) 0 0]) (by simp[results,Tryz.results83,go_sem]) rfl ?_
   exact⟨(Af _ _).drew,.slice (some ⟨b,o,none⟩) 0 0,by rw[HE.out],some ⟨b,o,none⟩,0,rfl,by simp,Ad rfl⟩
  ·have HT:Hid (PV w X (.slice (some ⟨b,o+1,none⟩) zs.length (c-1)) zs):=PV.tail ⟨aa,ae⟩ Gr hcell
   simp only[Bs] at *
   have b1:¬((zs.length:Int)+1<1):=by omega
   have b2:¬((c:Int)<(zs.length:Int)+1):=by omega
   clear hcell h0 e
   go_enter Tryz.func83,Tryz.ntmps83
   go_wp2_with fail
   go_region_held3 (λw'=>w'.cell? ⟨b,o,none⟩=some (.int .i64 z)) (go_keep) (fail)
   go_wp2_with fail
   refine Ap (v:=.tuple #[.int .i64 z,.slice (some ⟨b,o+1,none⟩) zs.length (c-1)]) (by simp[results,Tryz.results83,go_sem]) rfl ?_
   exact⟨(Af _ _).drew,_,by rw[HE.out],HT.out.later ((Af _ _).drew)⟩
def V6 {J:Tk Dn} (w0:World) (N:Nat) (u:Value) (hs:List Int) (f:Nat->Prop) (pre:List Dn) (t:Tm) (st:Nat) (rl:List Int) (rv:Value) (l:List Tm) (rest i:Value) (wr:World):Prop:=
 ∃(k:Nat) (f':Nat->Prop),st<=k/\k<=l.length/\i=.int .i64 (k:Int)/\rest=(if k=st then rv else .slice none 0 0)/\J (pre++(hs,t)::Co hs 0 st rl (l.take k)) true f' wr/\Al (λb=>f b∨u.ownBlock=some b) w0 wr/\(∀b,f' b->f b∨w0.heap.size<=b)/\wr.ownsRow N 3 1 u hs.length (hs.map λz=>.int .i64 z)
def V7 (J:Tk Dn) (N:Nat) (S:World->Prop) (t:Tm) (u:Value) (hs fs:List Int) (pre:List Dn) (f:Nat->Prop) (w:World) (e:Ending) (w':World):Prop:=
 ∃b,e=.returned (.bool b)/\Cu J (AM hs fs t) pre f (λb=>u.ownBlock=some b) w b w'/\(b=true->w'.ownsRow N 3 1 u hs.length (hs.map λz=>.int .i64 z))/\Mh b (S w')
theorem V8 {J:Tk Dn} {K:Nat->Prop} {all:List Dn} (hJ:Fx J K) (N lp:Nat) (hK:∀b,K b->b<N) {S:World->Prop} (RH:Jk lp Mi J all S) (t:Tm):∀(v u fv:Value) (hs fs:List Int) (pre:List Dn) (f:Nat->Prop) (w:World) (X:Nat->Prop),TV w X v t->PV w X fv fs->(AR t fs).isSome=true->(∀b,X b->b<N/\¬f b)->N<=w.heap.size->w.ownsRow N 3 1 u hs.length (hs.map λz=>.int .i64 z)->(∀k,u.ownBlock=some k->¬f k)->J pre true f w->hs.length+Ab [t]<=900000->(pre++AM hs fs t) <+: all->
  Calls Tryz.prog 59 #[v,u,fv,.func (.yield lp) #[] #[]] w λe w'=>V7 J N S t u hs fs pre f w e w':=by
 induction t using Tm.ind with
 |h s l ih=>
  intro v u fv hs fs pre f w X hv bg hat hX hN hown aG hj hsm bh
  have bj:=Aa bh
  clear bh
  obtain⟨a,c,rfl,aH⟩:=hv
  have IH:=Aa ih
  clear ih
  have hl:=aH.1
  have hz:Ab [(⟨s,l⟩:Tm)]=1+Ab l:=by simp[Ab]
  rw[hz]at hsm
  clear hz
  have aI:Below w.heap.size w (w.alloc (.cells #[.string s,.slice a l.length c] 29)):=(Af _ _).alloc (Aj _) _
  have aJ:Al (λ_=>False) w (w.alloc (.cells #[.string s,.slice a l.length c] 29)):=(Al.refl _ _).alloc _
  have aK:=Aa aJ
  have b9:=Aa (hJ.exq hj aJ (λ_ _ h=>h))
  have bA:=Aa (hJ.inside hj)
  have ae:((w.alloc (.cells #[.string s,.slice a l.length c] 29))).ownsRow N 3 1 u hs.length (hs.map λz=>.int .i64 z):=DG hown λg hg=>AP _ _ _ (hown.lt g hg).2
  have af:=Aa hown.lt
  have aB:Hid (∀b,X b->some b≠u.ownBlock):=λb hb e=>by have:=(af.out b e.symm).1; have:=hX b hb; omega
  have aL:Hid (u.ownBlock≠some w.heap.size):=λe=>by have:=(af.out _ e).2; omega
  have aM:Hid (¬f w.heap.size):=λe=>by have:=bA.out _ (Ad e); omega
  have hw0:Hid (((w.alloc (.cells #[.string s,.slice a l.length c] 29))).heap.size=w.heap.size+1):=by simp[Hid]
  have aN:=Aa (aH.later aI)
  have bB:=Aa (bg.later aI)
  have HX:=Aa hX
  have HK:=Aa hK
  clear hK
  have bk:=Aa aG
  have aO:∀z∈fs.take 1,0<=z:=by
   cases fs with
   |nil=>simp
   |cons z zs=>intro y hy; simp at hy; subst hy; rw[AR] at hat; split at hat; (next h=>exact h.1); (next=>cases hat)
  have aP:Ci fs<=l.length:=by
   cases fs with
   |nil=>simp[Ci]
   |cons z zs=>rw[AR] at hat; split at hat; (next h=>have:=h.2; simp[Ci]; simp at this; omega); (next=>cases hat)
  have bC:Hid (∀k (h:k<l.length),Ci fs<=k->(AR l[k] (if k=Ci fs then fs.tail else [])).isSome=true):=λk h hk=>by
   by_cases e:k=Ci fs
   ·rw[As e]
    cases fs with
    |nil=>rfl
    |cons z zs=>
     simp only[AR] at hat
     split at hat
     next h2=>
      have e2:z.toNat=k:=by rw[e]; simp[Ci]
      simp only[e2] at hat
      exact hat
     next=>simp at hat
   ·rw[An e]; rfl
  have aC:=Aa hJ
  have bD:hs.length<=1000000:=by omega
  have bE:=RH 0 pre (hs,⟨s,l⟩) #[u,.agg #[.string s,.slice a l.length c]] (λb=>(X b∨u.ownBlock=some b)/\b<((w.alloc (.cells #[.string s,.slice a l.length c] 29))).heap.size) f (w.alloc (.cells #[.string s,.slice a l.length c] 29)) (List.IsPrefix.trans ⟨Co hs 0 (Ci fs) fs.tail l,by simp[AM]⟩ bj.out) b9.out ⟨u,_,rfl,(Vf ae).mono λb hb hl=>⟨Ae hb.2,hl⟩,a,c,rfl,aN.out.mono λb hb hl=>⟨Ad hb,hl⟩⟩ (λb hb=>⟨hb.2,by
   rcases hb.1 with h|h
   ·exact(hX b h).2
   ·exact aG b h⟩)
  obtain⟨hfn,bl,bF,bm,hy,hR⟩:=bE
  have HR:=Aa hR
  have cd:=Aa RH
  have bG:=Aa ae
  clear aH bg hX aI aJ hR RH hown ae aG hj hat hJ
  have cf:Fence.wide.fn 83:=trivial
  go_enter Tryz.func59,Tryz.ntmps59
  refine(wpIn_wide (n:=1)).1 ?_
  gi_wp2
  refine HR.out.mono ?_
  rintro e W1 ⟨s1,rfl,f1,aQ,av,ah,bn⟩
  have bH:=Aa bn
  clear bn
  clear hy
  have K1:W1.cell? ⟨w.heap.size,1,none⟩=some (.slice a l.length c):=by
   have h1:=av.block w.heap.size (by simp) aM.out
   rw[EZ]at h1
   simp[World.cell?,h1]
  cases s1 with
  |false=>
   gi_wp2
   go_ret
   refine⟨false,rfl,?_,by simp,λ_=>bH.out rfl⟩
   exact Cu.from (Cu.stop (a1:=([(hs,(⟨s,l⟩:Tm))]:List Dn)) (Cu.one aQ av ah)) (aK.out.mono λ_ h _=>h.elim) (λb hb=>Ad hb)
  |true=>
   have bo:=Aa aQ
   have aR:=Aa av
   have aS:=Aa ah
   have bp:PV W1 X fv fs:=((bB.out.mono (Y:=λb=>X b/\b<(w.alloc (.cells #[.string s,.slice a l.length c] 29)).heap.size) λb h1 h2=>⟨h1,h2⟩).kept (w':=W1) λb hb=>aR.out.block b hb.2 (HX.out b hb.1).2).mono λb hb _=>hb.1
   have bq:Hid (W1.ownsRow N 3 1 u hs.length (hs.map λz=>.int .i64 z)):=DG bG.out λg hg=>aR.out.block g (by have:=(af.out g hg).2; have:=hw0.out; omega) (bk.out g hg)
   have bI:w.heap.size<W1.heap.size:=by have:=av.size; have:=hw0.out; omega
   clear aQ av ah
   gi_wp2_with (gi_at_call 83; refine(DN.2 (V5 fs fv _ X bp aO)).mono ?_; rintro e W2 ⟨hb2,rv,rfl,br⟩; have K2:=(hb2.cell (p:=⟨w.heap.size,1,none⟩) bI).trans K1)
   have bJ:=Aa br
   have aq:=Aa hb2
   clear bp br hb2
   refine wpIn_wide.2 ?_
   go_loopw [10,11] (λq' i wr=>V6 (J:=J) (w.alloc (.cells #[.string s,.slice a l.length c] 29)) N u hs f pre ⟨s,l⟩ (Ci fs) fs.tail rv l q' i wr/\PV wr X (if (intOf i).toNat=Ci fs then rv else .slice none 0 0) (if (intOf i).toNat=Ci fs then fs.tail else [])) (λq' i wr=>l.length-(intOf i).toNat)
   case atStart=>
    refine⟨⟨Ci fs,f1,Aj _,aP,rfl,by rw[As rfl],?_,(aR.out.mono λb hb _=>Ad hb).trans (Al.ofBelow aq.out),aS.out,DG bq.out λg hg=>aq.out.block g (bq.out.lt g hg).2⟩,by simpa [intOf] using bJ.out⟩
    rw[Pj hs (Ci fs) fs.tail (l.take (Ci fs)) 0 (by simp; omega)]
    exact aC.out.abide bo.out aq.out.size λb hb=>aq.out.block b (aC.out.inside bo.out b hb)
   case round=>
    obtain⟨⟨k,f2,hst,hk,rfl,rfl,ar,ag,aw,au⟩,ai⟩:=hrel
    have ek:(intOf (.int .i64 (k:Int))).toNat=k:=by simp[intOf]
    rw[ek]at ai
    clear ek
    have ax:=Aa ar
    have aD:=Aa ag
    have aa:=Aa aw
    have aT:=Aa au
    have aU:=Aa ai
    have hz2:w.heap.size+1<=wr.heap.size:=by have:=ag.size; have:=hw0.out; omega
    have bK:Hid (∀b,X b->¬(f b∨u.ownBlock=some b)):=λb hb h=>by
     rcases h with h|h
     ·exact(HX.out b hb).2 h
     ·exact aB.out b hb h.symm
    have bs:Hid (∀b,X b->b<N/\¬f2 b):=λb hb=>⟨(HX.out b hb).1,λh=>by
     rcases aa.out b h with h|h
     ·exact(HX.out b hb).2 h
     ·have:=(HX.out b hb).1; have:=hw0.out; omega⟩
    have ay:Hid (∀b,f2 b∨K b->b<wr.heap.size):=aC.out.inside ar
    have aj:Hid (∀g,u.ownBlock=some g->¬f2 g):=λg hg h=>by
     rcases aa.out g h with h|h
     ·exact bk.out g hg h
     ·have:=(af.out g hg).2; have:=hw0.out; omega
    have aq:Hid (¬f2 w.heap.size):=λh=>by
     rcases aa.out _ h with h|h
     ·exact aM.out h
     ·have:=hw0.out; omega
    have K2:wr.cell? ⟨w.heap.size,1,none⟩=some (.slice a l.length c):=by
     have h1:=ag.block w.heap.size (by simp) (λh=>by
      rcases h with h|h
      ·exact aM.out h
      ·exact aL.out h)
     rw[EZ]at h1
     simp[World.cell?,h1]
    clear ar ag aw au ai
    have az:AM hs fs ⟨s,l⟩=(hs,⟨s,l⟩)::Co hs 0 (Ci fs) fs.tail l:=rfl
    have ak:=Aa az
    clear az
    by_cases hlt:k<l.length
    ·have aV:=V4 l k hlt
     obtain⟨b,o,a',c',rfl,d0,d1,hx⟩:=(aN.out.exq aD.out bK.out).get (Af wr.heap.size wr) (λ_ _ h=>h) k hlt
     have aF:X b:=by
      obtain⟨_,h1⟩:=aN.out
      rcases h1 with h1|⟨b',o',e',h1⟩
      ·rw[h1]at hlt; simp at hlt
      ·cases e'; exact(FQ _ _ _ h1 k hlt).1
     have bL:=Aa hx
     have HT:=Aa (VV hs (Ci fs) fs.tail l k hlt hst)
     have bM:Hid ((hs++[(k:Int)]).length+Ab [l[k]]<=900000):=by unfold Hid; simp; omega
     have aW:=Aa (bC.out k hlt hst)
     have a6:Hid (Co hs 0 (Ci fs) fs.tail l=Co hs 0 (Ci fs) fs.tail (l.take k)++(AM (hs++[(k:Int)]) (if k=Ci fs then fs.tail else []) l[k]++Co hs (0+(l.take (k+1)).length) (Ci fs) fs.tail (l.drop (k+1)))):=by
      unfold Hid
      rw[<-Gb,<-HT.out,<-Pi,Eu]
     have aX:Hid (((pre++(hs,⟨s,l⟩)::Co hs 0 (Ci fs) fs.tail (l.take k))++AM (hs++[(k:Int)]) (if k=Ci fs then fs.tail else []) l[k]) <+: all):=List.IsPrefix.trans ⟨Co hs (0+(l.take (k+1)).length) (Ci fs) fs.tail (l.drop (k+1)),by rw[ak.out,a6.out]; simp⟩ bj.out
     generalize bN:(if k=Ci fs then rv else .slice none 0 0)=qv at *
     clear bN
     generalize (if k=Ci fs then fs.tail else [])=ql at *
     clear hx aV
     have ao:=Aa (And.intro K2 (And.intro d0 d1))
     go_wp2_with fail
     have aY:Below wr.heap.size wr (wr.alloc (.cells #[.int .i64 (k:Int)] 3)).drew:=((Af _ _).alloc (Aj _) _).drew
     have bO:=Aa aY
     have bt:Hid (((wr.alloc (.cells #[.int .i64 (k:Int)] 3)).drew).ownsRow N 3 1 u hs.length (hs.map λz=>.int .i64 z)):=DG aT.out λg hg=>aY.block g (aT.out.lt g hg).2
     have bP:Hid (N<=((wr.alloc (.cells #[.int .i64 (k:Int)] 3)).drew).heap.size):=by unfold Hid; simp; omega
     have bQ:Hid (((wr.alloc (.cells #[.int .i64 (k:Int)] 3)).drew).heap[wr.heap.size]? = some (.cells #[.int .i64 (k:Int)] 3 (0,0))):=EZ wr (.cells #[.int .i64 (k:Int)] 3)
     have bR:Hid (∀u2 W2,((wr.alloc (.cells #[.int .i64 (k:Int)] 3)).drew).grownBy W2 u.ownBlock->GV (wr.alloc (.cells #[.int .i64 (k:Int)] 3)).drew W2 u u2 hs.length->(W2.cell? ⟨w.heap.size,1,none⟩=some (.slice (some ⟨b,o,none⟩) l.length c)/\W2.cell? ⟨b,o+k*2,none⟩=some (.string l[k].name)/\W2.cell? ⟨b,o+k*2+1,none⟩=some (.slice a' l[k].args.length c'))/\(∀b,f2 b∨K b->W2.heap[b]? = wr.heap[b]?)/\(∀b,X b->W2.heap[b]? = wr.heap[b]?)/\wr.heap.size<W2.heap.size/\(∀g,u2.ownBlock=some g->¬f2 g)/\(∀g,u2.ownBlock=some g->u.ownBlock=some g∨wr.heap.size<=g)/\Al (λb=>u.ownBlock=some b) wr W2/\
       ∀w5,Al (λb=>f2 b∨u2.ownBlock=some b) W2 w5->w5.cell? ⟨w.heap.size,1,none⟩=some (.slice (some ⟨b,o,none⟩) l.length c)/\w5.cell? ⟨b,o+k*2,none⟩=some (.string l[k].name)/\w5.cell? ⟨b,o+k*2+1,none⟩=some (.slice a' l[k].args.length c')):=λu2 W2 hg2 ag=>by
      have cg:=HX.out b aF
      have bS:=hg2.size
      simp at bS
      have kp:∀j,j<wr.heap.size->u.ownBlock≠some j->W2.heap[j]? = wr.heap[j]? := λj hj hne=>(hg2.block j (by simp; omega) (λe=>hne e.symm)).trans (bO.out.block j hj)
      have hE:∀g,u2.ownBlock=some g->u.ownBlock=some g∨wr.heap.size<=g:=λg hg=>by
       rcases ag with ⟨g2,cap,e3,e4⟩|⟨hn,_⟩
       ·left; rw[e4] at hg; rw[e3]; exact hg
       ·right; have:=hn g hg; simp at this; omega
      have e0:=kp w.heap.size (by omega) aL.out
      have e1:=kp b (by omega) (λe=>aB.out b aF e.symm)
      refine⟨⟨(CM e0).trans ao.out.1,(CM e1).trans ao.out.2.1,(CM e1).trans ao.out.2.2⟩,λj hj=>kp j (ay.out j hj) (λe=>by
       rcases hj with hj|hj
       ·exact aj.out j e hj
       ·have:=HK.out j hj; have:=(af.out j e).1; omega),λj hj=>kp j (by have:=HX.out j hj; omega) (λe=>aB.out j hj e.symm),by omega,λg hg h=>?_,hE,⟨hg2.os,hg2.tape,hg2.output,by omega,λj hj hne=>kp j hj hne⟩,λw5 hf=>?_⟩
      ·rcases hE g hg with e|e
       ·exact aj.out g e h
       ·have:=ay.out g (Ad h); omega
      ·have f0 : w5.heap[w.heap.size]? = wr.heap[w.heap.size]? := (hf.block _ (by omega) (λh => by
        rcases h with h|h
        ·exact aq.out h
        ·rcases hE _ h with h|h
         ·exact aL.out h
         ·omega)).trans e0
       have f1 : w5.heap[b]? = wr.heap[b]? := (hf.block _ (by omega) (λh => by
        rcases h with h|h
        ·exact(bs.out b aF).2 h
        ·rcases hE _ h with h|h
         ·exact aB.out b aF h.symm
         ·omega)).trans e1
       exact⟨(CM f0).trans ao.out.1,(CM f1).trans ao.out.2.1,(CM f1).trans ao.out.2.2⟩
     clear aY
     go_region_held3 (λw'=>w'.cell? ⟨w.heap.size,1,none⟩=some (.slice (some ⟨b,o,none⟩) l.length c)/\w'.cell? ⟨b,o+k*2,none⟩=some (.string l[k].name)/\w'.cell? ⟨b,o+k*2+1,none⟩=some (.slice a' l[k].args.length c')) (first|exact ao.out|exact bu|exact bw|go_keep)
      (first
       | (refine V3 (N:=N) (hs:=hs) (u:=u) rfl _ _ rfl rfl rfl (k:Int) _ rfl bt.out bP.out bQ.out bD ?_; intro u2 W2 au hg2 ag; obtain⟨bw,kf,kX,hw2,bx,a7,bz,hK3⟩:=bR.out u2 W2 hg2 ag; have bT:=Aa au; have bU:=Aa hg2; have aZ:=Aa ag; have b3:=Aa bz; have b4:=Aa a7; have hx2:=bL.out.kept kX; have b5:=aU.out.kept kX; have ar:=aC.out.abide ax.out (by omega) kf)
       | (go_at_call 59; refine(IH.out _ (AV hlt) _ _ _ _ _ _ f2 _ X hx2 b5 aW.out bs.out (by omega) au bx ar bM.out aX.out).mono ?_; rintro e w5 ⟨s5,rfl,ba,b6,a8⟩; have bb:=Aa a8; clear a8; have bc:=Aa ba; have bu:=hK3 w5 ba.exq; have bV:=Aa b6; clear ba b6))
     clear bu hx2 b5 bw au hg2 ag kf kX bx a7 bz ar hK3
     cases s5 with
     |false=>
      go_wp2_with fail
      go_ret
      refine⟨false,rfl,?_,by simp,λ_=>bb.out rfl⟩
      rw[ak.out,a6.out,<-Cf]
      refine Cu.from (Cu.trans ax.out aD.out aa.out (Cu.stop (Cu.from (g':=λb=>u.ownBlock=some b) bc.out b3.out b4.out)) (λb hb=>Ad hb)) (aK.out.mono λ_ h _=>h.elim) (λb hb=>Ad hb)
     |true=>
      have bW:=Cu.end_true (Cu.trans ax.out aD.out aa.out (Cu.from (g':=λb=>u.ownBlock=some b) bc.out b3.out b4.out) (λb hb=>Ad hb))
      obtain⟨f5,b7,b8,aA⟩:=bW
      have bX:=Aa b7
      have bY:=Aa b8
      have bf:=Aa aA
      clear b7 b8 aA
      have bZ:Hid (w5.ownsRow N 3 1 u hs.length (hs.map λz=>.int .i64 z)):=VY bt.out bU.out aZ.out (bV.out rfl) bc.out.exq (λg hg hne h=>by
       rcases h with h|h
       ·exact aj.out g hg h
       ·exact hne h)
      go_wp2_with fail
      go_roundw
      case rel=>
       refine⟨⟨k+1,f5,by omega,by omega,by go_num,by rw[An (by omega)],?_,bY.out,bf.out,bZ.out⟩,?_⟩
       ·rw[HT.out]
        simpa using bX.out
       ·have e1:(intOf (.int .i64 ((k:Int)+1))).toNat=k+1:=by simp[intOf]
        have e2:¬(k+1=Ci fs):=by omega
        simp only[e1,e2,if_false]
        exact⟨none,0,rfl,by simp,Ad rfl⟩
      case measure=>simp[intOf]; omega
    ·have cc:l.take k=l:=AW (by omega)
     have HF:Hid (Cu J (AM hs fs ⟨s,l⟩) pre f (λb=>u.ownBlock=some b) w true wr):=by
      rw[cc]at ax
      exact ⟨_, f2, Aj _, λ_ => rfl, by rw [ak.out, EO]; exact ax.out, (aK.out.mono λ_ h _ => h.elim).trans aD.out, λb hb => by
       rcases aa.out b hb with h|h
       ·exact Ad h
       ·right; have:=hw0.out; omega⟩
     generalize (if k=Ci fs then rv else .slice none 0 0)=qv at *
     go_wp2_with fail
     gi_wp2
     go_ret
     exact⟨true,rfl,HF.out,(λ_=>aT.out),λh=>by cases h⟩
def EW:List Tm->List Tm->Bool
 | [],_=>true
 | ⟨s,a⟩::r,ts=>match ts with
  | []=>false
  |t::ts'=>(Ak s||((s.toList==t.name.toList)&&(a.length==t.args.length)&&EW a t.args))&&EW r ts'
def Dq (p t:Tm):Bool:=Ak p.name||((p.name.toList==t.name.toList)&&(p.args.length==t.args.length)&&EW p.args t.args)
theorem Mj (p t:Tm) (r ts:List Tm):EW (p::r) (t::ts)=(Dq p t&&EW r ts):=by obtain⟨s,a⟩:=p; simp only[EW,Dq]
theorem Jl {s s2:ByteArray} {l m:List Tm} (hv:Ak s=false):Dq ⟨s,l⟩ ⟨s2,m⟩=((s.toList==s2.toList)&&(l.length==m.length)&&EW l m):=by simp[Dq,hv]
theorem Po {s:ByteArray} {l:List Tm} {t:Tm} (hv:Ak s=true):Dq ⟨s,l⟩ t=true:=by simp[Dq,hv]
theorem Kj:∀(l m:List Tm),l.length=m.length->(EW l m=true↔∀k (h:k<l.length) (h2:k<m.length),Dq l[k] m[k]=true)
 | [],m,_=>by simp[EW]
 |_::_,[],e=>by simp at e
 |p::r,t::ts,e=>by
  have ih:=Kj r ts (by simpa using e)
  rw[Mj,Hd,ih]
  refine⟨λh k h1 h2=>?_,λh=>⟨h 0 (by simp) (by simp),λk h1 h2=>h (k+1) (by simpa using h1) (by simpa using h2)⟩⟩
  cases k with
  |zero=>exact h.1
  |succ k=>exact h.2 k (by simpa using h1) (by simpa using h2)
theorem V9 {l m:List Tm} {k:Nat} (aa:l.length=m.length) (h:k<l.length) (h2:k<m.length) (h0:Dq l[k] m[k]=false):EW l m=false:=by
 cases hs:EW l m with
 |false=>rfl
 |true=>rw[(Kj l m aa).1 hs k h h2] at h0; cases h0
theorem Wa:∀(l m:List Tm) (h:List Bd),l.length=m.length->EW l m=false->BK l m h=none:=by
 intro l
 induction l using Tm.indL with
 |h0=>intro m h _ hs; simp[EW] at hs
 |h s a r ae af=>
  intro m h aa hs
  cases m with
  |nil=>simp at aa
  |cons t ts=>
   rw[Mj]at hs
   rw[GQ]
   cases h1:Dq ⟨s,a⟩ t with
   |true=>
    rw[h1,Bool.true_and]at hs
    cases AY ⟨s,a⟩ t h with
    |none=>rfl
    |some h'=>exact af ts h' (by simpa using aa) hs
   |false=>
    obtain⟨s2,m2⟩:=t
    have hv:Ak s=false:=by
     cases hv:Ak s with
     |false=>rfl
     |true=>rw[Po hv] at h1; cases h1
    rw[Jl hv]at h1
    have e:AY ⟨s,a⟩ ⟨s2,m2⟩ h=none:=by
     cases hn:((s.toList==s2.toList)&&(a.length==m2.length)) with
     |false=>exact L0 hv hn
     |true=>
      rw[hn,Bool.true_and]at h1
      rw[Hd]at hn
      have hl:a.length=m2.length:=by simpa using hn.2
      rw[LZ hv hn.1 hl]
      exact ae m2 h hl h1
    rw[e]
theorem Wb {p t:Tm} (h:List Bd) (hs:Dq p t=false):AY p t h=none:=by
 have:=Wa [p] [t] h rfl (by rw[Mj,hs]; rfl)
 rw[GQ]at this
 cases hm:AY p t h with
 |none=>rfl
 |some h'=>rw[hm] at this; simp[BK] at this
theorem Pp (t:Tm):∀(x:Tm) (v u:Value) (w:World) (X Y:Nat->Prop),TV w X v t->TV w Y u x->
  Calls Tryz.prog 40 #[v,u] w λe w'=>e=.returned (.bool (BI t x))/\Below w.heap.size w w':=by
 induction t using Tm.ind with
 |h s l ih=>
  intro x v u w X Y hv hu
  obtain⟨s2,m⟩:=x
  have IH:=Aa ih
  clear ih
  obtain⟨a,c,rfl,hs⟩:=hv
  obtain⟨a2,c2,rfl,hs2⟩:=hu
  have hl:=hs.1
  have hl2:=hs2.1
  dsimp only
  cases hn:(s.toList==s2.toList) with
  |false=>
   have HR:Hid (false=BI ⟨s,l⟩ ⟨s2,m⟩):=by unfold Hid BI; rw[hn]; rfl
   go_enter Tryz.func40,Tryz.ntmps40
   go_wp2_with fail
   go_ret
   exact⟨BH HR.out,CO _ _⟩
  |true=>
   by_cases hm:l.length=m.length
   ·have HR:Hid (Dp l m=BI ⟨s,l⟩ ⟨s2,m⟩):=by unfold Hid BI; simp[hn,hm]
    have HM:=Aa hm
    rw[<-hm]
    clear hm
    go_enter Tryz.func40,Tryz.ntmps40
    go_wp2_with fail
    go_loopw [23] (λi wr=>Ot w l m a a2 c c2 i wr) (λi wr=>l.length-(intOf i).toNat)
    case atStart=>exact⟨0,AE _,rfl,by simp[Dp],CO _ _,by simp,by simp,by simp⟩
    case round=>
     obtain⟨k,hk,rfl,hq,hb,ak,hc2,hsz⟩:=hrel
     have HQ:=Aa hq
     clear hq
     by_cases hlt:k<l.length
     ·obtain⟨b,o,a',c',rfl,d0,d1,hx⟩:=hs.get hb (λ_ _ h=>h) k hlt
      obtain⟨b2,o2,ag,ah,rfl,e0,e1,hx2⟩:=hs2.get hb (λ_ _ h=>h) k (by have:=HM.out; omega)
      have ai:k<m.length:=by have:=HM.out; omega
      have HX:=Aa hx
      have aj:=Aa hx2
      have HB:=Aa hb
      have ae:=Aa (And.intro ak (And.intro hc2 (And.intro d0 (And.intro d1 (And.intro e0 e1)))))
      have af:=Aa (λ(w':World)=>IH.out l[k] (AV hlt) m[k] (.agg #[.string l[k].name,.slice a' l[k].args.length c']) (.agg #[.string m[k].name,.slice ag m[k].args.length ah]) w' X Y)
      have HT:=Aa (LX hlt ai)
      have ao:=Aa (Oq hlt HM.out)
      clear hx hx2 hb
      generalize l[k]=y at *
      generalize m[k]=z at *
      go_wp2_with fail
      cases hsm:BI y z with
      |true=>
       rw[hsm]at af HT
       go_region_held3 (λw'=>w'.cell? ⟨w.heap.size,1,none⟩=some (.slice (some ⟨b,o,none⟩) l.length c)/\w'.cell? ⟨w.heap.size+1,1,none⟩=some (.slice (some ⟨b2,o2,none⟩) l.length c2)/\w'.cell? ⟨b,o+k*2,none⟩=some (.string y.name)/\w'.cell? ⟨b,o+k*2+1,none⟩=some (.slice a' y.args.length c')/\w'.cell? ⟨b2,o2+k*2,none⟩=some (.string z.name)/\w'.cell? ⟨b2,o2+k*2+1,none⟩=some (.slice ag z.args.length ah)) (first|exact ae.out|exact aa|go_keep)
        ((go_at_call 40; refine(af.out _ (by exact HX.out.later (below_drewN (Af _ _) 1)) (by exact aj.out.later (below_drewN (Af _ _) 1))).mono ?_; rintro e w1 ⟨rfl,hb1⟩; have aa:=Kc (n:=1) hb1 ae.out))
       go_wp2_with fail
       go_roundw
       case rel=>exact⟨k+1,by omega,by go_num,by rw[HT.out,HQ.out]; rfl,(HB.out.trans (below_drewN (Af _ _) 1)).trans (hb1.mono (by simp; omega)),aa.1,aa.2.1,by have:=hb1.size; simp at this; omega⟩
       case measure=>simp[intOf]; omega
      |false=>
       have HF:Hid (false=BI ⟨s,l⟩ ⟨s2,m⟩):=by unfold Hid; rw[<-HR.out,ao.out hsm]
       rw[hsm]at af
       go_region_held3 (λw'=>w'.cell? ⟨w.heap.size,1,none⟩=some (.slice (some ⟨b,o,none⟩) l.length c)/\w'.cell? ⟨w.heap.size+1,1,none⟩=some (.slice (some ⟨b2,o2,none⟩) l.length c2)/\w'.cell? ⟨b,o+k*2,none⟩=some (.string y.name)/\w'.cell? ⟨b,o+k*2+1,none⟩=some (.slice a' y.args.length c')/\w'.cell? ⟨b2,o2+k*2,none⟩=some (.string z.name)/\w'.cell? ⟨b2,o2+k*2+1,none⟩=some (.slice ag z.args.length ah)) (first|exact ae.out|exact aa|go_keep)
        ((go_at_call 40; refine(af.out _ (by exact HX.out.later (below_drewN (Af _ _) 1)) (by exact aj.out.later (below_drewN (Af _ _) 1))).mono ?_; rintro e w1 ⟨rfl,hb1⟩; have aa:=Kc (n:=1) hb1 ae.out))
       go_wp2_with fail
       go_ret
       exact⟨BH HF.out,(HB.out.trans (below_drewN (Af _ _) 1)).trans (hb1.mono (by simp; omega))⟩
     ·have HF:Hid (true=BI ⟨s,l⟩ ⟨s2,m⟩):=by
       unfold Hid
       rw[<-HR.out,<-HQ.out,AW (by omega),AW (by have:=HM.out; omega)]
      go_wp2_with fail
      go_ret
      exact⟨BH HF.out,hb⟩
   ·have HR:Hid (false=BI ⟨s,l⟩ ⟨s2,m⟩):=by unfold Hid BI; simp[hn,hm]
    have aq:((l.length:Int)==(m.length:Int))=false:=DL.2 (by omega)
    clear hm
    go_enter Tryz.func40,Tryz.ntmps40
    go_wp2_with fail
    go_ret
    exact⟨BH HR.out,CO _ _⟩
def Ff (w:World) (q:Nat) (Y:Nat->Prop) (Z:List Bc):Prop:=Bl w q (Z.map Gi)/\∀x∈Z,Sl w Y x.2.1 x.1.t.args
def Wc (w:World) (q:Nat) (Y:Nat->Prop) (r:Option (List Bd)) (e:Ending) (w':World):Prop:=
 w.grownBy w' (some q)/\((r=none/\e=.returned (.bool false))∨∃(h':List Bd) (Z':List Bc),r=some h'/\e=.returned (.bool true)/\Z'.map (·.1)=h'/\Ff w' q Y Z')
theorem Ff.kept {w w':World} {q:Nat} {Y:Nat->Prop} {Z:List Bc} (h:Ff w q Y Z) (hY:∀b,Y b->b<w.heap.size) (hk:∀b,b<w.heap.size->w'.heap[b]? = w.heap[b]?):Ff w' q Y Z:=
 ⟨h.1.kept (hk q h.1.lt),λx hx=>(h.2 x hx).kept λb hb=>hk b (hY b hb)⟩
theorem Ff.below {w w':World} {q:Nat} {Y:Nat->Prop} {Z:List Bc} (h:Ff w q Y Z) (hY:∀b,Y b->b<w.heap.size) (hb:Below w.heap.size w w'):Ff w' q Y Z:=h.kept hY λb hb'=>hb.block b hb'
theorem Pq {Z:List Bc} {n:ByteArray}:(Ar (Z.map (·.1)) n=none->Bb (Z.map Gi) n=none)/\(∀t,Ar (Z.map (·.1)) n=some t->∃x∈Z,x.1.t=t/\Bb (Z.map Gi) n=some (.agg #[.string t.name,.slice x.2.1 t.args.length x.2.2])):=by
 induction Z with
 |nil=>exact⟨λ_=>rfl,λt h=>by simp[Ar] at h⟩
 |cons y r ih=>
  simp only[BP]
  by_cases hn:y.1.nm=n
  ·refine⟨λh=>by simp[Ar,hn] at h,λt h=>?_⟩
   rw[Ar,As hn]at h
   cases h
   exact⟨y,by simp,rfl,by simp[Bb,Gi,hn]⟩
  ·refine⟨λh=>?_,λt h=>?_⟩
   ·rw[Ar,An hn]at h
    rw[Bb,An (by simpa [Gi] using hn)]
    exact ih.1 h
   ·rw[Ar,An hn]at h
    obtain⟨x,hx,h1,h2⟩:=ih.2 t h
    exact⟨x,by simp[hx],h1,by rw[Bb,An (by simpa [Gi] using hn)]; exact h2⟩
def Wd (w2:World) (q:Nat) (Y:Nat->Prop) (l m:List Tm) (h:List Bd) (i:Value) (wr:World):Prop:=
 ∃(k:Nat) (Z':List Bc),k<=l.length/\i=.int .i64 (k:Int)/\BK (l.take k) (m.take k) h=some (Z'.map (·.1))/\Ff wr q Y Z'/\w2.grownBy wr (some q)
theorem Ml {w w' w'':World} {row:Option Nat} (h:w.grownBy w' row) (hb:Below w'.heap.size w' w''):w.grownBy w'' row:=
 h.andThen (row':=none) ⟨hb.os,hb.tape,hb.output,hb.size,λj hj _=>hb.block j hj⟩ (by simp)
theorem We (S F q:Nat) (Y:Nat->Prop) (p:Tm):∀(t:Tm) (Z:List Bc) (pv tv:Value) (w:World),TV w Y pv p->TV w Y tv t->Ac w S #[.map (some q)] 96->Ac w F #[.func (.func 139) #[] #[.pointer (some ⟨S,0,none⟩),.pointer (some ⟨F,0,none⟩)]] 48->Ff w q Y Z->(∀b,Y b->b<w.heap.size/\b≠q)->Dq p t=true->
  Calls Tryz.prog 139 #[pv,tv,.pointer (some ⟨S,0,none⟩),.pointer (some ⟨F,0,none⟩)] w λe w'=>Wc w q Y (AY p t (Z.map (·.1))) e w':=by
 induction p using Tm.ind with
 |h s l ih=>
  intro t Z pv tv w hp ht hS hF hM hY ao
  obtain⟨s2,m⟩:=t
  obtain⟨a,c,rfl,hs⟩:=hp
  obtain⟨a2,c2,rfl,hs2⟩:=ht
  have IH:=Aa ih
  have HS:=Aa hs
  have a6:=Aa hs2
  have a7:=Aa hS
  have bc:=Aa hF
  have HM:=Aa hM
  have HY:=Aa hY
  have hl:=hs.1
  have hl2:=hs2.1
  have b6:=hM.1.lt
  have bf:S≠q:=λe=>by
   obtain⟨es,bg,h1,_⟩:=hM.1
   subst e
   unfold Ac at hS
   rw[h1]at hS; cases hS
  have aG:F≠q:=λe=>by
   obtain⟨es,bg,h1,_⟩:=hM.1
   subst e
   unfold Ac at hF
   rw[h1]at hF; cases hF
  have a8:=hS.lt
  have bh:=hF.lt
  clear ih hs hs2 hS hF hM hY
  dsimp only
  have ag:Hid (Below w.heap.size w ((w.alloc (.cells #[.string s,.slice a l.length c] 29)).alloc (.cells #[.string s2,.slice a2 m.length c2] 29))):=CO _ _
  have PA:=Aa ((Ac.new w #[.string s,.slice a l.length c] 29).alloc (.cells #[.string s2,.slice a2 m.length c2] 29))
  have PB:Hid (Ac ((w.alloc (.cells #[.string s,.slice a l.length c] 29)).alloc (.cells #[.string s2,.slice a2 m.length c2] 29)) (w.heap.size+1) #[.string s2,.slice a2 m.length c2] 29):=by
   have h:=Ac.new (w.alloc (.cells #[.string s,.slice a l.length c] 29)) #[.string s2,.slice a2 m.length c2] 29
   unfold Hid
   simpa using h
  have hz2:((w.alloc (.cells #[.string s,.slice a l.length c] 29)).alloc (.cells #[.string s2,.slice a2 m.length c2] 29)).heap.size=w.heap.size+2:=by simp
  have aq:Hid (w.grownBy ((w.alloc (.cells #[.string s,.slice a l.length c] 29)).alloc (.cells #[.string s2,.slice a2 m.length c2] 29)) (some q)):=(Ls w _ _).andThen (Ls _ _ none) (by simp)
  have hz:∀w',(zeroValue 29).run Tryz.prog w'=.ok (.agg #[.string ⟨#[]⟩,.slice none 0 0]) w':=λw'=>Tryz.zeroValue29 w'
  cases hvb:Ak s with
  |true=>
   have ah:=Aa hvb
   clear hvb
   have ar:=Aa (HM.out.below (λb hb=>(HY.out b hb).1) ag.out)
   have aA:=Aa (a6.out.later ag.out)
   have s0:((w.alloc (.cells #[.string s,.slice a l.length c] 29)).alloc (.cells #[.string s2,.slice a2 m.length c2] 29)).cell? ⟨S,0,none⟩=some (.map (some q)):=(a7.out.below ag.out a8).cell 0
   have a0:=PA.out.cell 0
   have b0:=PB.out.cell 0
   have b1:=PB.out.cell 1
   cases hf:Ar (Z.map (·.1)) s with
   |some x=>
    obtain⟨y,hy,rfl,hg⟩:=Pq.2 x hf
    have HR:=Aa (Oz (l:=l) (t:=⟨s2,m⟩) ah.out hf)
    have bj:=Aa (ar.out.2 y hy)
    have aH:(Instr.lookup 96 (.map (some q)) (.string s) true).run Tryz.prog ((w.alloc (.cells #[.string s,.slice a l.length c] 29)).alloc (.cells #[.string s2,.slice a2 m.length c2] 29))=.ok (.tuple #[.agg #[.string y.1.t.name,.slice y.2.1 y.1.t.args.length y.2.2],.bool true]) ((w.alloc (.cells #[.string s,.slice a l.length c] 29)).alloc (.cells #[.string s2,.slice a2 m.length c2] 29)):=by
     rw[ET (P:=Tryz.prog) Tryz.underlying96 Tryz.underlying9 (hz _) ar.out.1 s,hg]; rfl
    clear hf hg hy
    have aI:∀o,(((w.alloc (.cells #[.string s,.slice a l.length c] 29)).alloc (.cells #[.string s2,.slice a2 m.length c2] 29)).alloc o).cell? ⟨w.heap.size+1,0,none⟩=some (.string s2):=λo=>(PB.out.alloc o).cell 0
    have aJ:∀o,(((w.alloc (.cells #[.string s,.slice a l.length c] 29)).alloc (.cells #[.string s2,.slice a2 m.length c2] 29)).alloc o).cell? ⟨w.heap.size+1,1,none⟩=some (.slice a2 m.length c2):=λo=>(PB.out.alloc o).cell 1
    have SK:Hid (Calls Tryz.prog 40 #[.agg #[.string y.1.t.name,.slice y.2.1 y.1.t.args.length y.2.2],.agg #[.string s2,.slice a2 m.length c2]] (((w.alloc (.cells #[.string s,.slice a l.length c] 29)).alloc (.cells #[.string s2,.slice a2 m.length c2] 29)).alloc (.cells #[.string y.1.t.name,.slice y.2.1 y.1.t.args.length y.2.2] 29)) λe w'=>e=.returned (.bool (BI y.1.t ⟨s2,m⟩))/\Below ((w.alloc (.cells #[.string s,.slice a l.length c] 29)).alloc (.cells #[.string s2,.slice a2 m.length c2] 29)).heap.size ((w.alloc (.cells #[.string s,.slice a l.length c] 29)).alloc (.cells #[.string s2,.slice a2 m.length c2] 29)) w'):=by
     refine(Pp y.1.t ⟨s2,m⟩ _ _ _ Y Y ⟨_,_,rfl,bj.out.later ((Af _ _).alloc (Aj _) _)⟩ ⟨_,_,rfl,aA.out.later ((Af _ _).alloc (Aj _) _)⟩).mono ?_
     rintro e w5 ⟨rfl,au⟩
     exact⟨rfl,((Af _ _).alloc (Aj _) _).trans (au.mono (by simp))⟩
    go_enter Tryz.func139,Tryz.ntmps139
    go_wp2_with (go_at_call 49; refine(Cz _ _).mono ?_; rintro e w' ⟨rfl,rfl⟩; rw[ah.out])
    refine SK.out.mono ?_
    rintro e w5 ⟨rfl,au⟩
    have bk:=Aa (Ml aq.out au)
    have bl:=Aa (ar.out.below (λb hb=>by have:=(HY.out b hb).1; omega) au)
    clear au aI aJ aH
    go_wp2_with fail
    go_ret
    refine⟨bk.out,?_⟩
    rw[HR.out]
    cases hsm:BI y.1.t ⟨s2,m⟩ with
    |true=>exact Ae ⟨_,Z,by rw[As rfl],rfl,rfl,bl.out⟩
    |false=>exact Ad ⟨by rw[An (by simp)],rfl⟩
   |none=>
    have hg:=Pq.1 hf
    have HR:=Aa (Oy (l:=l) (t:=⟨s2,m⟩) ah.out hf)
    have aH:(Instr.lookup 96 (.map (some q)) (.string s) true).run Tryz.prog ((w.alloc (.cells #[.string s,.slice a l.length c] 29)).alloc (.cells #[.string s2,.slice a2 m.length c2] 29))=.ok (.tuple #[.agg #[.string ⟨#[]⟩,.slice none 0 0],.bool false]) ((w.alloc (.cells #[.string s,.slice a l.length c] 29)).alloc (.cells #[.string s2,.slice a2 m.length c2] 29)):=by
     rw[ET (P:=Tryz.prog) Tryz.underlying96 Tryz.underlying9 (hz _) ar.out.1 s,hg]; rfl
    have ay:Below ((w.alloc (.cells #[.string s,.slice a l.length c] 29)).alloc (.cells #[.string s2,.slice a2 m.length c2] 29)).heap.size ((w.alloc (.cells #[.string s,.slice a l.length c] 29)).alloc (.cells #[.string s2,.slice a2 m.length c2] 29)) (((w.alloc (.cells #[.string s,.slice a l.length c] 29)).alloc (.cells #[.string s2,.slice a2 m.length c2] 29)).alloc (.cells #[.string ⟨#[]⟩,.slice none 0 0] 29)):=(Af _ _).alloc (Aj _) _
    have aK:=Aa (ar.out.below (λb hb=>by have:=(HY.out b hb).1; omega) ay)
    have av:=Aa (Ml aq.out ay)
    have aL:=Aa (ag.out.trans (ay.mono ag.out.size))
    have b7:(((w.alloc (.cells #[.string s,.slice a l.length c] 29)).alloc (.cells #[.string s2,.slice a2 m.length c2] 29)).alloc (.cells #[.string ⟨#[]⟩,.slice none 0 0] 29)).cell? ⟨S,0,none⟩=some (.map (some q)):=(a7.out.below aL.out a8).cell 0
    have b8:(((w.alloc (.cells #[.string s,.slice a l.length c] 29)).alloc (.cells #[.string s2,.slice a2 m.length c2] 29)).alloc (.cells #[.string ⟨#[]⟩,.slice none 0 0] 29)).cell? ⟨w.heap.size,0,none⟩=some (.string s):=(PA.out.alloc _).cell 0
    have aI:(((w.alloc (.cells #[.string s,.slice a l.length c] 29)).alloc (.cells #[.string s2,.slice a2 m.length c2] 29)).alloc (.cells #[.string ⟨#[]⟩,.slice none 0 0] 29)).cell? ⟨w.heap.size+1,0,none⟩=some (.string s2):=(PB.out.alloc _).cell 0
    have aJ:(((w.alloc (.cells #[.string s,.slice a l.length c] 29)).alloc (.cells #[.string s2,.slice a2 m.length c2] 29)).alloc (.cells #[.string ⟨#[]⟩,.slice none 0 0] 29)).cell? ⟨w.heap.size+1,1,none⟩=some (.slice a2 m.length c2):=(PB.out.alloc _).cell 1
    obtain⟨w8,hrun,aM,aN,aO,aP,aQ,az⟩:=Je (P:=Tryz.prog) Tryz.underlying96 Tryz.underlying9 aK.out.1 s (.agg #[.string s2,.slice a2 m.length c2]) hg
    have bm : Hid (Ff w8 q Y (Z ++ [(⟨s, ⟨s2, m⟩⟩, a2, c2)])) := ⟨by rw [Cr]; exact aM, λx hx => by
     rcases Bg.1 hx with hx|hx
     ·exact(aK.out.2 x hx).kept λb hb=>az b (HY.out b hb).2
     ·have e:x=(⟨s,⟨s2,m⟩⟩,a2,c2):=by simpa using hx
      subst e
      exact(a6.out.later aL.out).kept λb hb=>az b (HY.out b hb).2⟩
    have bn:Hid (w.grownBy w8 (some q)):=⟨aO.trans av.out.os,aP.trans av.out.tape,aQ.trans av.out.output,by rw[aN]; exact av.out.size,λj hj hne=>(az j (λe=>hne (by rw[e]))).trans (av.out.block j hj hne)⟩
    clear hf hg ay aM aN aO aP aQ az
    go_enter Tryz.func139,Tryz.ntmps139
    go_wp2_with (go_at_call 49; refine(Cz _ _).mono ?_; rintro e w' ⟨rfl,rfl⟩; rw[ah.out])
    go_ret
    refine⟨bn.out,?_⟩
    rw[HR.out]
    exact Ae ⟨_,_,rfl,rfl,by simp,bm.out⟩
  |false=>
   have ah:=Aa hvb
   clear hvb
   rw[Jl ah.out,Hd,Hd]at ao
   obtain⟨⟨hn,hm⟩,ao⟩:=ao
   have hm:l.length=m.length:=by simpa using hm
   have bo:=Aa ((Kj l m hm).1 ao)
   clear ao
   have HR:=Aa (LZ (h:=Z.map (·.1)) ah.out hn hm)
   have aB:=Aa hm
   rw[<-hm]at aq ag PA PB hz2 hl2 ⊢
   clear hm
   go_enter Tryz.func139,Tryz.ntmps139
   go_wp2_with (go_at_call 49; refine(Cz _ _).mono ?_; rintro e w' ⟨rfl,rfl⟩; rw[ah.out])
   generalize (w.alloc (.cells #[.string s,.slice a l.length c] 29)).alloc (.cells #[.string s2,.slice a2 l.length c2] 29)=w2 at *
   go_loopw [36] (λi wr=>Wd w2 q Y l m (Z.map (·.1)) i wr) (λi wr=>l.length-(intOf i).toNat)
   case atStart=>exact⟨0,Z,AE _,rfl,by simp[BK],HM.out.below (λb hb=>(HY.out b hb).1) ag.out,⟨rfl,rfl,rfl,Aj _,λ_ _ _=>rfl⟩⟩
   case round=>
    obtain⟨k,Z',hk,rfl,hT,aR,hg⟩:=hrel
    have HT:=Aa hT
    have aS:=Aa aR
    have aT:=Aa hg
    have hwr:w.heap.size+2<=wr.heap.size:=by have:=hg.size; omega
    have bp:Hid (Ac wr w.heap.size #[.string s,.slice a l.length c] 29):=(hg.block w.heap.size (by omega) (by simp; omega)).trans PA.out
    have bq:Hid (Ac wr (w.heap.size+1) #[.string s2,.slice a2 l.length c2] 29):=(hg.block (w.heap.size+1) (by omega) (by simp; omega)).trans PB.out
    have aU:Hid (Ac wr F #[.func (.func 139) #[] #[.pointer (some ⟨S,0,none⟩),.pointer (some ⟨F,0,none⟩)]] 48):=(hg.block F (by omega) (by simpa using aG)).trans (bc.out.below ag.out bh)
    have br:Hid (Ac wr S #[.map (some q)] 96):=(hg.block S (by omega) (by simpa using bf)).trans (a7.out.below ag.out a8)
    have aV:Hid (Sl wr Y a l):=(HS.out.later ag.out).kept λb hb=>by
     have h1:=HY.out b hb
     exact hg.block b (by omega) (by simpa using h1.2)
    have aw:Hid (Sl wr Y a2 m):=(a6.out.later ag.out).kept λb hb=>by
     have h1:=HY.out b hb
     exact hg.block b (by omega) (by simpa using h1.2)
    have f0:=aU.out.c0
    have a1:=bp.out.c1
    clear hT aR hg
    by_cases aa:k<l.length
    ·have bs:(k:Int)<(l.length:Int):=by omega
     have af:k<m.length:=by have:=aB.out; omega
     obtain⟨b,o,a',c',rfl,d0,d1,hx⟩:=aV.out.get (Af _ _) (λ_ _ h=>h) k aa
     obtain⟨b2,o2,aj,ak,rfl,e0,e1,hx2⟩:=aw.out.get (Af _ _) (λ_ _ h=>h) k af
     have HX:=Aa hx
     have bt:=Aa hx2
     have b1:wr.cell? ⟨w.heap.size+1,1,none⟩=some (.slice (some ⟨b2,o2,none⟩) l.length c2):=bq.out.cell 1
     have aC:=Aa (And.intro f0 (And.intro a1 (And.intro b1 (And.intro d0 (And.intro d1 (And.intro e0 e1))))))
     have aD:b<w.heap.size/\b≠q:=by
      obtain⟨_,h1⟩:=aV.out
      rcases h1 with h1|⟨b',o',e',h1⟩
      ·rw[h1]at aa; simp at aa
      ·cases e'; exact HY.out _ (FQ _ _ _ h1 k aa).1
     have ai:b2<w.heap.size/\b2≠q:=by
      obtain⟨_,h1⟩:=aw.out
      rcases h1 with h1|⟨b',o',e',h1⟩
      ·rw[h1]at af; simp at af
      ·cases e'; exact HY.out _ (FQ _ _ _ h1 k af).1
     have aW:=Aa (IH.out l[k] (AV aa) m[k] Z' (.agg #[.string l[k].name,.slice a' l[k].args.length c']) (.agg #[.string m[k].name,.slice aj m[k].args.length ak]) wr.drew (by exact HX.out.later (below_drewN (Af _ _) 1)) (by exact bt.out.later (below_drewN (Af _ _) 1)) (by exact br.out) (by exact aU.out) (by exact aS.out.below (λb hb=>by have:=(HY.out b hb).1; omega) (below_drewN (Af _ _) 1)) (λb hb=>by have:=HY.out b hb; exact⟨by simp; omega,this.2⟩) (bo.out k aa af))
     have aX:Hid (∀w1,wr.drew.grownBy w1 (some q)->w1.cell? ⟨F,0,none⟩=some (.func (.func 139) #[] #[.pointer (some ⟨S,0,none⟩),.pointer (some ⟨F,0,none⟩)])/\w1.cell? ⟨w.heap.size,1,none⟩=some (.slice (some ⟨b,o,none⟩) l.length c)/\w1.cell? ⟨w.heap.size+1,1,none⟩=some (.slice (some ⟨b2,o2,none⟩) l.length c2)/\w1.cell? ⟨b,o+k*2,none⟩=some (.string l[k].name)/\w1.cell? ⟨b,o+k*2+1,none⟩=some (.slice a' l[k].args.length c')/\w1.cell? ⟨b2,o2+k*2,none⟩=some (.string m[k].name)/\w1.cell? ⟨b2,o2+k*2+1,none⟩=some (.slice aj m[k].args.length ak)):=λw1 ae=>by
      have kp:∀b o,b<wr.heap.size->b≠q->w1.cell? ⟨b,o,none⟩=wr.cell? ⟨b,o,none⟩:=λb o hb hne=>ae.cell_far ⟨b,o,none⟩ (by simpa using hb) (by simpa using hne)
      have h:=aC.out
      exact⟨(kp _ _ (by omega) aG).trans h.1,(kp _ _ (by omega) (by omega)).trans h.2.1,(kp _ _ (by omega) (by omega)).trans h.2.2.1,(kp _ _ (by omega) aD.2).trans h.2.2.2.1,(kp _ _ (by omega) aD.2).trans h.2.2.2.2.1,(kp _ _ (by omega) ai.2).trans h.2.2.2.2.2.1,(kp _ _ (by omega) ai.2).trans h.2.2.2.2.2.2⟩
     have bu:=Aa (λh0=>Ow aa aB.out HT.out h0)
     have bw:=Aa (λaY (h0:AY l[k] m[k] (Z'.map (·.1))=some aY)=>Ox aa af HT.out h0)
     have aZ:Hid (∀w1,wr.drew.grownBy w1 (some q)->w2.grownBy w1 (some q)):=λw1 ae=>(Ml aT.out (below_drewN (Af _ _) 1)).andThen ae (λj hj=>Ae hj)
     clear hx hx2 aD ai
     generalize l[k]=y at *
     generalize m[k]=z at *
     go_wp2_with fail
     cases hr:AY y z (Z'.map (·.1)) with
     |none=>
      have bx:Hid (Calls Tryz.prog 139 #[.agg #[.string y.name,.slice a' y.args.length c'],.agg #[.string z.name,.slice aj z.args.length ak],.pointer (some ⟨S,0,none⟩),.pointer (some ⟨F,0,none⟩)] wr.drew λe w'=>e=.returned (.bool false)/\wr.drew.grownBy w' (some q)):=by
       refine aW.out.mono ?_
       rintro e w1 ⟨ae,⟨_,rfl⟩|⟨h',Z1,h0,_⟩⟩
       ·exact⟨rfl,ae⟩
       ·rw[hr]at h0; cases h0
      have HF:Hid (AY ⟨s,l⟩ ⟨s2,m⟩ (Z.map (·.1))=none):=by unfold Hid; rw[HR.out,bu.out hr]
      go_region_held3 (λw'=>w'.cell? ⟨F,0,none⟩=some (.func (.func 139) #[] #[.pointer (some ⟨S,0,none⟩),.pointer (some ⟨F,0,none⟩)])/\w'.cell? ⟨w.heap.size,1,none⟩=some (.slice (some ⟨b,o,none⟩) l.length c)/\w'.cell? ⟨w.heap.size+1,1,none⟩=some (.slice (some ⟨b2,o2,none⟩) l.length c2)/\w'.cell? ⟨b,o+k*2,none⟩=some (.string y.name)/\w'.cell? ⟨b,o+k*2+1,none⟩=some (.slice a' y.args.length c')/\w'.cell? ⟨b2,o2+k*2,none⟩=some (.string z.name)/\w'.cell? ⟨b2,o2+k*2+1,none⟩=some (.slice aj z.args.length ak)) (first|exact aC.out|exact ax|go_keep)
       ((go_at_call 139; refine bx.out.mono ?_; rintro e w1 ⟨rfl,ae⟩; have ax:=aX.out w1 ae))
      have aF:=Aa (aZ.out w1 ae)
      clear ae ax
      go_wp2_with fail
      go_ret
      exact⟨aq.out.andThen aF.out (λj hj=>Ae hj),Ad ⟨HF.out,rfl⟩⟩
     |some h'=>
      have bz:Hid (Calls Tryz.prog 139 #[.agg #[.string y.name,.slice a' y.args.length c'],.agg #[.string z.name,.slice aj z.args.length ak],.pointer (some ⟨S,0,none⟩),.pointer (some ⟨F,0,none⟩)] wr.drew λe w'=>e=.returned (.bool true)/\wr.drew.grownBy w' (some q)/\∃Z1:List Bc,Z1.map (·.1)=h'/\Ff w' q Y Z1):=by
       refine aW.out.mono ?_
       rintro e w1 ⟨ae,⟨h0,_⟩|⟨aY,Z1,h0,rfl,h2,h3⟩⟩
       ·rw[hr]at h0; cases h0
       ·rw[hr]at h0
        cases h0
        exact⟨rfl,ae,Z1,h2,h3⟩
      have HN:=Aa (bw.out h' hr)
      go_region_held3 (λw'=>w'.cell? ⟨F,0,none⟩=some (.func (.func 139) #[] #[.pointer (some ⟨S,0,none⟩),.pointer (some ⟨F,0,none⟩)])/\w'.cell? ⟨w.heap.size,1,none⟩=some (.slice (some ⟨b,o,none⟩) l.length c)/\w'.cell? ⟨w.heap.size+1,1,none⟩=some (.slice (some ⟨b2,o2,none⟩) l.length c2)/\w'.cell? ⟨b,o+k*2,none⟩=some (.string y.name)/\w'.cell? ⟨b,o+k*2+1,none⟩=some (.slice a' y.args.length c')/\w'.cell? ⟨b2,o2+k*2,none⟩=some (.string z.name)/\w'.cell? ⟨b2,o2+k*2+1,none⟩=some (.slice aj z.args.length ak)) (first|exact aC.out|exact ax|go_keep)
       ((go_at_call 139; refine bz.out.mono ?_; rintro e w1 ⟨rfl,ae,Z1,ba,bb⟩; have ax:=aX.out w1 ae))
      have aF:=Aa (aZ.out w1 ae)
      have b3:=Aa ba
      have b4:=Aa bb
      clear ae ax ba bb
      go_wp2_with fail
      go_roundw
      case rel=>exact⟨k+1,Z1,by omega,by go_num,by rw[b3.out]; exact HN.out,b4.out,aF.out⟩
      case measure=>simp[intOf]; omega
    ·have HF:Hid (AY ⟨s,l⟩ ⟨s2,m⟩ (Z.map (·.1))=some (Z'.map (·.1))):=by
      unfold Hid
      rw[HR.out,<-HT.out,AW (by omega),AW (by have:=aB.out; omega)]
     have b5:=Aa (aq.out.andThen aT.out (λj hj=>Ae hj))
     go_wp2_with fail
     go_ret
     exact⟨b5.out,Ae ⟨_,Z',HF.out,rfl,rfl,aS.out⟩⟩
def EF (w:World) (X:Nat->Prop) (b o:Nat) (t:Tm):Prop:=∃a c,w.cell? ⟨b,o,none⟩=some (.string t.name)/\w.cell? ⟨b,o+1,none⟩=some (.slice a t.args.length c)/\Sl w X a t.args/\b<w.heap.size
theorem EF.later {w w':World} {X:Nat->Prop} {b o:Nat} {t:Tm} (h:EF w X b o t) (hb:Below w.heap.size w w'):EF w' X b o t:=by
 obtain⟨a,c,h1,h2,h3,h4⟩:=h
 exact⟨a,c,(hb.cell (p:=⟨b,o,none⟩) h4).trans h1,(hb.cell (p:=⟨b,o+1,none⟩) h4).trans h2,h3.later hb,Do h4 hb.size⟩
theorem EF.lt {w:World} {X:Nat->Prop} {b o:Nat} {t:Tm} (h:EF w X b o t):b<w.heap.size:=by
 obtain⟨a,c,h1,h2,h3,h4⟩:=h
 exact h4
theorem EF.sub {w:World} {X:Nat->Prop} {b o:Nat} {t:Tm} (h:EF w X b o t):∃a c,w.cell? ⟨b,o+1,none⟩=some (.slice a t.args.length c)/\∀k (hk:k<t.args.length),∃b' o',a=some ⟨b',o',none⟩/\EF w X b' (o'+k*2) t.args[k]:=by
 obtain⟨a,c,h1,h2,h3,h4⟩:=h
 refine⟨a,c,h2,λk hk=>?_⟩
 obtain⟨b',o',a',c',rfl,d0,d1,hx⟩:=h3.get (Af _ _) (λ_ _ h=>h) k hk
 obtain⟨a2,c2,e2,hx⟩:=hx
 cases e2
 exact⟨b',o',rfl,a',c',d0,d1,hx,D9 d0⟩
def Wi (w:World) (l m:List Tm) (i:Value) (wr:World):Prop:=
 ∃k:Nat,k<=l.length/\i=.int .i64 (k:Int)/\(∀j (h:j<l.length) (h2:j<m.length),j<k->Dq l[j] m[j]=true)/\Below w.heap.size w wr
theorem Wj (X:Nat->Prop) (p:Tm):∀(t:Tm) (b o b2 o2:Nat) (w:World),EF w X b o p->EF w X b2 o2 t->
  Calls Tryz.prog 138 #[.pointer (some ⟨b,o,none⟩),.pointer (some ⟨b2,o2,none⟩)] w λe w'=>e=.returned (.bool (Dq p t))/\Below w.heap.size w w':=by
 induction p using Tm.ind with
 |h s l ih=>
  intro t b o b2 o2 w hp ht
  obtain⟨s2,m⟩:=t
  have IH:=Aa ih
  have HP:=Aa hp
  have HT:=Aa ht
  obtain⟨a,c,p0,p1,hs,aB⟩:=hp
  obtain⟨a2,c2,t0,t1,hs2,az⟩:=ht
  dsimp only at p0 p1 hs t0 t1 hs2 ⊢
  have hl:=hs.1
  have hl2:=hs2.1
  clear ih hs hs2
  cases hvb:Ak s with
  |true=>
   have HR:=Aa (Po (l:=l) (t:=⟨s2,m⟩) hvb)
   go_enter Tryz.func138,Tryz.ntmps138
   go_wp2_with (go_at_call 49; refine(Cz _ _).mono ?_; rintro e w ⟨rfl,rfl⟩; rw[hvb])
   refine Ap (v:=.bool true) (by simp[results,Tryz.results138,go_sem]) rfl ?_
   exact⟨by rw[HR.out],Af _ _⟩
  |false=>
   have aC:=Aa hvb
   cases hn:(s.toList==s2.toList) with
   |false=>
    have HR:Hid (Dq ⟨s,l⟩ ⟨s2,m⟩=false):=by unfold Hid; rw[Jl hvb,hn]; rfl
    go_enter Tryz.func138,Tryz.ntmps138
    have ae:=Aa (And.intro p0 (And.intro p1 (And.intro t0 t1)))
    go_wp2_with (go_at_call 49; refine(Cz _ _).mono ?_; rintro e w ⟨rfl,rfl⟩; rw[hvb])
    refine CU (S:=λw'=>w'.cell? ⟨b,o,none⟩=some (.string s)/\w'.cell? ⟨b,o+1,none⟩=some (.slice a l.length c)/\w'.cell? ⟨b2,o2,none⟩=some (.string s2)/\w'.cell? ⟨b2,o2+1,none⟩=some (.slice a2 m.length c2)) (by kernel_rfl) ae.out (λhHeld=>?_)
    refine tkz 0 ?_ (hy:=by intro w' hSw;obtain⟨k1,k2,k3,k4⟩:=hSw;go_simp<;>with_reducible rfl)
    refine tkz 1 ?_ (hy:=by intro w' hSw;obtain⟨k1,k2,k3,k4⟩:=hSw;go_simp<;>with_reducible rfl)
    refine tkz 2 ?_ (hy:=by intro w' hSw;obtain⟨k1,k2,k3,k4⟩:=hSw;go_simp<;>with_reducible rfl)
    refine tkz 3 ?_ (hy:=by intro w' hSw;obtain⟨k1,k2,k3,k4⟩:=hSw;go_simp<;>with_reducible rfl)
    refine tkz 4 ?_ (hy:=by intro w' hSw;obtain⟨k1,k2,k3,k4⟩:=hSw;go_simp<;>with_reducible rfl)
    refine tkz 5 ?_ (hy:=by intro w' hSw;obtain⟨k1,k2,k3,k4⟩:=hSw;go_simp<;>with_reducible rfl)
    refine tkz 6 ?_ (hy:=by intro w' hSw;obtain⟨k1,k2,k3,k4⟩:=hSw;go_simp<;>with_reducible rfl)
    refine tkz 7 ?_ (hy:=by intro w' hSw;obtain⟨k1,k2,k3,k4⟩:=hSw;go_simp<;>with_reducible rfl)
    refine tkz 8 ?_ (hy:=by intro w' hSw;obtain⟨k1,k2,k3,k4⟩:=hSw;go_simp<;>with_reducible rfl)
    refine tkz 9 ?_ (hy:=by intro w' hSw;obtain⟨k1,k2,k3,k4⟩:=hSw;go_simp<;>with_reducible rfl)
    refine tku 10 ?_
    try simp only[Act.put,sq]
    refine tku 11 ?_
    try simp only[Act.put,sq]
    refine tku 12 ?_
    try simp only[Act.put,sq]
    refine tku 13 ?_
    try simp only[Act.put,sq]
    refine tku 14 ?_
    try simp only[Act.put,sq]
    refine tku 15 ?_
    try simp only[Act.put,sq]
    refine tku 16 ?_
    try simp only[Act.put,sq]
    refine tku 17 ?_
    try simp only[Act.put,sq]
    refine tku 18 ?_
    try simp only[Act.put,sq]
    refine tku 19 ?_
    try simp only[Act.put,sq]
    refine tku 20 ?_
    try simp only[Act.put,sq]
    refine tkz 21 ?_ (hy:=by intro w' hSw;obtain⟨k1,k2,k3,k4⟩:=hSw;go_simp<;>with_reducible rfl)
    refine dnq ?_
    go_wp2_with fail
    refine Ap (v:=.bool false) (by simp[results,Tryz.results138,go_sem]) rfl ?_
    exact⟨by rw[HR.out],(Af _ _).drew⟩
   |true=>
    by_cases hm:l.length=m.length
    case neg=>
     have HR:Hid (Dq ⟨s,l⟩ ⟨s2,m⟩=false):=by unfold Hid; rw[Jl hvb,hn]; simp[hm]
     have a6:((l.length:Int)==(m.length:Int))=false:=DL.2 (by omega)
     have aD:((l.length:Int) !=(m.length:Int))=true:=by simp[bne,a6]
     clear hm
     go_enter Tryz.func138,Tryz.ntmps138
     have ae:=Aa (And.intro p0 (And.intro p1 (And.intro t0 t1)))
     go_wp2_with (go_at_call 49; refine(Cz _ _).mono ?_; rintro e w ⟨rfl,rfl⟩; rw[hvb])
     go_region_held3 (λw'=>w'.cell? ⟨b,o,none⟩=some (.string s)/\w'.cell? ⟨b,o+1,none⟩=some (.slice a l.length c)/\w'.cell? ⟨b2,o2,none⟩=some (.string s2)/\w'.cell? ⟨b2,o2+1,none⟩=some (.slice a2 m.length c2)) (first|exact ae.out|go_keep) (fail)
     go_wp2_with fail
     refine Ap (v:=.bool false) (by simp[results,Tryz.results138,go_sem]) rfl ?_
     exact⟨by rw[HR.out],(Af _ _).drew⟩
    case pos=>
     have HR:Hid (Dq ⟨s,l⟩ ⟨s2,m⟩=EW l m):=by unfold Hid; rw[Jl hvb,hn]; simp[hm]
     have ah:=Aa hm
     rw[<-hm]at t1 hl2
     clear hm
     go_enter Tryz.func138,Tryz.ntmps138
     have ae:=Aa (And.intro p0 (And.intro p1 (And.intro t0 t1)))
     go_wp2_with (go_at_call 49; refine(Cz _ _).mono ?_; rintro e w ⟨rfl,rfl⟩; rw[hvb])
     go_region_held3 (λw'=>w'.cell? ⟨b,o,none⟩=some (.string s)/\w'.cell? ⟨b,o+1,none⟩=some (.slice a l.length c)/\w'.cell? ⟨b2,o2,none⟩=some (.string s2)/\w'.cell? ⟨b2,o2+1,none⟩=some (.slice a2 l.length c2)) (first|exact ae.out|go_keep) (fail)
     go_wp2_with fail
     go_loopw [38] (λi wr=>Wi w l m i wr) (λi wr=>l.length-(intOf i).toNat)
     case atStart=>exact⟨0,AE _,rfl,λj _ _ h=>absurd h (by omega),(Af _ _).drew⟩
     case round=>
      obtain⟨k,hk,rfl,hT,hB⟩:=hrel
      have aq:=Aa hT
      have HB:=Aa hB
      have ar:=Aa (HP.out.later hB)
      have au:=Aa (HT.out.later hB)
      clear hT hB
      by_cases hlt:k<l.length
      ·have af:k<m.length:=by have:=ah.out; omega
       obtain⟨a',c',q1,ag⟩:=ar.out.sub
       obtain⟨b',o',rfl,hx⟩:=ag k hlt
       obtain⟨aF,av,r1,aa⟩:=au.out.sub
       obtain⟨ai,aj,rfl,hx2⟩:=aa k af
       dsimp only at q1 r1 hx hx2
       rw[<-ah.out]at r1
       have hk2:(k:Int)<(l.length:Int):=by omega
       have ak:=Aa (And.intro q1 r1)
       have HI:Hid (Calls Tryz.prog 138 #[.pointer (some ⟨b',o'+k*2,none⟩),.pointer (some ⟨ai,aj+k*2,none⟩)] wr.drew λe w'=>e=.returned (.bool (Dq l[k] m[k]))/\Below wr.drew.heap.size wr.drew w'):=IH.out l[k] (AV hlt) m[k] b' (o'+k*2) ai (aj+k*2) wr.drew (hx.later ((Af _ _).drew)) (hx2.later ((Af _ _).drew))
       have a7:=Aa (λh0=>V9 ah.out hlt af h0)
       have a8:Hid (Dq l[k] m[k]=true->∀j (h:j<l.length) (h2:j<m.length),j<k+1->Dq l[j] m[j]=true):=λh0 j h h2 hj=>by
        by_cases e:j=k
        ·subst e; exact h0
        ·exact aq.out j h h2 (by omega)
       have aw:∀w5,Below wr.drew.heap.size wr.drew w5->w5.cell? ⟨b,o+1,none⟩=some (.slice (some ⟨b',o',none⟩) l.length c')/\w5.cell? ⟨b2,o2+1,none⟩=some (.slice (some ⟨ai,aj,none⟩) l.length av):=λw5 h5=>⟨(h5.cell (p:=⟨b,o+1,none⟩) (ar.out.lt)).trans ak.out.1,(h5.cell (p:=⟨b2,o2+1,none⟩) (au.out.lt)).trans ak.out.2⟩
       have aA:=Aa aw
       clear ag aa hx hx2 aw
       generalize Dq l[k] m[k]=y at *
       go_wp2_with fail
       go_region_held3 (λw'=>w'.cell? ⟨b,o+1,none⟩=some (.slice (some ⟨b',o',none⟩) l.length c')/\w'.cell? ⟨b2,o2+1,none⟩=some (.slice (some ⟨ai,aj,none⟩) l.length av)) (first|exact ak.out|exact ax|go_keep)
        ((go_at_call 138; refine HI.out.mono ?_; rintro e w5 ⟨rfl,ao⟩; have ax:=aA.out w5 ao))
       have ay:=Aa (HB.out.trans (((Af _ _).drew.trans ao).mono HB.out.size))
       clear ao ax
       cases y with
       |false=>
        have HF:=Aa (HR.out.trans (a7.out rfl))
        go_wp2_with fail
        refine Ap (v:=.bool false) (by simp[results,Tryz.results138,go_sem]) rfl ?_
        exact⟨by rw[HF.out],ay.out⟩
       |true=>
        go_wp2_with fail
        go_roundw
        case rel=>exact⟨k+1,by omega,by go_num,a8.out rfl,ay.out⟩
        case measure=>simp[intOf]; omega
      ·have HF:Hid (Dq ⟨s,l⟩ ⟨s2,m⟩=true):=by
        unfold Hid
        rw[HR.out,Kj l m ah.out]
        exact λj h h2=>aq.out j h h2 (by omega)
       go_wp2_with fail
       refine Ap (v:=.bool true) (by simp[results,Tryz.results138,go_sem]) rfl ?_
       exact⟨by rw[HF.out],HB.out⟩
def Wk (w:World) (Y:Nat->Prop) (p t:Tm) (e:Ending) (w':World):Prop:=
 Below w.heap.size w w'/\((AY p t []=none/\e=.returned (.tuple #[.map none,.bool false]))∨
  ∃(h':List Bd) (q:Nat) (Z':List Bc),AY p t []=some h'/\e=.returned (.tuple #[.map (some q),.bool true])/\Z'.map (·.1)=h'/\Ff w' q Y Z'/\w.heap.size<=q)
theorem Wl (w:World) (m v:Value) (T1 T2:Nat):Below w.heap.size w (((w.alloc (.map #[] 0)).alloc (.cells #[m] T1)).alloc (.cells #[v] T2))/\
  Bl (((w.alloc (.map #[] 0)).alloc (.cells #[m] T1)).alloc (.cells #[v] T2)) w.heap.size []/\Ac (((w.alloc (.map #[] 0)).alloc (.cells #[m] T1)).alloc (.cells #[v] T2)) (w.heap.size+1) #[m] T1/\Ac (((w.alloc (.map #[] 0)).alloc (.cells #[m] T1)).alloc (.cells #[v] T2)) (w.heap.size+1+1) #[v] T2:=by
 refine⟨((((Af _ _).alloc (Aj _) _).alloc (by simp) _).alloc (by simp; omega) _),?_,?_,?_⟩
 ·have h:=Bl.new w
  have h1:=(h.below ((Af _ _).alloc (Aj _) (.cells #[m] T1)) h.lt)
  have h2:=(h1.below ((Af _ _).alloc (Aj _) (.cells #[v] T2)) h1.lt)
  simpa using h2
 ·have h:=(Ac.new (w.alloc (.map #[] 0)) #[m] T1).alloc (.cells #[v] T2)
  simpa using h
 ·have h:=Ac.new ((w.alloc (.map #[] 0)).alloc (.cells #[m] T1)) #[v] T2
  simpa using h
theorem EF.of_blk {w:World} {X:Nat->Prop} {b:Nat} {t:Tm} {a:Option Addr} {c T:Nat} (h:Ac w b #[.string t.name,.slice a t.args.length c] T) (hs:Sl w X a t.args):EF w X b 0 t:=⟨a,c,h.cell 0,h.cell 1,hs,h.lt⟩
theorem Wm (p t:Tm) (pv tv:Value) (w:World) (X:Nat->Prop) (hp:TV w X pv p) (ht:TV w X tv t):
  Calls Tryz.prog 125 #[pv,tv] w λe w'=>Wk w (λb=>X b/\b<w.heap.size) p t e w':=by
 obtain⟨a,c,rfl,hs⟩:=hp
 obtain⟨a2,c2,rfl,hs2⟩:=ht
 have HS:=Aa (hs.mono (Y:=λb=>X b/\b<w.heap.size) λb h1 h2=>⟨h1,h2⟩)
 have ao:=Aa (hs2.mono (Y:=λb=>X b/\b<w.heap.size) λb h1 h2=>⟨h1,h2⟩)
 clear hs hs2
 have a6:=@run_makeMap Tryz.prog
 have a7:=@hmq Tryz.prog
 have Bx:Below w.heap.size w ((w.alloc (.cells #[.string p.name,.slice a p.args.length c] 29)).alloc (.cells #[.string t.name,.slice a2 t.args.length c2] 29)):=CO _ _
 have ae:Ac ((w.alloc (.cells #[.string p.name,.slice a p.args.length c] 29)).alloc (.cells #[.string t.name,.slice a2 t.args.length c2] 29)) w.heap.size #[.string p.name,.slice a p.args.length c] 29:=(Ac.new w _ _).alloc _
 have af:Ac ((w.alloc (.cells #[.string p.name,.slice a p.args.length c] 29)).alloc (.cells #[.string t.name,.slice a2 t.args.length c2] 29)) (w.heap.size+1) #[.string t.name,.slice a2 t.args.length c2] 29:=by
  have h:=Ac.new (w.alloc (.cells #[.string p.name,.slice a p.args.length c] 29)) #[.string t.name,.slice a2 t.args.length c2] 29
  simpa using h
 go_enter Tryz.func125,Tryz.ntmps125
 go_wp2_with fail
 generalize (w.alloc (.cells #[.string p.name,.slice a p.args.length c] 29)).alloc (.cells #[.string t.name,.slice a2 t.args.length c2] 29)=w2 at *
 refine(Wj (λb=>X b/\b<w.heap.size) p t _ _ _ _ w2 (EF.of_blk ae (HS.out.later Bx)) (EF.of_blk af (ao.out.later Bx))).mono ?_
 rintro e w3 ⟨rfl,hb3⟩
 have ag:=Aa (Bx.trans (hb3.mono Bx.size))
 have ai:=Aa (ae.below hb3 ae.lt)
 have aj:=Aa (af.below hb3 af.lt)
 have aq:=ai.out.lt
 have ar:=aj.out.lt
 clear hb3 ae af Bx
 cases ah:Dq p t with
 |false=>
  have H0:=Aa (Wb (p:=p) (t:=t) [] ah)
  clear ah
  go_wp2_with fail
  refine Ap (v:=.tuple #[.map none,.bool false]) (by simp[results,Tryz.results125,go_sem]) rfl ?_
  exact⟨ag.out,Ad ⟨H0.out,rfl⟩⟩
 |true=>
  have ax:=Aa ah
  clear ah
  have Qa1:=Aa (Wl w3 (.map (some w3.heap.size)) (.func (.func 139) #[] #[.pointer (some ⟨w3.heap.size+1,0,none⟩),.pointer (some ⟨w3.heap.size+1+1,0,none⟩)]) 96 48)
  have p0:(((w3.alloc (.map #[] 0)).alloc (.cells #[.map (some w3.heap.size)] 96)).alloc (.cells #[.func (.func 139) #[] #[.pointer (some ⟨w3.heap.size+1,0,none⟩),.pointer (some ⟨w3.heap.size+1+1,0,none⟩)]] 48)).cell? ⟨w.heap.size,0,none⟩=some (.string p.name):=(ai.out.below Qa1.out.1 aq).cell 0
  have p1:(((w3.alloc (.map #[] 0)).alloc (.cells #[.map (some w3.heap.size)] 96)).alloc (.cells #[.func (.func 139) #[] #[.pointer (some ⟨w3.heap.size+1,0,none⟩),.pointer (some ⟨w3.heap.size+1+1,0,none⟩)]] 48)).cell? ⟨w.heap.size,1,none⟩=some (.slice a p.args.length c):=(ai.out.below Qa1.out.1 aq).cell 1
  have t0:(((w3.alloc (.map #[] 0)).alloc (.cells #[.map (some w3.heap.size)] 96)).alloc (.cells #[.func (.func 139) #[] #[.pointer (some ⟨w3.heap.size+1,0,none⟩),.pointer (some ⟨w3.heap.size+1+1,0,none⟩)]] 48)).cell? ⟨w.heap.size+1,0,none⟩=some (.string t.name):=(aj.out.below Qa1.out.1 ar).cell 0
  have t1:(((w3.alloc (.map #[] 0)).alloc (.cells #[.map (some w3.heap.size)] 96)).alloc (.cells #[.func (.func 139) #[] #[.pointer (some ⟨w3.heap.size+1,0,none⟩),.pointer (some ⟨w3.heap.size+1+1,0,none⟩)]] 48)).cell? ⟨w.heap.size+1,1,none⟩=some (.slice a2 t.args.length c2):=(aj.out.below Qa1.out.1 ar).cell 1
  go_wp2_with fail
  generalize (((w3.alloc (.map #[] 0)).alloc (.cells #[.map (some w3.heap.size)] 96)).alloc (.cells #[.func (.func 139) #[] #[.pointer (some ⟨w3.heap.size+1,0,none⟩),.pointer (some ⟨w3.heap.size+1+1,0,none⟩)]] 48))=w5 at *
  have aa:=Aa (ag.out.trans (Qa1.out.1.mono ag.out.size))
  have au:=Aa Qa1.out.2.2.1
  have a8:=aa.out.size
  have hz3:=ag.out.size
  refine(We (w3.heap.size+1) (w3.heap.size+1+1) w3.heap.size (λb=>X b/\b<w.heap.size) p t [] _ _ w5 ⟨a,c,rfl,HS.out.later aa.out⟩ ⟨a2,c2,rfl,ao.out.later aa.out⟩ Qa1.out.2.2.1 Qa1.out.2.2.2 ⟨Qa1.out.2.1,by simp⟩ (λb hb=>⟨by omega,by omega⟩) ax.out).mono ?_
  rintro e w6 ⟨ak,ay⟩
  have av:Hid (Below w.heap.size w w6):=aa.out.grown ak aa.out.size (λj hj=>by cases hj; omega)
  have az:Hid (Ac w6 (w3.heap.size+1) #[.map (some w3.heap.size)] 96):=(ak.block _ au.out.lt (by simp)).trans au.out
  have s0:=az.out.c0
  clear ak
  rcases ay with ⟨h0,rfl⟩|⟨h',Z',h0,rfl,hz',aw⟩
  ·have H0:=Aa h0
   clear h0
   go_wp2_with fail
   refine Ap (v:=.tuple #[.map none,.bool false]) (by simp[results,Tryz.results125,go_sem]) rfl ?_
   exact⟨av.out,Ad ⟨H0.out,rfl⟩⟩
  ·have H0:=Aa h0
   have HZ:=Aa hz'
   have HM:=Aa aw
   clear h0 hz' aw
   go_wp2_with fail
   refine Ap (v:=.tuple #[.map (some w3.heap.size),.bool true]) (by simp[results,Tryz.results125,go_sem]) rfl ?_
   exact⟨av.out,Ae ⟨h',_,Z',H0.out,rfl,HZ.out,HM.out,hz3⟩⟩
def Fg (w:World) (r:Nat) (X:Nat->Prop) (ls:List Bd) (L:List (ByteArray×Value)):Prop:=Bl w r L/\DF w X ls L
theorem Fg.ex {w w':World} {r F:Nat} {X:Nat->Prop} {ls:List Bd} {L:List (ByteArray×Value)} (h:Fg w r X ls L) (he:Ex F w w') (hr:r≠F) (hX:∀b,X b->b≠F):Fg w' r X ls L:=
 ⟨h.1.kept (he.block r h.1.lt hr),h.2.imp λa l hs=>hs.ex he hX⟩
theorem Fg.later {w w':World} {r:Nat} {X:Nat->Prop} {ls:List Bd} {L:List (ByteArray×Value)} (h:Fg w r X ls L) (hb:Below w.heap.size w w'):Fg w' r X ls L:=
 ⟨h.1.below hb h.1.lt,h.2.imp λa l hs=>hs.later hb⟩
attribute [local go_sem] GJ
abbrev Ft:=Pr×List Bd
def Cm (rs:List Pr) (x:Tm):List Ft:=rs.filterMap λp=>(AY p.l x []).map λh=>(p,h)
theorem Wn {rs:List Pr} {x:Tm} {k:Nat} (h:k<rs.length) (h0:AY rs[k].l x []=none):Cm (rs.take (k+1)) x=Cm (rs.take k) x:=by
 unfold Cm
 rw[Bm h,Lu]
 simp[h0]
theorem Wo {rs:List Pr} {x:Tm} {k:Nat} {g:List Bd} (h:k<rs.length) (h0:AY rs[k].l x []=some g):Cm (rs.take (k+1)) x=Cm (rs.take k) x++[(rs[k],g)]:=by
 unfold Cm
 rw[Bm h,Lu]
 simp[h0]
theorem Wp (rs:List Pr) (x:Tm) (k:Nat):Cm rs x=Cm (rs.take k) x++Cm (rs.drop k) x:=by
 unfold Cm
 rw[<-Lu,Eu]
def FW (x:Ft) (args:Array Value) (W:World) (Z:Nat->Prop):Prop:=
 ∃ra rc q L,args=#[.agg #[.string x.1.r.name,.slice ra x.1.r.args.length rc,.map (some q)]]/\Sl W Z ra x.1.r.args/\Z q/\Fg W q Z x.2 L
theorem Ps {w:World} {Y:Nat->Prop}:∀ {Z':List Bc},(∀x∈Z',Sl w Y x.2.1 x.1.t.args)->DF w Y (Z'.map (·.1)) (Z'.map Gi)
 | [],_=>rfl
 |x::r,h=>⟨x.2.1,x.2.2,_,rfl,h x (by simp),Ps λy hy=>h y (by simp[hy])⟩
def Wq {J:Tk Ft} (w:World) (f:Nat->Prop) (pre:List Ft) (rs:List Pr) (x:Tm) (i:Value) (wr:World):Prop:=
 ∃(k:Nat) (f':Nat->Prop),k<=rs.length/\i=.int .i64 (k:Int)/\J (pre++Cm (rs.take k) x) true f' wr/\Al f w wr/\∀b,f' b->f b∨w.heap.size<=b
theorem Wr {J:Tk Ft} {K:Nat->Prop} {all:List Ft} (hJ:Fx J K) (lp:Nat) {S:World->Prop} (RH:Jk lp FW J all S) (rs:List Pr) (x:Tm) (R T:Nat) (uv:Value) (aa:Option Addr) (ca:Nat) (pre:List Ft) (f:Nat->Prop) (w:World) (X:Nat->Prop) (hR:Ac w R #[uv] 22) (hu:QV w X uv rs) (hT:Ac w T #[.string x.name,.slice aa x.args.length ca] 29) (hs:Sl w X aa x.args) (hX:∀b,X b->b<w.heap.size/\¬f b) (aX:¬f R) (aI:¬f T) (hj:J pre true f w) (a7:(pre++Cm rs x) <+: all):
  Calls Tryz.prog 124 #[.func (.yield lp) #[] #[],.pointer (some ⟨R,0,none⟩),.pointer (some ⟨T,0,none⟩)] w λe w'=>Pn J (Cm rs x) pre f S w e w':=by
 have aJ:=Aa a7
 clear a7
 have HU:=Aa hu
 have HS:=Aa hs
 have HX:=Aa hX
 have HJ:=Aa hJ
 have aK:=Aa RH
 have HT:=Aa hT
 have aL:=Aa hj
 have r0:=hR.cell 0
 have aY:=hR.lt
 have aZ:=hT.lt
 obtain⟨ua,uc,rfl,ba,_⟩:=hu
 clear hs hX hJ RH hT hj hR
 simp only[JQ,JR] at r0
 go_enter Tryz.func124,Tryz.ntmps124
 go_wp2_with fail
 go_loopw [10] (λv wr=>Wq (J:=J) w f pre rs x v wr) (λv wr=>rs.length-(intOf v).toNat)
 case atStart=>exact⟨0,f,AE _,rfl,by simpa [Cm] using aL.out,Al.refl _ _,λb hb=>Ad hb⟩
 case round=>
  obtain⟨k,f2,hk,rfl,a8,ai,aj⟩:=hrel
  have af:=Aa a8
  have aq:=Aa ai
  have ae:=Aa aj
  have aM:Hid (∀b,X b->b<wr.heap.size/\¬f2 b):=λb hb=>⟨Do (HX.out b hb).1 ai.size,λh=>by
   rcases ae.out b h with h|h
   ·exact(HX.out b hb).2 h
   ·have:=(HX.out b hb).1; omega⟩
  have ax:=Aa (HT.out.exq ai aI)
  have aN:=Aa (HS.out.exq ai λb hb=>(HX.out b hb).2)
  have aO:Hid (QV wr X (.slice ua rs.length uc) rs):=((HU.out.mono (Y:=λb=>X b/\b<w.heap.size) λb h1 h2=>⟨h1,h2⟩).kept λb hb=>aq.out.block b hb.2 (HX.out b hb.1).2).mono λb hb _=>hb.1
  clear a8 ai aj
  by_cases hlt:k<rs.length
  ·obtain⟨b,o,a1,c1,a2,c2,rfl,d0,d1,d2,d3,hs1,hs2⟩:=aO.out.get k hlt
   have aP:(k:Int)<(rs.length:Int):=by omega
   have aQ:=Aa hs1
   have aR:=Aa hs2
   have aS:=λh=>Aa (Wn (x:=x) hlt h)
   have ay:=λg h=>Aa (Wo (x:=x) (g:=g) hlt h)
   have ah:=Aa (Wp rs x (k+1))
   have bb:=ax.out.lt
   clear hs1 hs2
   generalize rs[k]=d at *
   have t0:∀o,(wr.alloc o).cell? ⟨T,0,none⟩=some (.string x.name):=λo=>(ax.out.alloc o).cell 0
   have t1:∀o,(wr.alloc o).cell? ⟨T,1,none⟩=some (.slice aa x.args.length ca):=λo=>(ax.out.alloc o).cell 1
   have ar:Below wr.heap.size wr (wr.alloc (.cells #[.string d.l.name,.slice a1 d.l.args.length c1,.string d.r.name,.slice a2 d.r.args.length c2] 31)):=(Af _ _).alloc (Aj _) _
   have ag:=Aa ar
   have P0:=Aa (Ac.new wr #[.string d.l.name,.slice a1 d.l.args.length c1,.string d.r.name,.slice a2 d.r.args.length c2] 31)
   refine(wpIn_wide (n:=1)).1 ?_
   gi_wp2
   clear t0 t1 d0 d1 d2 d3
   refine⟨trivial,(DN.2 (Wm d.l x _ _ _ X ⟨a1,c1,rfl,aQ.out.later ar⟩ ⟨aa,ca,rfl,aN.out.later ar⟩)).mono ?_⟩
   clear ar
   rintro e w3 ⟨hb3,⟨h0,rfl⟩|⟨h',q,Z',h0,rfl,hz',au,hq⟩⟩
   ·have az:Hid (J (pre++Cm (rs.take k) x) true f2 w3):=HJ.out.abide af.out (AX ag.out.size hb3.size) λj hj=>((hb3.block j (by have:=HJ.out.inside af.out j hj; simp; omega))).trans (ag.out.block j (HJ.out.inside af.out j hj))
    have av:Hid (Al f w w3):=(aq.out.trans (Al.ofBelow ag.out)).trans (Al.ofBelow hb3)
    have HN:=aS h0
    clear hb3 h0
    gi_wp2
    refine⟨λ_ h=>(by cases h),?_⟩
    gi_wp2
    go_roundw
    case rel=>exact⟨k+1,f2,by omega,by go_num,by rw[HN.out]; exact az.out,av.out,ae.out⟩
    case measure=>simp[intOf]; omega
   ·have hz3:=AX ag.out.size hb3.size
    have az:Hid (J (pre++Cm (rs.take k) x) true f2 w3):=HJ.out.abide af.out (AX ag.out.size hb3.size) λj hj=>((hb3.block j (by have:=HJ.out.inside af.out j hj; simp; omega))).trans (ag.out.block j (HJ.out.inside af.out j hj))
    have av:Hid (Al f w w3):=(aq.out.trans (Al.ofBelow ag.out)).trans (Al.ofBelow hb3)
    have HY:=ay h' h0
    have P3:=Aa (P0.out.below hb3 P0.out.lt)
    have p2:=P3.out.c2
    have p3:=P3.out.c3
    have bc:wr.heap.size<=q:=by simp at hq; omega
    have aA:Sl w3 X a2 d.r.args:=(aR.out.later ag.out).later hb3
    have aT:=aK.out 0 _ (d,h') #[.agg #[.string d.r.name,.slice a2 d.r.args.length c2,.map (some q)]] (λb=>(X b∨b=q)/\b<w3.heap.size) f2 w3 (List.IsPrefix.trans ⟨Cm (rs.drop (k+1)) x,by rw[ah.out,HY.out]; simp⟩ aJ.out) az.out ⟨a2,c2,q,Z'.map Gi,rfl,aA.mono λb hb hl=>⟨Ad hb,hl⟩,⟨Ae rfl,au.1.lt⟩,au.1,by rw[<-hz']; exact Ps λy hy=>(au.2 y hy).mono λb hb hl=>⟨Ad hb.1,hl⟩⟩ (λb hb=>⟨hb.2,λh=>by
     rcases hb.1 with h1|h1
     ·exact(aM.out b h1).2 h
     ·have:=HJ.out.inside af.out b (Ad h); omega⟩)
    obtain⟨hfn,aB,aU,aC,hy,hR⟩:=aT
    have HR:=Aa hR
    clear hR au hz' h0 hb3 aA
    gi_wp2
    refine HR.out.mono ?_
    rintro e W5 ⟨s5,rfl,f5,aD,aw,ak,aF⟩
    have aV:=Aa aF
    clear aF
    have aG:=Aa aD
    have bf:=Aa aw
    have a6:=Aa ak
    have bg:=aw.size
    have aH:Hid (Al f w W5):=av.out.transN aw λi hi hl=>by
     rcases ae.out i hi with h|h
     ·exact h
     ·omega
    have ao:Hid (∀b,f5 b->f b∨w.heap.size<=b):=λb hb=>by
     have:=av.out.size
     rcases a6.out b hb with h|h
     ·exact ae.out b h
     ·right; omega
    clear aD aw ak hy
    cases s5 with
    |true=>
     gi_wp2
     go_roundw
     case rel=>exact⟨k+1,f5,by omega,by go_num,by rw[HY.out]; simpa using aG.out,aH.out,ao.out⟩
     case measure=>simp[intOf]; omega
    |false=>
     gi_wp2
     refine Ap (results_none rfl _ _ _) rfl ?_
     refine⟨⟨_,rfl⟩,false,⟨(Cm (rs.take (k+1)) x).length,f5,by rw[ah.out]; simp,by simp,?_,aH.out.mono λb hb _=>Ad hb,ao.out⟩,λ_=>aV.out rfl⟩
     rw[ah.out,List.take_left,HY.out]
     simpa using aG.out
  ·have aW:rs.take k=rs:=AW (by omega)
   rw[aW]at af
   have bh:¬((k:Int)<(rs.length:Int)):=by omega
   go_wp2_with fail
   go_end0
   exact⟨⟨_,rfl⟩,true,⟨(Cm rs x).length,f2,Aj _,λ_=>rfl,by rw[EO]; exact af.out,aq.out.mono λb hb _=>Ad hb,ae.out⟩,λh=>by cases h⟩
def JL {α β:Type} (J:Tk α) (K':Nat->Prop) (G:β->List α) (pre:List α) (L:Nat) (r rd:Loop) (W0:World):Tk β:=λpre2 s f2 W=>
 ∃(f:Nat->Prop) (m:Nat),(∀b,f2 b↔f b∨b=L)/\m<=(pre2.flatMap G).length/\(s=true->m=(pre2.flatMap G).length)/\J (pre++(pre2.flatMap G).take m) s f W/\¬f L/\W.heap[L]? = some (.loop (if s=true then r else rd))/\(∀b,K' b->b<W0.heap.size/\¬f b/\b≠L)/\W0.heap.size<=W.heap.size/\∀b,K' b->W.heap[b]? = W0.heap[b]?
theorem JL.ok {α β:Type} {J:Tk α} {K K':Nat->Prop} {G:β->List α} {pre:List α} {L:Nat} {r rd:Loop} {W0:World} (hJ:Fx J K) (hK:∀b,K b->K' b):Fx (JL J K' G pre L r rd W0) K' where
 inside:=by
  rintro aa s f2 W ⟨f,m,hf2,hm,ae,hj,af,hL,hK2,hz,hC⟩ b hb
  rcases hb with hb|hb
  ·rcases(hf2 b).1 hb with h|h
   ·exact hJ.inside hj b (Ad h)
   ·subst h; exact(DM.1 hL).1
  ·have:=(hK2 b hb).1; omega
 apart:=by
  rintro aa s f2 W ⟨f,m,hf2,hm,ae,hj,af,hL,hK2,hz,hC⟩ b hb h
  rcases(hf2 b).1 h with h|h
  ·exact(hK2 b hb).2.1 h
  ·exact(hK2 b hb).2.2 h
 abide:=by
  rintro aa s f2 W W' ⟨f,m,hf2,hm,ae,hj,af,hL,hK2,hz,hC⟩ hs hk
  refine⟨f,m,hf2,hm,ae,hJ.abide hj hs (λb hb=>hk b ?_),af,(hk L (Ad ((hf2 L).2 (Ae rfl)))).trans hL,hK2,AX hz hs,λb hb=>(hk b (Ae hb)).trans (hC b hb)⟩
  rcases hb with hb|hb
  ·exact Ad ((hf2 b).2 (Ad hb))
  ·exact Ae (hK b hb)
theorem JL.start {α β:Type} {J:Tk α} {K' f:Nat->Prop} {G:β->List α} {pre:List α} {L:Nat} {r rd:Loop} {W0:World} (hj:J pre true f W0) (aa:¬f L) (hL:W0.heap[L]? = some (.loop r)) (hK:∀b,K' b->b<W0.heap.size/\¬f b/\b≠L):JL J K' G pre L r rd W0 [] true (λb=>f b∨b=L) W0:=
 ⟨f,0,λb=>Iff.rfl,AE _,λ_=>rfl,by simpa using hj,aa,hL,hK,Aj _,λb _=>rfl⟩
attribute [local go_sem] GJ
theorem Ws {J:Tk Dn} {K:Nat->Prop} {all:List Dn} (hJ:Fx J K) (lp:Nat) {S:World->Prop} (RH:Jk lp Mi J all S) (t:Tm) (fs:List Int) (T F:Nat) (aa:Option Addr) (ca:Nat) (fv:Value) (pre:List Dn) (f:Nat->Prop) (w:World) (X:Nat->Prop) (hT:Ac w T #[.string t.name,.slice aa t.args.length ca] 29) (hs:Sl w X aa t.args) (hF:Ac w F #[fv] 56) (ah:PV w X fv fs) (hat:(AR t fs).isSome=true) (hX:∀b,X b->b<w.heap.size/\¬f b) (hj:J pre true f w) (hz:Ab [t]<=800000) (ae:(pre++AM [] fs t) <+: all):
  Calls Tryz.prog 58 #[.func (.yield lp) #[] #[],.pointer (some ⟨T,0,none⟩),.pointer (some ⟨F,0,none⟩)] w λe w'=>Pn J (AM [] fs t) pre f S w e w':=by
 have t0:=hT.cell 0
 have t1:=hT.cell 1
 have f0:=hF.cell 0
 have hK:∀b,K b->b<w.heap.size:=λb hb=>hJ.inside hj b (Ae hb)
 obtain⟨fa,fc,rfl,af,ag⟩:=ah
 have HD:=Aa (V8 hJ w.heap.size lp hK RH t (.agg #[.string t.name,.slice aa t.args.length ca]) (.slice none 0 0) (.slice fa fs.length fc) [] fs pre f w X ⟨aa,ca,rfl,hs⟩ ⟨fa,fc,rfl,af,ag⟩ hat hX (Aj _) (Ga _ _ _ _) (by simp[Value.ownBlock]) hj (by simp; omega) ae)
 simp only[JQ,JR,Lt] at t0 t1 f0
 clear hT hs hF af ag hat hX hj hz hK RH hJ ae
 go_enter Tryz.func58,Tryz.ntmps58
 go_wp2_with fail
 refine HD.out.mono ?_
 rintro e w1 ⟨b,rfl,hw,_,hS⟩
 go_wp2_with fail
 go_end0
 exact⟨⟨_,rfl⟩,b,(hw.mono λb hb _=>by simp[Value.ownBlock] at hb),hS⟩
theorem Pt (uv:Value) (ae:∃a n c,uv=.slice a n c) (s:ByteArray) (aa:Option Addr) (n ca:Nat) (w:World):
  Calls Tryz.prog 106 #[uv,.agg #[.string s,.slice aa n ca]] w λe w'=>e=.returned (.func (.func 124) #[] #[.pointer (some ⟨w.heap.size,0,none⟩),.pointer (some ⟨w.heap.size+1,0,none⟩)])/\w'=(w.alloc (.cells #[uv] 22)).alloc (.cells #[.string s,.slice aa n ca] 29):=by
 obtain⟨a,n1,c,rfl⟩:=ae
 have af:=@hmq Tryz.prog
 go_enter Tryz.func106,Tryz.ntmps106
 go_wp2_with fail
 go_ret
 exact⟨rfl,rfl⟩
abbrev Ch:=Dn×Ft
def Wt:Go.Shelf.Ren:=⟨fun|41=>88|n=>n,fun|22=>27|23=>29|4=>4|n=>n,fun|n=>n⟩
theorem Wu:Go.Proofs.SlLaysE0.n41 Tryz.prog Wt:={
 mixed:=by kernel_rfl
 f41:=⟨Tryz.f88.name,by decide,Tryz.func88.trans (Bu some (by kernel_rfl))⟩
 t4:=Tryz.underlying4
 a4:=Tryz.isAgg4
 z4:=Tryz.sizeOf4
 v4:=Tryz.zeroValue4
 t22:=Tryz.underlying27
 a22:=Tryz.isAgg27
 z22:=Tryz.sizeOf27
 v22:=Tryz.zeroValue27}
theorem Wv (b off n c:Nat) (news:List Value) (w:World) (hl:news.length=n*2) (hn:n<=1000000) (hc:∀j u,news[j]? = some u->w.cell? ⟨b,off+j,none⟩=some u) (h1:∀u∈news,u.oneCell'=true):
  Calls Tryz.prog 88 #[.slice (some ⟨b,off,none⟩) n c] w λe w'=>∃v',e=.returned v'/\w'.ownsRow w.heap.size 29 2 v' n news/\v'≠.slice none 0 0/\Below w.heap.size w w':=by
 obtain⟨i0,hi,hz0,hz1,hz2⟩:=CT Tryz.infoTerm
 exact AnyE.slices_Clone Wu i0 _ 2 40 hi hz0 hz1 hz2 rfl (by decide) Tryz.sizeOf29 b off n c news w hl (by unfold maxLen; omega) (by omega) hc h1
theorem BJ.put {w:World} {X:Nat->Prop} {y:Tm} {a:Option Addr} {c:Nat} (hy:Sl w X a y.args):∀ {l:List Tm} {xs:List Value} (k:Nat),BJ w X l xs->k<l.length->BJ w X (l.set k y) ((xs.set (k*2) (.string y.name)).set (k*2+1) (.slice a y.args.length c))
  | [],xs,k,h,hk=>by simp at hk
  |t::l,xs,0,h,_=>by
    obtain⟨a',c',r,rfl,h1,h2⟩:=h
    exact⟨a,c,r,by simp,hy,h2⟩
  |t::l,xs,k+1,h,hk=>by
    obtain⟨a',c',r,rfl,h1,h2⟩:=h
    refine⟨a',c',(r.set (k*2) (.string y.name)).set (k*2+1) (.slice a y.args.length c),?_,h1,BJ.put hy k h2 (by simpa using hk)⟩
    have e:(k+1)*2=k*2+1+1:=by omega
    rw[e]
    simp
theorem Mm (f:Tm->Tm):∀(l:List Tm) (j k:Nat) (h:k<l.length),BN f ((j+k:Nat):Int) j l=l.set k (f l[k])
  | [],j,k,h=>by simp at h
  |a::r,j,0,h=>by
    simp only[FL,BN,if_true,List.set_cons_zero,Et]
    have:∀(r:List Tm) (m:Nat),j<m->BN f (j:Int) m r=r:=λr=>by
      induction r with
      |nil=>intro m _; rfl
      |cons b r ih=>intro m hm; rw[BN,An (by omega),ih (m+1) (by omega)]
    rw[this r (j+1) (by omega)]
  |a::r,j,k+1,h=>by
    rw[BN,An (by omega)]
    have:=Mm f r (j+1) k (by simpa using h)
    rw[show j+(k+1)=j+1+k by omega,this]
    simp
theorem Mn {w:World} {N M e z n:Nat} {v:Value} {xs:List Value} (h:w.ownsRow N e z v n xs) (hM:M<=N):w.ownsRow M e z v n xs:=
  ⟨h.1,h.2.imp id λ⟨g,cap,cur,h1,h2,h3⟩=>⟨g,cap,cur,h1,AX hM h2,h3⟩⟩
theorem Ww {w:World} {N e z n G cap O i j:Nat} {u u':Value} {xs:List Value} (h:w.ownsRow N e z (.slice (some ⟨G,0,none⟩) n cap) n xs) (hO:O≠G):((w.setCell ⟨O,i,none⟩ u).setCell ⟨O,j,none⟩ u').ownsRow N e z (.slice (some ⟨G,0,none⟩) n cap) n xs:=by
  obtain⟨hl,h1⟩:=h
  refine⟨hl,?_⟩
  rcases h1 with h1|⟨g,cap',cur,hv,hg,hh,hr⟩
  · exact Ad h1
  · refine Ae ⟨g,cap',cur,hv,hg,?_,hr⟩
    have e:g=G:=by simp at hv; exact hv.1.symm
    rw[Aq _ _ _ _ (by simp; omega),Aq _ _ _ _ (by simp; omega)]
    exact hh
def Mo (W:World) (N:Nat) (s:ByteArray) (n:Nat) (xs:List Value) (o7:Value) (wc:World):Prop:=
  ∃G O cap:Nat,o7=.pointer (some ⟨O,0,none⟩)/\N<=G/\N<=O/\G≠O/\Ac wc O #[.string s,.slice (some ⟨G,0,none⟩) n cap] 29/\wc.ownsRow N 29 2 (.slice (some ⟨G,0,none⟩) n cap) n xs/\Below N W wc
theorem Wx {W w1:World} {N n G cap:Nat} {s:ByteArray} {xs:List Value} (hN:W.heap.size=N) (hown:w1.ownsRow N 29 2 (.slice (some ⟨G,0,none⟩) n cap) n xs) (hb:Below N W w1):
    Mo W N s n xs (.pointer (some ⟨w1.heap.size,0,none⟩)) (w1.alloc (.cells #[.string s,.slice (some ⟨G,0,none⟩) n cap] 29)):=by
  have hl:=hown.lt G rfl
  have hs:=hb.size
  exact⟨G,w1.heap.size,cap,rfl,hl.1,by omega,by omega,Ac.new _ _ _,hown.alloc _,hb.alloc (by omega) _⟩
theorem Wy {W w1:World} {N n G cap O:Nat} {s:ByteArray} {xs:List Value} (hO:N<=O) (hB:Ac w1 O #[.string ⟨#[]⟩,.slice none 0 0] 29) (aa:O<G) (hown:w1.ownsRow N 29 2 (.slice (some ⟨G,0,none⟩) n cap) n xs) (hb:Below N W w1):
    Mo W N s n xs (.pointer (some ⟨O,0,none⟩)) ((w1.setCell ⟨O,0,none⟩ (.string s)).setCell ⟨O,1,none⟩ (.slice (some ⟨G,0,none⟩) n cap)):=by
  have hl:=hown.lt G rfl
  refine⟨G,O,cap,rfl,hl.1,hO,by omega,?_,Ww hown (by omega),(hb.setCell (by simpa using hO) _).setCell (by simpa using hO) _⟩
  have:=(hB.set 0 (.string s)).set 1 (.slice (some ⟨G,0,none⟩) n cap)
  simpa using this
theorem Wz {w w5:World} {X:Nat->Prop} {l:List Tm} {k G R M T n9 c9:Nat} {xs:List Value} {cur:Array Value} {s9:ByteArray} {a9:Option Addr} {y:Tm} (hX:∀b,X b->b<w.heap.size) (hk:k<l.length) (hl:l.length<=9223372036854775807) (aa:BJ w X l xs) (ae:cur.toList.take (l.length*2)=xs) (hG:w.heap.size<=G) (ai:G<M) (hR:w.heap.size<=R) (af:R≠G) (aj:R<M) (GB:Ac w5 G cur T) (hb:Below w.heap.size w w5)
    (ht:TV w5 (λb=>(X b/\b<M)∨M<=b) (.agg #[.string s9,.slice a9 n9 c9]) y):∀wF:World,(∀b,b≠R->wF.heap[b]? = ((w5.setCell ⟨G,k*2,none⟩ (.string s9)).setCell ⟨G,k*2+1,none⟩ (.slice a9 n9 c9)).heap[b]?)->Sl wF (λb=>X b∨w.heap.size<=b) (some ⟨G,0,none⟩) (l.set k y):=by
  intro wF hF
  obtain⟨a',c',e,ag⟩:=ht
  simp at e
  obtain⟨rfl,rfl,rfl,rfl⟩:=e
  have keep:∀b,b≠G->b≠R->wF.heap[b]? = w5.heap[b]? := λb h1 h2=>by
    rw[hF b h2,Aq _ _ _ _ (by simpa using h1),Aq _ _ _ _ (by simpa using h1)]
  have h1:BJ wF (λb=>X b∨w.heap.size<=b) l xs:=aa.imp λa kk hs=>(hs.kept λb hb2=>by
    have:=hX b hb2
    rw[keep b (by omega) (by omega),hb.block b this]).mono λb hb2 _=>Ad hb2
  have h2:Sl wF (λb=>X b∨w.heap.size<=b) a9 y.args:=(ag.kept λb hb2=>by
    rcases hb2 with hb2|hb2
    · have:=hX b hb2.1
      exact keep b (by omega) (by omega)
    · exact keep b (by omega) (by omega)).mono λb hb2 _=>by
    rcases hb2 with hb2|hb2
    · exact Ad hb2.1
    · exact Ae (by omega)
  have h3:=BJ.put (c:=c9) h2 k h1 hk
  have ah:Ac wF G ((cur.setIfInBounds (k*2) (.string y.name)).setIfInBounds (k*2+1) (.slice a9 y.args.length c9)) T:=by
    have h4:=(GB.set (k*2) (.string y.name)).set (k*2+1) (.slice a9 y.args.length c9)
    unfold Ac at *
    rw[hF G (λe=>af e.symm)]
    exact h4
  refine⟨by simpa using hl,Ae ⟨G,0,rfl,NI G (Ae hG) _ _ 0 h3 (λ_ _ h=>h) λj u hj=>?_⟩⟩
  rw[Ey]
  refine(ah.cell j).trans ?_
  rw[<-ae,<-List.take_set,<-List.take_set,List.getElem?_take]at hj
  split at hj
  · rw[<-Array.getElem?_toList]
    simpa using hj
  · cases hj
theorem WA (x:Tm) (zs:List Int):∀(t:Tm) (v p u:Value) (w:World) (X Y:Nat->Prop),TV w X v t->PV w Y p zs->TV w X u x->(AR t zs).isSome=true->Ab [t]<=1000000->
    Calls Tryz.prog 65 #[v,p,u] w λe w'=>∃v',e=.returned v'/\TV w' (λb=>(X b/\b<w.heap.size)∨w.heap.size<=b) v' (AL x zs t)/\Below w.heap.size w w':=by
  induction zs with
  |nil=>
    intro t v p u w X Y hv hp hu hat hsm
    obtain⟨a,c,rfl,hs⟩:=hv
    obtain⟨ax,cx,rfl,ao⟩:=hu
    obtain⟨pa,pc,rfl,au,hz⟩:=hp
    have HU:=Aa ao
    go_enter Tryz.func65,Tryz.ntmps65
    go_wp2_with fail
    refine Ap (v:=.agg #[.string x.name,.slice ax x.args.length cx]) (by simp[results,Tryz.results65,go_sem]) rfl ⟨_,rfl,?_,?_⟩
    · exact⟨ax,cx,by simp[AL],(HU.out.mono (Y:=λb=>(X b/\b<w.heap.size)∨w.heap.size<=b) λb h1 h2=>Ad ⟨h1,h2⟩).later (Fd _ _ _)⟩
    · exact Fd _ _ _
  |cons z zs ih=>
    intro t v p u w X0 Y0 hv0 aI aJ hat hsm
    have IH:=Aa ih
    clear ih
    obtain⟨X,Y,hX,aQ,aR,hv,hp,hu⟩:∃X Y:Nat->Prop,(∀b,X b->b<w.heap.size)/\(∀b,Y b->b<w.heap.size)/\(∀b,X b->X0 b)/\TV w X v t/\PV w Y p (z::zs)/\TV w X u x:=⟨λb=>X0 b/\b<w.heap.size,λb=>Y0 b/\b<w.heap.size,λ_ h=>h.2,λ_ h=>h.2,λ_ h=>h.1,hv0.mono λb h1 h2=>⟨h1,h2⟩,aI.mono λb h1 h2=>⟨h1,h2⟩,aJ.mono λb h1 h2=>⟨h1,h2⟩⟩
    clear hv0 aI aJ
    obtain⟨a,c,rfl,hs⟩:=hv
    obtain⟨ax,cx,rfl,ao⟩:=hu
    have HU:=Aa (show TV w X (.agg #[.string x.name,.slice ax x.args.length cx]) x from ⟨ax,cx,rfl,ao⟩)
    clear ao
    obtain⟨pa,pc,rfl,au,hz⟩:=hp
    obtain⟨b,o,rfl,Gr,hcell⟩:=hz.resolve_left (λh=>by cases h)
    have h0:=hcell 0 (by simp)
    simp only[FL,Et] at h0
    have av:zs.length+1<=9223372036854775807/\zs.length+1<=pc:=by simpa using au
    obtain⟨aw,ah⟩:=av
    obtain⟨s,l⟩:=t
    have hz1:Ab [(⟨s,l⟩:Tm)]=1+Ab l:=by simp[Ab]
    rw[hz1]at hsm
    clear hz1
    have hlen:=Ez l
    rw[AR]at hat
    split at hat
    case isFalse=>cases hat
    case isTrue aK=>
    obtain⟨k,rfl⟩:∃k:Nat,z=(k:Int):=⟨z.toNat,by omega⟩
    have hk:k<l.length:=by simpa using aK.2
    have aS:Hid ((AR l[k] zs).isSome=true):=Aa (by simpa using hat)
    obtain⟨sa,aT,HT⟩:∃sa:Option Addr,Hid ((if pc=1 then some (⟨b,o,none⟩:Addr) else some ⟨b,o+1,none⟩)=sa)/\Hid (PV w Y (.slice sa zs.length (pc-1)) zs):=by
      by_cases h1:pc=1
      · refine⟨_,rfl,?_⟩
        have:zs=[]:=Ew.1 (by omega)
        subst this
        exact⟨_,_,rfl,by simp,Ad rfl⟩
      · refine⟨_,rfl,?_⟩
        rw[An h1]
        exact PV.tail ⟨aw,ah⟩ Gr hcell
    simp only[Bs] at *
    clear hcell au hz hat aK
    go_enter Tryz.func65,Tryz.ntmps65
    go_upto_region 3 with fail
    have aL:Below w.heap.size w (((w.alloc (.cells #[.string s,.slice a l.length c] 29)).alloc (.cells #[.string x.name,.slice ax x.args.length cx] 29)).alloc (.cells #[.string ⟨#[]⟩,.slice none 0 0] 29)):=Fd _ _ _
    have hz3:(((w.alloc (.cells #[.string s,.slice a l.length c] 29)).alloc (.cells #[.string x.name,.slice ax x.args.length cx] 29)).alloc (.cells #[.string ⟨#[]⟩,.slice none 0 0] 29)).heap.size=w.heap.size+3:=by simp
    obtain⟨ba,oa,rfl,ae⟩:=hs.2.resolve_left (λe=>by rw[e] at hk; simp at hk)
    obtain⟨xs,ay,aU⟩:=Uk l ba oa ae
    have aV:=Aa ay
    have az:ba<w.heap.size:=hX _ (FQ _ _ _ ae 0 (by omega)).1
    have CL:Hid (∀w',Below w.heap.size w w'->Calls Tryz.prog 88 #[.slice (some ⟨ba,oa,none⟩) l.length c] w' λe w''=>∃G cap,e=.returned (.slice (some ⟨G,0,none⟩) l.length cap)/\w''.ownsRow w'.heap.size 29 2 (.slice (some ⟨G,0,none⟩) l.length cap) l.length xs/\Below w'.heap.size w' w''):=λw' hb=>by
      refine(Wv ba oa l.length c xs w' ay.len (by omega) (λj u hj=>(hb.cell (p:=⟨ba,oa+j,none⟩) az).trans (aU j u hj)) ay.one).mono ?_
      rintro e w'' ⟨v',rfl,ho,hne,hb2⟩
      rcases ho.2 with ⟨h1,_⟩|⟨g,cap,cur,hv,_⟩
      · exact absurd h1 hne
      · subst hv
        exact⟨g,cap,rfl,ho,hb2⟩
    go_cut [7] (λo7 wc=>Mo (((w.alloc (.cells #[.string s,.slice (some ⟨ba,oa,none⟩) l.length c] 29)).alloc (.cells #[.string x.name,.slice ax x.args.length cx] 29)).alloc (.cells #[.string ⟨#[]⟩,.slice none 0 0] 29)) (w.heap.size+3) s l.length xs o7 wc)
    case first=>
      have T3:Ac (((w.alloc (.cells #[.string s,.slice (some ⟨ba,oa,none⟩) l.length c] 29)).alloc (.cells #[.string x.name,.slice ax x.args.length cx] 29)).alloc (.cells #[.string ⟨#[]⟩,.slice none 0 0] 29)) w.heap.size #[.string s,.slice (some ⟨ba,oa,none⟩) l.length c] 29:=((Ac.new w _ _).alloc _).alloc _
      have aW:=Aa aL
      generalize (((w.alloc (.cells #[.string s,.slice (some ⟨ba,oa,none⟩) l.length c] 29)).alloc (.cells #[.string x.name,.slice ax x.args.length cx] 29)).alloc (.cells #[.string ⟨#[]⟩,.slice none 0 0] 29))=W at *
      have t0:=T3.c0
      have t1:=T3.c1
      have a6:=Aa (And.intro t0 t1)
      have KP:Hid (∀w',Below (w.heap.size+3) W w'->w'.cell? ⟨w.heap.size,0,none⟩=some (.string s)/\w'.cell? ⟨w.heap.size,1,none⟩=some (.slice (some ⟨ba,oa,none⟩) l.length c)):=λw' hb=>⟨(hb.cell (p:=⟨w.heap.size,0,none⟩) (by simp)).trans t0,(hb.cell (p:=⟨w.heap.size,1,none⟩) (by simp)).trans t1⟩
      have HD:Hid (Below (w.heap.size+3) W W.drew):=(Af _ _).drew
      have HA:Hid (∀o,Below (w.heap.size+3) W (W.drew.alloc o)):=λo=>((Af _ _).drew).alloc (by simp; omega) o
      have aM:Hid (∀w',Below (w.heap.size+3) W w'->Calls Tryz.prog 88 #[.slice (some ⟨ba,oa,none⟩) l.length c] w' λe w''=>∃G cap,e=.returned (.slice (some ⟨G,0,none⟩) l.length cap)/\w''.ownsRow w'.heap.size 29 2 (.slice (some ⟨G,0,none⟩) l.length cap) l.length xs/\Below w'.heap.size w' w''/\Below (w.heap.size+3) W w''):=λw' hb=>(CL.out w' (aW.out.trans (hb.mono (by omega)))).mono λe w'' ⟨G,cap,h1,h2,h3⟩=>⟨G,cap,h1,h2,h3,hb.trans (h3.mono (by have:=hb.size; omega))⟩
      have a7:=Aa hz3
      have nW:w.heap.size≠W.heap.size:=by omega
      clear hz3
      go_region_held3 (λw'=>w'.cell? ⟨w.heap.size,0,none⟩=some (.string s)/\w'.cell? ⟨w.heap.size,1,none⟩=some (.slice (some ⟨ba,oa,none⟩) l.length c)) (first|exact hS|exact a6.out|exact KP.out _ (HA.out _)|exact⟨Fc hS.1 nW,Fc hS.2 nW⟩|go_keep)
        (first
          | (go_at_call 88;
              first
                | (refine(aM.out _ (by first|exact Af _ _|exact HD.out)).mono ?_; rintro e w5 ⟨G,cap,rfl,aq,aa,ai⟩; have hS:=KP.out _ ai)
                | (refine(aM.out _ (by exact HA.out (.cells #[.string ⟨#[]⟩,.slice none 0 0] 29))).mono ?_; rintro e w5 ⟨G,cap,rfl,aq,aa,ai⟩; have hS:=KP.out _ ai; have QB:Ac w5 W.heap.size #[.string ⟨#[]⟩,.slice none 0 0] 29:=(Ac.new W.drew _ _).below aa (by simp); have q0:w5.cell? ⟨W.heap.size,0,none⟩=some (.string ⟨#[]⟩):=QB.cell 0; have q1:w5.cell? ⟨W.heap.size,1,none⟩=some (.slice none 0 0):=QB.cell 1; have qf:=QB.frozen)))
      all_goals have ar:=aq.lt G rfl
      all_goals go_wp2_with fail
      all_goals go_meet
      all_goals first
        |exact Wx (by exact a7.out) (Mn aq (by have:=a7.out; simp; omega)) ai
        | (have hz3:=a7.out; have e:W.heap.size=w.heap.size+3:=hz3; exact Wy (by omega) QB (by have:=ar.1; simp at this; omega) (Mn aq (by simp; omega)) ai)
    case rest=>
      obtain⟨G,O,cap,rfl,bs,bt,aX,a8,hown,af⟩:=hcut
      have T3:Ac (((w.alloc (.cells #[.string s,.slice (some ⟨ba,oa,none⟩) l.length c] 29)).alloc (.cells #[.string x.name,.slice ax x.args.length cx] 29)).alloc (.cells #[.string ⟨#[]⟩,.slice none 0 0] 29)) w.heap.size #[.string s,.slice (some ⟨ba,oa,none⟩) l.length c] 29:=((Ac.new w _ _).alloc _).alloc _
      have X3:Ac (((w.alloc (.cells #[.string s,.slice (some ⟨ba,oa,none⟩) l.length c] 29)).alloc (.cells #[.string x.name,.slice ax x.args.length cx] 29)).alloc (.cells #[.string ⟨#[]⟩,.slice none 0 0] 29)) (w.heap.size+1) #[.string x.name,.slice ax x.args.length cx] 29:=by
        have:=(Ac.new (w.alloc (.cells #[.string s,.slice (some ⟨ba,oa,none⟩) l.length c] 29)) #[.string x.name,.slice ax x.args.length cx] 29).alloc (.cells #[.string ⟨#[]⟩,.slice none 0 0] 29)
        rw[CN]at this
        exact this
      have ag:Below w.heap.size w wc:=aL.trans (af.mono (by omega))
      have aA:wc.cell? ⟨w.heap.size,1,none⟩=some (.slice (some ⟨ba,oa,none⟩) l.length c):=(af.cell (p:=⟨w.heap.size,1,none⟩) (by simp)).trans (T3.cell 1)
      have cz:wc.cell? ⟨b,o,none⟩=some (.int .i64 (k:Int)):=(ag.cell (p:=⟨b,o,none⟩) (by simpa using aQ b Gr)).trans h0
      have bu:(k:Int)<(l.length:Int):=by omega
      have x0:wc.cell? ⟨w.heap.size+1,0,none⟩=some (.string x.name):=(af.cell (p:=⟨w.heap.size+1,0,none⟩) (by simp)).trans (X3.cell 0)
      have x1:wc.cell? ⟨w.heap.size+1,1,none⟩=some (.slice ax x.args.length cx):=(af.cell (p:=⟨w.heap.size+1,1,none⟩) (by simp)).trans (X3.cell 1)
      obtain⟨b1,o1,a',c',aB,d0,d1,hx⟩:=hs.get ag (λb hb _=>hX b hb) k hk
      have aY:b1=ba/\o1=oa:=by simp at aB; exact⟨aB.1.symm,aB.2.symm⟩
      obtain⟨rfl,rfl⟩:=aY
      have aC:=a8.c1
      have HX:=Aa hx
      have aD:Ab [l[k]]<=1000000:=by
        have:=C4 l k hk; have:=C5 l (k+1); omega
      have aZ:∀w':World,Sem.run Tryz.prog (Instr.slice 56 (.slice (some ⟨b,o,none⟩) (zs.length+1) pc) (some (.int .i64 1)) none none) w'=.ok (.slice sa zs.length (pc-1)) w':=λw'=>by
        rw[Pf b o zs.length pc ah w',aT.out]
      have bw:∀b,b<w.heap.size+3->b≠G:=λb hb=>by omega
      have aj:=hs.1
      have hput:AL x ((k:Int)::zs) ⟨s,l⟩=⟨s,l.set k (AL x zs l[k])⟩:=by
        have:=Mm (AL x zs) l 0 k hk
        rw[Ey]at this
        rw[AL,this]
      have PU:Hid (∀w',Below wc.heap.size wc w'->Calls Tryz.prog 65 #[.agg #[.string l[k].name,.slice a' l[k].args.length c'],.slice sa zs.length (pc-1),.agg #[.string x.name,.slice ax x.args.length cx]] w' λe w''=>∃s9 a9 n9 c9,e=.returned (.agg #[.string s9,.slice a9 n9 c9])/\TV w'' (λb=>(X b/\b<w'.heap.size)∨w'.heap.size<=b) (.agg #[.string s9,.slice a9 n9 c9]) (AL x zs l[k])/\Below wc.heap.size wc w''):=λw' hb=>by
        refine(IH.out l[k] _ _ _ w' X Y (HX.out.later hb) ((HT.out.later ag).later hb) ((HU.out.later ag).later hb) aS.out aD).mono ?_
        rintro e w'' ⟨v',rfl,ht,hb2⟩
        obtain⟨a9,c9,rfl,bb⟩:=ht
        exact⟨_,a9,_,c9,rfl,⟨a9,c9,rfl,bb⟩,hb.trans (hb2.mono hb.size)⟩
      have ak:wc.cell? ⟨O,1,none⟩=some (.slice (some ⟨G,0,none⟩) l.length cap)/\wc.cell? ⟨w.heap.size,1,none⟩=some (.slice (some ⟨b1,o1,none⟩) l.length c)/\wc.cell? ⟨b1,o1+k*2,none⟩=some (.string l[k].name)/\wc.cell? ⟨b1,o1+k*2+1,none⟩=some (.slice a' l[k].args.length c')/\wc.cell? ⟨w.heap.size+1,0,none⟩=some (.string x.name)/\wc.cell? ⟨w.heap.size+1,1,none⟩=some (.slice ax x.args.length cx):=⟨aC,aA,d0,d1,x0,x1⟩
      have a6:=Aa ak
      have aN:O<wc.heap.size:=a8.lt
      have aF:w.heap.size+3<=wc.heap.size:=by have:=af.size; omega
      have KP:Hid (∀w',Below wc.heap.size wc w'->w'.cell? ⟨O,1,none⟩=some (.slice (some ⟨G,0,none⟩) l.length cap)/\w'.cell? ⟨w.heap.size,1,none⟩=some (.slice (some ⟨b1,o1,none⟩) l.length c)/\w'.cell? ⟨b1,o1+k*2,none⟩=some (.string l[k].name)/\w'.cell? ⟨b1,o1+k*2+1,none⟩=some (.slice a' l[k].args.length c')/\w'.cell? ⟨w.heap.size+1,0,none⟩=some (.string x.name)/\w'.cell? ⟨w.heap.size+1,1,none⟩=some (.slice ax x.args.length cx)):=λw' hb=>⟨(hb.cell (p:=⟨O,1,none⟩) aN).trans aC,(hb.cell (p:=⟨w.heap.size,1,none⟩) (by simp; omega)).trans aA,(hb.cell (p:=⟨b1,o1+k*2,none⟩) (by simp; omega)).trans d0,(hb.cell (p:=⟨b1,o1+k*2+1,none⟩) (by simp; omega)).trans d1,(hb.cell (p:=⟨w.heap.size+1,0,none⟩) (by simp; omega)).trans x0,(hb.cell (p:=⟨w.heap.size+1,1,none⟩) (by simp; omega)).trans x1⟩
      obtain⟨cur,aO,bc,bf,bg⟩:∃cur:Array Value,Ac wc G cur 29/\cur.size=cap*2/\cur.toList.take (l.length*2)=xs/\l.length<=cap:=by
        rcases hown.2 with ⟨h1,_⟩|⟨g,cap',cur,hv,_,hh,bh,_,hz,ht⟩
        · cases h1
        · simp at hv
          obtain⟨rfl,rfl⟩:=hv
          exact⟨cur,hh,hz,ht,bh⟩
      have bj:=Aa aO
      obtain⟨y0,bk⟩:∃y,cur[k*2]? = some y:=⟨_,Array.getElem?_eq_getElem (by omega)⟩
      obtain⟨y1,bl⟩:∃y,cur[k*2+1]? = some y:=⟨_,Array.getElem?_eq_getElem (by omega)⟩
      have nO:O≠G:=λe=>aX e.symm
      have n1:w.heap.size≠G:=by omega
      have n2:b1≠G:=by omega
      have n3:w.heap.size+1≠G:=by omega
      have n4:w.heap.size+1+1≠G:=by omega
      have bm:Ac wc (w.heap.size+1+1) #[.string ⟨#[]⟩,.slice none 0 0] 29:=by
        have h1:=Ac.new ((w.alloc (.cells #[.string s,.slice (some ⟨b1,o1,none⟩) l.length c] 29)).alloc (.cells #[.string x.name,.slice ax x.args.length cx] 29)) #[.string ⟨#[]⟩,.slice none 0 0] 29
        rw[CN,CN]at h1
        unfold Ac at *
        rw[af.block _ (by omega)]
        exact h1
      have ar:G<wc.heap.size:=aO.lt
      clear aC aA d0 d1 x0 x1 ak
      go_wp2_with fail
      go_region_held3 (λw'=>w'.cell? ⟨O,1,none⟩=some (.slice (some ⟨G,0,none⟩) l.length cap)/\w'.cell? ⟨w.heap.size,1,none⟩=some (.slice (some ⟨b1,o1,none⟩) l.length c)/\w'.cell? ⟨b1,o1+k*2,none⟩=some (.string l[k].name)/\w'.cell? ⟨b1,o1+k*2+1,none⟩=some (.slice a' l[k].args.length c')/\w'.cell? ⟨w.heap.size+1,0,none⟩=some (.string x.name)/\w'.cell? ⟨w.heap.size+1,1,none⟩=some (.slice ax x.args.length cx)) (first|exact hS|exact a6.out|exact⟨Fc hS.1 nO,Fc hS.2.1 n1,Fc hS.2.2.1 n2,Fc hS.2.2.2.1 n2,Fc hS.2.2.2.2.1 n3,Fc hS.2.2.2.2.2 n3⟩|go_keep)
        (first
          | (go_at_call 65; refine(PU.out _ (by first|exact Af _ _|exact(Af _ _).drew)).mono ?_; rintro e w5 ⟨s9,a9,n9,c9,rfl,bn,aa⟩; have hS:=KP.out _ aa; have GB:=bj.out.below aa ar; have gf:=GB.frozen; have g0:w5.cell? ⟨G,k*2,none⟩=some y0:=(GB.cell (k*2)).trans bk; have g1:w5.cell? ⟨G,k*2+1,none⟩=some y1:=(GB.cell (k*2+1)).trans bl))
      all_goals
        have OB:=(a8.below aa aN)
        have aP:=(OB.setOther (k*2) (.string s9) nO).setOther (k*2+1) (.slice a9 n9 c9) nO
        have bx:=(GB.set (k*2) (.string s9)).set (k*2+1) (.slice a9 n9 c9)
        have aG:=((bm.below aa (by omega)).setOther (k*2) (.string s9) n4).setOther (k*2+1) (.slice a9 n9 c9) n4
        have bo:Below w.heap.size w ((w5.setCell ⟨G,k*2,none⟩ (.string s9)).setCell ⟨G,k*2+1,none⟩ (.slice a9 n9 c9)):=((ag.trans (aa.mono (by omega))).setCell (p:=⟨G,k*2,none⟩) (by simp; omega) _).setCell (p:=⟨G,k*2+1,none⟩) (by simp; omega) _
        have aH:=Aa (Wz (R:=w.heap.size+1+1) hX hk aj aV.out bf (by omega) (by exact ar) (by omega) n4 (by have:=aF; simp; omega) GB (ag.trans (aa.mono (by omega))) bn)
        have bp:=aa.size
        generalize ((w5.setCell ⟨G,k*2,none⟩ (.string s9)).setCell ⟨G,k*2+1,none⟩ (.slice a9 n9 c9))=w9 at *
        have u0:=aP.c0
        have u1:=aP.c1
        have bq:=aG.c0
        have br:=aG.c1
        have rf:=aG.frozen
        go_wp2_with fail
        refine Ap (v:=.agg #[.string s,.slice (some ⟨G,0,none⟩) l.length cap]) (by simp[results,Tryz.results65,go_sem,bq,br,AU,AG]) rfl ⟨_,rfl,?_,?_⟩
        · refine⟨some ⟨G,0,none⟩,cap,?_,?_⟩
          · rw[hput]; simp
          · rw[hput]
            exact(aH.out _ (λb hb=>by rw[Aq _ _ _ _ (by simpa using hb),Aq _ _ _ _ (by simpa using hb)])).mono λb hb _=>hb.imp (λh=>⟨aR b h,hX b h⟩) id
        · exact(bo.setCell (by simp; omega) _).setCell (by simp; omega) _
end Go.Proofs.YtlkeafenklamjaaGreatDoor
