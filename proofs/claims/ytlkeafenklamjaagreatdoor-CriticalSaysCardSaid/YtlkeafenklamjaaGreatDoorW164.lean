import Derived.Test.YtlkeafenklamjaaGreatDoorW161
import Derived.Deep.RegionHeld
import Derived.Deep.RegionHeld3
import Derived.Deep.DeepCutAuto
namespace Go.Proofs.YtlkeafenklamjaaGreatDoor
set_option linter.all false
set_option maxRecDepth 20000
set_option maxHeartbeats 8000000
open Go.RowKit
def Dw (rs:List Pr) (x:Tm):Bool:=rs.any λr=>Fw r.l x
theorem WL {l:List Pr} {f:Pr->Bool} {k:Nat} (h:k<l.length):(l.take (k+1)).any f=((l.take k).any f||f l[k]):=by
 rw[Bm h,He]
 simp
theorem WM {l:List Pr} {f:Pr->Bool} {k:Nat} (h:k<l.length) (h0:f l[k]=true):l.any f=true:=D7.2 ⟨_,AV h,h0⟩
theorem WN (p t:Tm) (pv tv:Value) (w:World) (X:Nat->Prop) (hp:TV w X pv p) (ht:TV w X tv t) (hsz:Ab [p]<=1000000):
  Calls Tryz.prog 73 #[pv,tv] w λe w'=>∃v,e=.returned (.tuple #[v,.bool (Fw p t)])/\Below w.heap.size w w':=by
 refine(OY p t pv tv w X hp ht hsz).mono ?_
 rintro e w' ⟨hb,⟨h0,rfl⟩|⟨h',v,l',h0,rfl,_⟩⟩
 ·exact⟨_,by unfold Fw; rw[h0]; rfl,hb⟩
 ·exact⟨v,by unfold Fw; rw[h0]; rfl,hb⟩
def WP (rs:List Pr) (x:Tm) (a3:Option Addr) (c3:Nat) (w:World) (v:Value) (wr:World):Prop:=∃k:Nat,k<=rs.length/\v=.int .i64 (k:Int)/\(rs.take k).any (λr=>Fw r.l x)=false/\Ac wr w.heap.size #[.string x.name,.slice a3 x.args.length c3] 29/\Below w.heap.size w wr
theorem PJ (rs:List Pr) (x:Tm) (a3:Option Addr) (c3:Nat) (u:Value) (w:World) (X:Nat->Prop) (hu:QV w X u rs) (hs:Sl w X a3 x.args) (af:∀p∈rs,Ab [p.l]<=1000000):
  Calls Tryz.prog 72 #[u,.agg #[.string x.name,.slice a3 x.args.length c3]] w λe w'=>e=.returned (.bool (Dw rs x))/\Below w.heap.size w w':=by
 have HU:=Aa hu
 have HS:=Aa hs
 obtain⟨a,c,rfl,hl,ag⟩:=hu
 clear ag hs
 go_enter Tryz.func72,Tryz.ntmps72
 go_wp2_with fail
 go_loopw [5] (λv wr=>WP rs x a3 c3 w v wr) (λv wr=>rs.length-(intOf v).toNat)
 case atStart=>exact⟨0,AE _,rfl,by simp,Ac.new w _ _,(Af _ _).alloc (Aj _) _⟩
 case round=>
  obtain⟨k,hk,rfl,hT,hkb,hb⟩:=hrel
  have HB:=Aa hb
  have HT:=Aa hT
  have KB:=Aa hkb
  clear hT hkb
  by_cases hlt:k<rs.length
  ·obtain⟨bq,oq,a1,c1,a2,c2,rfl,d0,d1,d2,d3,hs1,hs2⟩:=(HU.out.later hb).get k hlt
   have ah:(k:Int)<(rs.length:Int):=by omega
   have Q1:=Aa hs1
   have D:=Aa (And.intro d0 d1)
   have ai:=Aa (WL (f:=λr=>Fw r.l x) hlt)
   have aj:=Aa (WM (f:=λr=>Fw r.l x) hlt)
   have ak:=Aa (af _ (AV hlt))
   clear hs1 hs2 hb d0 d1 d2 d3
   generalize rs[k]=r at *
   go_upto_region 4 with fail
   have BD:Hid (Below wr.heap.size wr wr.drew):=below_drewN (Af _ _) 1
   refine CU (S:=λw'=>Below wr.heap.size wr w') (by kernel_rfl) BD.out (λhHeld=>?_)
   refine tkz 0 ?_
   refine tkz 1 ?_
   refine tkz 2 ?_
   refine tkz 3 ?_
   refine tkz 4 ?_ (hy:=by intro w' hSw;have c0:=cell_later hSw D.out.1;have c1:=cell_later hSw D.out.2;go_simp<;>with_reducible rfl)
   refine tkz 5 ?_ (hy:=by intro w' hSw;have c0:w'.cell? ⟨w.heap.size,0,none⟩=some (.string x.name):=(KB.out.below hSw KB.out.lt).cell 0;have c1:w'.cell? ⟨w.heap.size,1,none⟩=some (.slice a3 x.args.length c3):=(KB.out.below hSw KB.out.lt).cell 1;go_simp<;>with_reducible rfl)
   generalize wr.drew=wd at *
   refine rdq 6 rfl λK hK=>?_
   go_simp
   go_at_call 73
   refine(WN r.l x _ _ _ X ⟨_,_,rfl,Q1.out.later BD.out⟩ ⟨_,_,rfl,HS.out.later (HB.out.trans (BD.out.mono HB.out.size))⟩ ak.out).mono ?_
   rintro e w5 ⟨v5,rfl,aa⟩
   have B5:=Aa (BD.out.trans (aa.mono BD.out.size))
   clear aa
   go_simp
   refine hK.out _ _ (by exact B5.out) (λhHeld=>?_)
   clear hK K
   try simp only[Act.put,sq]
   refine tkz 7 ?_
   refine tkz 8 ?_
   refine tkz 9 ?_
   refine tkz 10 ?_
   refine tkz 11 ?_
   refine dnq ?_
   have ae:=Aa (HB.out.trans (B5.out.mono HB.out.size))
   cases hm:Fw r.l x with
   |true=>
    have HF:=Aa (aj.out hm)
    clear hm
    go_wp2_with fail
    go_ret
    exact⟨BH HF.out.symm,ae.out⟩
   |false=>
    have HN:Hid ((rs.take (k+1)).any (λr=>Fw r.l x)=false):=by
     have h:=ai.out
     rw[HT.out,hm]at h
     exact h
    clear hm
    go_wp2_with fail
    go_roundw
    case rel=>exact⟨k+1,by omega,by go_num,HN.out,KB.out.below B5.out KB.out.lt,ae.out⟩
    case measure=>simp[intOf]; omega
  ·have HF:Hid (false=Dw rs x):=by
    unfold Hid Dw
    rw[<-HT.out,AW (by omega)]
   go_wp2_with fail
   go_ret
   exact⟨BH HF.out,HB.out⟩
end Go.Proofs.YtlkeafenklamjaaGreatDoor
