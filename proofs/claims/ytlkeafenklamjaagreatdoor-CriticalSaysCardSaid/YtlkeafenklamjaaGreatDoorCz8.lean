import Derived.Test.YtlkeafenklamjaaGreatDoorCz7
namespace Go.Proofs.YtlkeafenklamjaaGreatDoor
set_option linter.all false
set_option maxRecDepth 20000
set_option maxHeartbeats 8000000
open Go.RowKit
theorem T8 (t:Tm):BI t t=true:=Va.2 rfl
theorem T9 (er:Int) (h:er≠0) (w:World):Calls Tryz.prog 11 #[.slice none 0 0,.int .i64 er,.slice none 0 0,.int .i64 er] w λe w'=>e=.returned (.bool true)/\Below w.heap.size w w':=by
 have h1:(er !=0)=true:=by simp[h]
 go_enter Tryz.func11,Tryz.ntmps11
 go_wp2_with fail
 refine Ap (v:=.bool true) (by simp[results,Tryz.results11,go_sem]) rfl ?_
 exact⟨rfl,Af _ _⟩
theorem kD (ls:List Pr) (a1 a2:Option Addr) (k1 k2:Nat) (w:World) (X:Nat->Prop) (h1:QV w X (.slice a1 ls.length k1) ls) (h2:QV w X (.slice a2 ls.length k2) ls) (hl:ls.length<=400):
  Calls Tryz.prog 11 #[.slice a1 ls.length k1,.int .i64 0,.slice a2 ls.length k2,.int .i64 0] w λe w'=>e=.returned (.bool true)/\Below w.heap.size w w':=by
 have H1:=Aa h1
 have H2:=Aa h2
 clear h1 h2
 go_enter Tryz.func11,Tryz.ntmps11
 go_wp2_with fail
 go_loopw [9] (λi wr=>∃k:Nat,k<=ls.length/\i=.int .i64 (k:Int)/\Below w.heap.size w wr) (λi wr=>ls.length-(intOf i).toNat)
 case atStart=>exact⟨0,AE _,rfl,Af _ _⟩
 case round=>
  obtain⟨k,hk,rfl,hb⟩:=hrel
  have HB:=Aa hb
  by_cases hlt:k<ls.length
  ·have af:(k:Int)<(ls.length:Int):=by omega
   have hk4:k<=400:=by omega
   obtain⟨b,o,x1,c1,x2,c2,hva,p0,p1,p2,p3,s1,s2⟩:=(H1.out.later hb).get k hlt
   obtain⟨b',o',x3,c3,x4,c4,hvb,p4,p5,p6,p7,s3,s4⟩:=(H2.out.later hb).get k hlt
   subst hva
   subst hvb
   generalize ls[k]=q at *
   have ag:=Aa s1
   have ah:=Aa s2
   have ai:=Aa s3
   have aj:=Aa s4
   have KD:Hid (∀w',Below wr.heap.size wr w'->w'.cell? ⟨b,o+k*4,none⟩=some (.string q.l.name)/\w'.cell? ⟨b,o+k*4+1,none⟩=some (.slice x1 q.l.args.length c1)/\w'.cell? ⟨b,o+k*4+2,none⟩=some (.string q.r.name)/\w'.cell? ⟨b,o+k*4+3,none⟩=some (.slice x2 q.r.args.length c2)/\w'.cell? ⟨b',o'+k*4,none⟩=some (.string q.l.name)/\w'.cell? ⟨b',o'+k*4+1,none⟩=some (.slice x3 q.l.args.length c3)/\w'.cell? ⟨b',o'+k*4+2,none⟩=some (.string q.r.name)/\w'.cell? ⟨b',o'+k*4+3,none⟩=some (.slice x4 q.r.args.length c4)):=λw' hb=>⟨cell_later hb p0,cell_later hb p1,cell_later hb p2,cell_later hb p3,cell_later hb p4,cell_later hb p5,cell_later hb p6,cell_later hb p7⟩
   have bd:Below wr.heap.size wr wr.drew:=(Af _ _).drew
   have ak:=Aa (KD.out _ bd)
   clear hb s1 s2 s3 s4 p0 p1 p2 p3 p4 p5 p6 p7
   go_upto_region 8 with fail
   refine CU (S:=λw'=>w'.cell? ⟨b,o+k*4,none⟩=some (.string q.l.name)/\w'.cell? ⟨b,o+k*4+1,none⟩=some (.slice x1 q.l.args.length c1)/\w'.cell? ⟨b,o+k*4+2,none⟩=some (.string q.r.name)/\w'.cell? ⟨b,o+k*4+3,none⟩=some (.slice x2 q.r.args.length c2)/\w'.cell? ⟨b',o'+k*4,none⟩=some (.string q.l.name)/\w'.cell? ⟨b',o'+k*4+1,none⟩=some (.slice x3 q.l.args.length c3)/\w'.cell? ⟨b',o'+k*4+2,none⟩=some (.string q.r.name)/\w'.cell? ⟨b',o'+k*4+3,none⟩=some (.slice x4 q.r.args.length c4)) (by kernel_rfl) ak.out (λhHeld=>?_)
   refine tkz 0 ?_
   refine tkz 1 ?_
   refine tkz 2 ?_
   refine tkz 3 ?_
   refine tkz 4 ?_ (hy:=by intro w' hSw;obtain⟨p0,p1,p2,p3,p4,p5,p6,p7⟩:=hSw;go_simp<;>with_reducible rfl)
   refine tkz 5 ?_
   refine tkz 6 ?_
   refine tkz 7 ?_
   refine tkz 8 ?_
   refine tkz 9 ?_ (hy:=by intro w' hSw;obtain⟨p0,p1,p2,p3,p4,p5,p6,p7⟩:=hSw;go_simp<;>with_reducible rfl)
   refine rdq 10 rfl λK hK=>?_
   go_simp
   go_at_call 22
   refine(Kd q.l q.l _ _ wr.drew X X ⟨_,_,rfl,ag.out.later bd⟩ ⟨_,_,rfl,ai.out.later bd⟩).mono ?_
   rintro e w3 ⟨rfl,hb3⟩
   rw[T8]
   have aa:=bd.trans (hb3.mono bd.size)
   clear hb3
   go_simp
   refine hK.out _ _ (by exact KD.out _ aa) (λhHeld=>?_)
   clear hK K
   try simp only[Act.put,sq]
   refine tkz 11 ?_
   refine tkz 12 ?_
   refine tkz 13 ?_
   refine tkz 14 ?_
   refine tkz 15 ?_
   refine tkz 16 ?_
   refine tkz 17 ?_ (hy:=by intro w' hSw;obtain⟨p0,p1,p2,p3,p4,p5,p6,p7⟩:=hSw;go_simp<;>with_reducible rfl)
   refine tkz 18 ?_
   refine tkz 19 ?_
   refine tkz 20 ?_
   refine tkz 21 ?_
   refine tkz 22 ?_ (hy:=by intro w' hSw;obtain⟨p0,p1,p2,p3,p4,p5,p6,p7⟩:=hSw;go_simp<;>with_reducible rfl)
   refine rdq 23 rfl λK hK=>?_
   go_simp
   go_at_call 22
   refine(Kd q.r q.r _ _ w3 X X ⟨_,_,rfl,ah.out.later aa⟩ ⟨_,_,rfl,aj.out.later aa⟩).mono ?_
   rintro e w4 ⟨rfl,hb4⟩
   rw[T8]
   have ae:=aa.trans (hb4.mono aa.size)
   have ao:=Aa (HB.out.trans (ae.mono HB.out.size))
   clear hb4
   go_simp
   refine hK.out _ _ (by exact KD.out _ ae) (λhHeld=>?_)
   clear hK K
   try simp only[Act.put,sq]
   refine tkz 24 ?_
   refine tkz 25 ?_
   refine dnq ?_
   go_wp2_with fail
   go_roundw
   case rel=>exact⟨k+1,by omega,by go_num,ao.out⟩
   case measure=>simp[intOf]; omega
  ·have af:¬(k:Int)<(ls.length:Int):=by omega
   clear hb
   go_wp2_with fail
   refine Ap (v:=.bool true) (by simp[results,Tryz.results11,go_sem]) rfl ?_
   exact⟨rfl,HB.out⟩
theorem kE (BT:Nat) (rs:List Pr) (k:Int) (u:Value) (w:World) (X:Nat->Prop) (hu:QV w X u rs) (hT:Tb BT w) (aq:BT<=w.heap.size):
  Calls Tryz.prog 3 #[u,.int .i64 k] w λe w'=>e=.returned (.bool true)/\Below w.heap.size w w':=by
 have HU:=Aa hu
 have CP:Hid (∀w',Below w.heap.size w w'->Calls Tryz.prog 9 #[u] w' λe w''=>Ll AC rs w' e w''):=λw' hb=>
  Tt BT AC Nu TL rs u w' X (hu.later hb) (hT.on (hb.mono aq)) (AX aq hb.size)
 have CJ:Hid (∀w',Below w.heap.size w w'->Calls Tryz.prog 10 #[u,.int .i64 k] w' λe w''=>e=.returned (.tuple #[.bool (DK AC rs k).1,.int .i64 (DK AC rs k).2])/\Below w'.heap.size w' w''):=λw' hb=>
  iN BT AC Nu TL rs k u w' X (hu.later hb) (hT.on (hb.mono aq)) (AX aq hb.size)
 have RP:Hid (Cg rs=0->∀w',Below w.heap.size w w'->Calls Tryz.prog 7 #[u] w' λe w''=>Ll AC rs w' e w''):=λh w' hb=>TZ rs h u w' X (hu.later hb)
 have RJ:Hid (Cg rs=0->∀w',Below w.heap.size w w'->Calls Tryz.prog 8 #[u,.int .i64 k] w' λe w''=>e=.returned (.tuple #[.bool (DK AC rs k).1,.int .i64 (DK AC rs k).2])/\Below w'.heap.size w' w''):=λh w' hb=>kC rs h k u w' X (hu.later hb)
 obtain⟨jb,je,hj⟩:∃jb je,(jb,je)=DK AC rs k:=⟨_,_,rfl⟩
 rw[<-hj]at CJ RJ
 have HJ:=Aa hj
 simp only at CJ RJ
 obtain⟨ua,uc,rfl,aW,-⟩:=id hu
 clear hu hT aq hj
 go_enter Tryz.func3,Tryz.ntmps3
 go_wp2_with fail
 refine(VK rs _ w X HU.out).mono ?_
 rintro e w1 ⟨rfl,hb1⟩
 have ar:=Aa hb1
 clear hb1
 cases hq:Iw rs with
 |true=>
  clear hq
  go_wp2_with fail
  refine Ap (v:=.bool true) (by simp[results,Tryz.results3,go_sem]) rfl ?_
  exact⟨rfl,ar.out⟩
 |false=>
  clear hq
  go_wp2_with fail
  refine(VO rs _ w1 X (HU.out.later ar.out)).mono ?_
  rintro e w2 ⟨rfl,hb2⟩
  have ao:=Aa (ar.out.trans (hb2.mono ar.out.size))
  clear hb2 ar
  by_cases hr:Cg rs=0
  ·have HR:=Aa hr
   have aX:rs.length<=40:=by have h:=hr; unfold Cg at h; split at h; cases h; omega
   rw[hr]
   clear hr
   by_cases h6:6<rs.length
   ·have aO:(6:Int)<(rs.length:Int):=by omega
    go_wp2_with fail
    refine Ap (v:=.bool true) (by simp[results,Tryz.results3,go_sem]) rfl ?_
    exact⟨rfl,ao.out⟩
   ·have aO:¬(6:Int)<(rs.length:Int):=by omega
    by_cases hk:20<k/\k<=400
    ·obtain⟨k1,k2⟩:=hk
     go_wp2_with fail
     refine Ap (v:=.bool true) (by simp[results,Tryz.results3,go_sem]) rfl ?_
     exact⟨rfl,ao.out⟩
    ·go_upto_region 8 with fail
     go_cut [31] (λg wd=>g=.bool false/\wd=w2)
     case first=>
      by_cases k1:20<k
      ·have k2:¬k<=400:=λh=>hk ⟨k1,h⟩
       clear hk
       go_wp2_with fail
       go_meet
       exact⟨by rw[decide_eq_false (show ¬(6:Int)<(rs.length:Int) by omega)],rfl⟩
      ·clear hk
       go_wp2_with fail
       go_meet
       exact⟨by rw[decide_eq_false (show ¬(6:Int)<(rs.length:Int) by omega)],rfl⟩
     obtain⟨rfl,hwd⟩:=hcut
     subst hwd
     rename_i w2 _
     clear hk
     go_wp2_with fail
     go_loopw [9] (λi wr=>∃n:Nat,n<=rs.length/\i=.int .i64 (n:Int)/\Below w.heap.size w wr) (λi wr=>rs.length-(intOf i).toNat)
     case atStart=>exact⟨0,AE _,rfl,ao.out⟩
     case round=>
      obtain⟨n,hn,rfl,hb⟩:=hrel
      have HB:=Aa hb
      clear hb
      by_cases hlt:n<rs.length
      ·have az:(n:Int)<(rs.length:Int):=by omega
       obtain⟨b,o,x1,c1,x2,c2,hva,p0,p1,p2,p3,s1,s2⟩:=(HU.out.later HB.out).get n hlt
       subst hva
       have aP:=Aa s1
       have aQ:=Aa s2
       have KD:Hid (∀w',Below wr.heap.size wr w'->w'.cell? ⟨b,o+n*4+2,none⟩=some (.string rs[n].r.name)/\w'.cell? ⟨b,o+n*4+3,none⟩=some (.slice x2 rs[n].r.args.length c2)):=λw' hb=>⟨cell_later hb p2,cell_later hb p3⟩
       clear s1 s2 p2 p3
       go_wp2_with fail
       refine(Ie rs[n].l _ 12 wr X ⟨_,_,rfl,aP.out⟩ (by decide) (by decide)).mono ?_
       rintro e w3 ⟨rfl,hb3⟩
       have ae:=Aa (HB.out.trans (hb3.mono HB.out.size))
       have q2:=(KD.out _ hb3).1
       have q3:=(KD.out _ hb3).2
       have a6:=Aa hb3
       clear hb3 p0 p1
       by_cases hz:12<Ab [rs[n].l]
       ·have e1:min ((Ab [rs[n].l]:Nat):Int) (12+1)=13:=by omega
        rw[e1]
        clear e1 hz
        go_wp2_with fail
        refine Ap (v:=.bool true) (by simp[results,Tryz.results3,go_sem]) rfl ?_
        exact⟨rfl,ae.out⟩
       ·obtain⟨z,au⟩:∃z,z=min ((Ab [rs[n].l]:Nat):Int) (12+1):=⟨_,rfl⟩
        rw[<-au]
        have aR:¬(12:Int)<z:=by omega
        clear au hz
        go_wp2_with fail
        refine(Ie rs[n].r _ 12 w3 X ⟨_,_,rfl,aQ.out.later a6.out⟩ (by decide) (by decide)).mono ?_
        rintro e w4 ⟨rfl,hb4⟩
        have af:=Aa (ae.out.trans (hb4.mono ae.out.size))
        clear hb4 q2 q3
        by_cases hz:12<Ab [rs[n].r]
        ·have e1:min ((Ab [rs[n].r]:Nat):Int) (12+1)=13:=by omega
         rw[e1]
         clear e1 hz
         go_wp2_with fail
         refine Ap (v:=.bool true) (by simp[results,Tryz.results3,go_sem]) rfl ?_
         exact⟨rfl,af.out⟩
        ·obtain⟨z2,au⟩:∃z2,z2=min ((Ab [rs[n].r]:Nat):Int) (12+1):=⟨_,rfl⟩
         rw[<-au]
         have aS:¬(12:Int)<z2:=by omega
         clear au hz
         go_wp2_with fail
         go_roundw
         case rel=>exact⟨n+1,by omega,by go_num,af.out⟩
         case measure=>simp[intOf]; omega
      ·have az:¬(n:Int)<(rs.length:Int):=by omega
       go_wp2_with fail
       refine(RP.out HR.out wr HB.out).mono ?_
       rintro e w3 ⟨hb3,aa⟩
       have ae:=Aa (HB.out.trans (hb3.mono HB.out.size))
       rcases aa with ⟨h1,-⟩|⟨-,h2,rfl⟩|⟨-,h2,v3,aG,rfl,a7,aH,aI⟩
       ·exact absurd HR.out h1
       ·obtain⟨er,ai⟩:∃er,er=(Dh AC rs).1:=⟨_,rfl⟩
        rw[<-ai]at h2 ⊢
        have aj:=Aa (And.intro ai h2)
        clear ai h2 hb3
        go_wp2_with fail
        refine(RJ.out HR.out w3 ae.out).mono ?_
        rintro e w4 ⟨rfl,hb4⟩
        have af:=Aa (ae.out.trans (hb4.mono ae.out.size))
        clear hb4
        go_wp2_with fail
        refine(CP.out w4 af.out).mono ?_
        rintro e w5 ⟨ag,aa⟩
        have ah:=Aa (af.out.trans (ag.mono af.out.size))
        rcases aa with ⟨h1,-⟩|⟨-,h2,rfl⟩|⟨-,h2,-⟩
        ·exact absurd HR.out h1
        ·rw[<-aj.out.1]
         clear ag h2
         go_wp2_with fail
         refine(CJ.out w5 ah.out).mono ?_
         rintro e w6 ⟨rfl,ak⟩
         have av:=Aa (ah.out.trans (ak.mono ah.out.size))
         clear ak
         go_wp2_with fail
         refine(T9 er aj.out.2 w6).mono ?_
         rintro e w7 ⟨rfl,aw⟩
         have a8:=Aa (av.out.trans (aw.mono av.out.size))
         clear aw
         go_wp2_with fail
         refine Ap (v:=.bool true) (by simp[results,Tryz.results3,go_sem]) rfl ?_
         exact⟨rfl,a8.out⟩
        ·exact absurd (aj.out.1.trans h2) aj.out.2
       ·have aJ:=Aa a7
        have aA:=Aa aI
        have aT:=Aa aH
        have H2:=Aa h2
        obtain⟨a3,c3,rfl⟩:=DP a7.own
        clear hb3 h2 a7 aI aH
        go_wp2_with fail
        refine(RJ.out HR.out w3 ae.out).mono ?_
        rintro e w4 ⟨rfl,hb4⟩
        have af:=Aa (ae.out.trans (hb4.mono ae.out.size))
        have aK:=Aa (aJ.out.qv.later hb4)
        clear hb4 aJ
        go_wp2_with fail
        refine(CP.out w4 af.out).mono ?_
        rintro e w5 ⟨ag,aa⟩
        have ah:=Aa (af.out.trans (ag.mono af.out.size))
        have aB:=Aa (aK.out.later ag)
        rcases aa with ⟨h1,-⟩|⟨-,h2,-⟩|⟨-,h2,v5,ax,rfl,aC,aL,aD⟩
        ·exact absurd HR.out h1
        ·exact absurd H2.out h2
        ·have aF:=Aa aC.qv
         have ay:Hid (ax.length=(ax.map (·.1)).length/\aG.length=(ax.map (·.1)).length):=⟨by simp,by rw[aD,<-aA.out]; simp⟩
         have aM:Hid (aG.map (·.1)=ax.map (·.1)):=aA.out.trans aD.symm
         obtain⟨a5,c5,rfl⟩:=DP aC.own
         rw[ay.out.1]at aF aL ⊢
         rw[ay.out.2,aM.out]at aB
         rw[ay.out.2]
         clear ag h2 aC aD ay aM aK aT aA
         generalize ax.map (·.1)=ls at *
         go_wp2_with fail
         refine(CJ.out w5 ah.out).mono ?_
         rintro e w6 ⟨rfl,ak⟩
         have av:=Aa (ah.out.trans (ak.mono ah.out.size))
         have aU:=Aa (aF.out.later ak)
         have aV:=Aa (aB.out.later ak)
         clear ak aF aB
         go_wp2_with fail
         refine(kD ls a5 a3 c5 c3 w6 (λ_=>True) (aU.out.mono λ_ _ _=>trivial) (aV.out.mono λ_ _ _=>trivial) aL).mono ?_
         rintro e w7 ⟨rfl,aw⟩
         have a8:=Aa (av.out.trans (aw.mono av.out.size))
         clear aw
         go_wp2_with fail
         refine Ap (v:=.bool true) (by simp[results,Tryz.results3,go_sem]) rfl ?_
         exact⟨rfl,a8.out⟩
  ·obtain⟨er,ai⟩:∃er,er=Cg rs:=⟨_,rfl⟩
   have aN:Hid (jb=false/\je=er):=by
    have h:=HJ.out
    unfold DK at h
    rw[An hr,<-ai]at h
    exact⟨Bu Prod.fst h,Bu Prod.snd h⟩
   have HR:=Aa hr
   rw[<-ai]at hr ⊢
   have aj:=Aa (And.intro ai hr)
   have hr3:(er==0)=false:=by rw[DL]; exact hr
   clear ai hr
   go_wp2_with fail
   refine(CP.out w2 ao.out).mono ?_
   rintro e w3 ⟨hb3,aa⟩
   have ae:=Aa (ao.out.trans (hb3.mono ao.out.size))
   rcases aa with ⟨h1,rfl⟩|⟨h1,-⟩|⟨h1,-⟩
   ·rw[<-aj.out.1]
    clear hb3 h1
    go_wp2_with fail
    refine(CJ.out w3 ae.out).mono ?_
    rintro e w4 ⟨rfl,hb4⟩
    rw[aN.out.1,aN.out.2]
    have af:=Aa (ae.out.trans (hb4.mono ae.out.size))
    clear hb4
    go_wp2_with fail
    refine(T9 er aj.out.2 w4).mono ?_
    rintro e w5 ⟨rfl,ag⟩
    have ah:=Aa (af.out.trans (ag.mono af.out.size))
    clear ag
    go_wp2_with fail
    refine Ap (v:=.bool true) (by simp[results,Tryz.results3,go_sem]) rfl ?_
    exact⟨rfl,ah.out⟩
   ·exact absurd h1 HR.out
   ·exact absurd h1 HR.out
end Go.Proofs.YtlkeafenklamjaaGreatDoor
