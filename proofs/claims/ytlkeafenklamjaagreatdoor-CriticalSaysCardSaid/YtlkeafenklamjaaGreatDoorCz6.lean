import Derived.Test.YtlkeafenklamjaaGreatDoorCz5
namespace Go.Proofs.YtlkeafenklamjaaGreatDoor
set_option linter.all false
set_option maxRecDepth 20000
set_option maxHeartbeats 8000000
open Go.RowKit
theorem TZ (rs:List Pr) (au:Cg rs=0) (u:Value) (w:World) (X:Nat->Prop) (hu:QV w X u rs):
  Calls Tryz.prog 7 #[u] w λe w'=>Ll AC rs w e w':=by
 have HU:=Aa hu
 have HR:=Aa au
 have aK:rs.length<=40:=by have h:=au; unfold Cg at h; split at h; cases h; omega
 obtain⟨ua,uc,rfl,bk,-⟩:=id hu
 clear hu au
 go_enter Tryz.func7,Tryz.ntmps7
 go_wp2_with fail
 go_loopw [4,5] (λov oi wr=>∃i,i<=rs.length/\oi=.int .i64 (i:Int)/\Lk AC rs w i 0 ov wr) (λov oi wr=>rs.length-(intOf oi).toNat)
 case atStart=>exact⟨0,AE _,rfl,[],Cx.start _ _ _,by simp,Af _ _,rfl⟩
 case round=>
  obtain⟨i,hi,rfl,cs,hQ,hl,hB,hc⟩:=hrel
  obtain⟨va,vc,rfl⟩:=DP hQ.own
  have HQ:=Aa hQ
  have HB:=Aa hB
  have HC:=Aa hc
  have HL:=Aa hl
  clear hQ hB hc hl
  by_cases ag:i<rs.length
  ·have aL:(i:Int)<(rs.length:Int):=by omega
   go_wp2_with fail
   go_loopw [4,6] (λov oi wr=>∃j,j<=rs.length/\oi=.int .i64 (j:Int)/\Lk AC rs w i j ov wr) (λov oi wr=>rs.length-(intOf oi).toNat)
   case atStart=>exact⟨0,AE _,rfl,cs,HQ.out,HL.out,HB.out,HC.out⟩
   case round=>
    obtain⟨j,hj,rfl,af,av,hl2,Bx,hc2⟩:=hrel
    obtain⟨bl,bm,rfl⟩:=DP av.own
    have aw:=Aa av
    have ah:=Aa Bx
    have ax:=Aa hc2
    have aA:=Aa hl2
    clear av Bx hc2 hl2
    by_cases aj:j<rs.length
    ·have aM:(j:Int)<(rs.length:Int):=by omega
     have aN:=Aa (Lj (GS HR.out rs[i] (AV ag)))
     have aO:i<=40/\j<=40:=by omega
     have aP:=Aa (Lj (GS HR.out rs[j] (AV aj)))
     have HST:Hid (DJ rs.zipIdx i j=((rs[i],i),(rs[j],j))::DJ rs.zipIdx i (j+1)):=by unfold Hid; rw[Ti _ i j (by simpa using ag) (by simpa using aj),Li rs i ag,Li rs j aj]
     have aQ:=Aa (GS HR.out rs[i] (AV ag))
     have aR:=Aa (GS HR.out rs[j] (AV aj))
     obtain⟨b,o,a1,c1,a2,c2,aS,p0,p1,p2,p3,s1,s2⟩:=(HU.out.later ah.out).get i ag
     obtain⟨b',o',a3,c3,a4,c4,aB,p4,p5,p6,p7,s3,s4⟩:=(HU.out.later ah.out).get j aj
     subst aS
     simp only[GH,Addr.mk.injEq,and_true] at aB
     obtain⟨rfl,rfl⟩:=aB
     have aT:=Aa s1
     have aU:=Aa s2
     have aV:=Aa s3
     have aW:=Aa s4
     have aX:Hid (((i:Int)==(j:Int))=decide (i=j)):=by
      unfold Hid
      by_cases h:i=j
      ·subst h; simp
      ·have h2:¬(i:Int)=(j:Int):=by omega
       simp[h,h2]
     have KD:Hid (∀w',Below wr.heap.size wr w'->w'.cell? ⟨b,o+i*4,none⟩=some (.string rs[i].l.name)/\w'.cell? ⟨b,o+i*4+1,none⟩=some (.slice a1 rs[i].l.args.length c1)/\w'.cell? ⟨b,o+i*4+2,none⟩=some (.string rs[i].r.name)/\w'.cell? ⟨b,o+i*4+3,none⟩=some (.slice a2 rs[i].r.args.length c2)/\w'.cell? ⟨b,o+j*4,none⟩=some (.string rs[j].l.name)/\w'.cell? ⟨b,o+j*4+1,none⟩=some (.slice a3 rs[j].l.args.length c3)/\w'.cell? ⟨b,o+j*4+2,none⟩=some (.string rs[j].r.name)/\w'.cell? ⟨b,o+j*4+3,none⟩=some (.slice a4 rs[j].r.args.length c4)):=λw' hb=>⟨cell_later hb p0,cell_later hb p1,cell_later hb p2,cell_later hb p3,cell_later hb p4,cell_later hb p5,cell_later hb p6,cell_later hb p7⟩
     have bd:Below wr.heap.size wr wr.drew:=(Af _ _).drew
     have aY:=Aa (KD.out _ bd)
     clear s1 s2 s3 s4 p0 p1 p2 p3 p4 p5 p6 p7
     go_upto_region 8 with fail
     refine CU (S:=λw'=>w'.cell? ⟨b,o+i*4,none⟩=some (.string rs[i].l.name)/\w'.cell? ⟨b,o+i*4+1,none⟩=some (.slice a1 rs[i].l.args.length c1)/\w'.cell? ⟨b,o+i*4+2,none⟩=some (.string rs[i].r.name)/\w'.cell? ⟨b,o+i*4+3,none⟩=some (.slice a2 rs[i].r.args.length c2)/\w'.cell? ⟨b,o+j*4,none⟩=some (.string rs[j].l.name)/\w'.cell? ⟨b,o+j*4+1,none⟩=some (.slice a3 rs[j].l.args.length c3)/\w'.cell? ⟨b,o+j*4+2,none⟩=some (.string rs[j].r.name)/\w'.cell? ⟨b,o+j*4+3,none⟩=some (.slice a4 rs[j].r.args.length c4)) (by kernel_rfl) aY.out (λhHeld=>?_)
     refine tkz 0 ?_
     refine tkz 1 ?_
     refine tkz 2 ?_
     refine tkz 3 ?_ (hy:=by intro w' hSw;obtain⟨p0,p1,p2,p3,p4,p5,p6,p7⟩:=hSw;go_simp<;>with_reducible rfl)
     refine tkz 4 ?_
     refine tkz 5 ?_
     refine tkz 6 ?_
     refine tkz 7 ?_ (hy:=by intro w' hSw;obtain⟨p0,p1,p2,p3,p4,p5,p6,p7⟩:=hSw;go_simp<;>with_reducible rfl)
     refine tkz 8 ?_
     refine tkz 9 ?_
     refine tkz 10 ?_
     try rw[aX.out]
     refine rdq 11 rfl λK hK=>?_
     go_simp
     go_at_call 17
     refine(kB rs[i] rs[j] aQ.out aR.out (decide (i=j)) a1 a2 a3 a4 c1 c2 c3 c4 wr.drew X (aT.out.later bd) (aU.out.later bd) (aV.out.later bd) (aW.out.later bd)).mono ?_
     rintro e w3 ⟨ak,aa⟩
     have hb3:Below wr.heap.size wr w3:=bd.trans (ak.mono bd.size)
     obtain⟨zv,ze,aZ,ae⟩:∃zv ze,e=.returned (.tuple #[zv,.int .i64 ze])/\(((∀d∈AM [] [] (Av rs[i] rs[j]).1.l,¬Dk AC (Av rs[i] rs[j]) (decide (i=j)) d)/\ze=0/\∃cs,Cx w3 wr.heap.size (λ_=>False) zv cs/\cs.map (·.1)=IR AC rs[i] rs[j] (decide (i=j)))∨((∃d∈AM [] [] (Av rs[i] rs[j]).1.l,Dk AC (Av rs[i] rs[j]) (decide (i=j)) d)/\ze=8/\zv=.slice none 0 0)):=by
      rcases aa with ⟨h1,v',ai,h2,h3,h4⟩|⟨h1,h2⟩
      ·exact⟨v',0,h2,Ad ⟨h1,rfl,ai,TY h3 bd.size,h4⟩⟩
      ·exact⟨_,8,h2,Ae ⟨h1,rfl,rfl⟩⟩
     subst aZ
     have aC:=Aa ae
     have ba:=Aa hb3
     clear aa ae ak
     go_simp
     refine hK.out _ _ (by exact KD.out _ hb3) (λhHeld=>?_)
     clear hK K
     try simp only[Act.put,sq]
     refine tkz 12 ?_
     refine tkz 13 ?_
     refine tkz 14 ?_
     refine tkz 15 ?_
     refine tkz 16 ?_
     refine dnq ?_
     have ar:=Aa (ah.out.trans (hb3.mono ah.out.size))
     have aD:=Aa (aw.out.below hb3)
     have hz3:=hb3.size
     clear hb3
     rcases aC.out with ⟨aF,rfl,ai,ay,az⟩|⟨hf,rfl,rfl⟩
     ·have bb:ai.length<=200:=by
       have h1:=Bu List.length az
       rw[DZ]at h1
       rw[h1]
       exact Ts AC _ aN.out aP.out
      have aG:=ah.out.size
      have hl2:=aA.out
      obtain⟨v2,w4,hrun,a6,hg4⟩:=Tn aD.out ar.out.size (λ_ h=>h.elim) ay aG (λb hb=>(aw.out.own.lt b hb).2) (by omega)
      have ao:=aD.out.own.lt
      have aH:Hid (Below w.heap.size w w4):=ar.out.grown hg4 ar.out.size (λq hq=>(ao q hq).1)
      have bc:=Aa a6
      obtain⟨bn,bo,rfl⟩:=DP ay.own
      clear aC
      obtain⟨a4,c4,hv4⟩:=DP a6.own
      obtain⟨nl,a7⟩:∃nl,nl=(af++ai).length:=⟨_,rfl⟩
      rw[<-a7]at hv4
      subst hv4
      have aq:=Aa hrun
      have a8:=Aa a7
      have aI:Hid (¬H7 AC ((rs[i],i),(rs[j],j))):=λh=>by
       obtain⟨d,hd,hf⟩:=h
       exact aF d hd hf
      have HM:Hid ((af++ai).map (·.1)=af.map (·.1)++G6 AC ((rs[i],i),(rs[j],j))):=by unfold Hid; rw[Cr,az]; rfl
      clear hrun a6 hg4 ao ay az aF a7 hl2 aG bb hz3
      have HE:Hid (DC AC (((rs[i],i),(rs[j],j))::DJ rs.zipIdx i (j+1)) (af.map (·.1))=Dh AC rs):=by unfold Hid; rw[<-HST.out]; exact ax.out
      by_cases aJ:400<nl
      ·have bf:(400:Int)<(nl:Int):=by omega
       go_wp2_with (at_builtin; refine D1 rfl _ _ _ _ rfl rfl rfl aq.out ?_)
       refine Ap (v:=.tuple #[.slice none 0 0,.int .i64 3]) (by simp[results,Tryz.results7,go_sem]) rfl ?_
       have h:=HE.out
       rw[Tg aI.out (by rw[<-HM.out,DZ,<-a8.out]; exact aJ)]at h
       exact⟨aH.out,Ae (Ad ⟨HR.out,by rw[<-h]; decide,by rw[<-h]⟩)⟩
      ·have bf:¬(400:Int)<(nl:Int):=by omega
       have bg:(nl:Int)<=400:=by omega
       go_wp2_with (at_builtin; refine D1 rfl _ _ _ _ rfl rfl rfl aq.out ?_)
       go_roundw
       case rel=>
        have h:=HE.out
        rw[Th aI.out (by rw[<-HM.out,DZ,<-a8.out]; exact aJ),<-HM.out]at h
        exact⟨j+1,by omega,by simp,af++ai,bc.out,by rw[<-a8.out]; omega,aH.out,h⟩
       case measure=>simp[intOf]; omega
     ·have HE:Hid ((8,[])=Dh AC rs):=by
       have h:=ax.out
       rw[HST.out,Tf (by obtain⟨d,hd,h⟩:=hf; exact⟨d,hd,h⟩)]at h
       exact h
      clear hf
      go_wp2_with fail
      refine Ap (v:=.tuple #[.slice none 0 0,.int .i64 8]) (by simp[results,Tryz.results7,go_sem]) rfl ?_
      have h:=HE.out
      exact⟨ar.out,Ae (Ad ⟨HR.out,by rw[<-h]; decide,by rw[<-h]⟩)⟩
    ·have aM:¬(j:Int)<(rs.length:Int):=by omega
     have ej:j=rs.length:=by omega
     have bh:Hid (DC AC (DJ rs.zipIdx (i+1) 0) (af.map (·.1))=Dh AC rs):=by
      unfold Hid
      rw[<-Tj _ i (by simpa using ag),Lh,<-ej]
      exact ax.out
     clear ej
     go_wp2_with fail
     go_roundw
     case rel=>exact⟨i+1,by omega,by simp,af,aw.out,aA.out,ah.out,bh.out⟩
     case measure=>simp[intOf]; omega
  ·have aL:¬(i:Int)<(rs.length:Int):=by omega
   have ei:i=rs.length:=by omega
   have bj:Hid ((0,cs.map (·.1))=Dh AC rs):=by
    have h:DC AC (DJ rs.zipIdx rs.zipIdx.length 0) (cs.map (·.1))=Dh AC rs:=by rw[Lh,<-ei]; exact HC.out
    rw[Tl,Te]at h
    exact h
   clear ei
   go_wp2_with fail
   refine Ap (v:=.tuple #[.slice va cs.length vc,.int .i64 0]) (by simp[results,Tryz.results7,go_sem]) rfl ?_
   have h:=bj.out
   exact⟨HB.out,Ae (Ae ⟨HR.out,by rw[<-h],_,cs,rfl,HQ.out,HL.out,by rw[<-h]⟩)⟩
end Go.Proofs.YtlkeafenklamjaaGreatDoor
