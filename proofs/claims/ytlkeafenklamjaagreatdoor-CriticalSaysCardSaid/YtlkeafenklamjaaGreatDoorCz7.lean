import Derived.Test.YtlkeafenklamjaaGreatDoorCz6
namespace Go.Proofs.YtlkeafenklamjaaGreatDoor
set_option linter.all false
set_option maxRecDepth 20000
set_option maxHeartbeats 8000000
open Go.RowKit
theorem kC (rs:List Pr) (ak:Cg rs=0) (k:Int) (u:Value) (w:World) (X:Nat->Prop) (hu:QV w X u rs):
  Calls Tryz.prog 8 #[u,.int .i64 k] w λe w'=>e=.returned (.tuple #[.bool (DK AC rs k).1,.int .i64 (DK AC rs k).2])/\Below w.heap.size w w':=by
 have HU:=Aa hu
 have HC:=Aa (TZ rs ak u w X hu)
 have a7:rs.length<=40:=by have h:=ak; unfold Cg at h; split at h; cases h; omega
 have a8:Hid (∀p∈rs,Ab [p.l]<=1000000/\Ab [p.r]<=1000000):=λp hp=>by
  obtain⟨q1,q2,-,-⟩:=Ep (GS ak p hp)
  have:=CC q1
  have:=CC q2
  omega
 obtain⟨ua,uc,rfl,aM,-⟩:=id hu
 clear hu ak
 obtain⟨bb,be,au⟩:∃bb be,(bb,be)=DK AC rs k:=⟨_,_,rfl⟩
 rw[<-au]
 have ae:=Aa au
 clear au
 simp only
 go_enter Tryz.func8,Tryz.ntmps8
 go_wp2_with fail
 refine HC.out.mono ?_
 rintro e w1 ⟨hb1,⟨h1,rfl⟩|⟨h1,h2,rfl⟩|⟨h1,h2,v,cs,rfl,hq,hl,hm⟩⟩
 ·have aa:=Aa hb1
  have HE:Hid (bb=false/\be=Cg rs):=by
   have h:=ae.out
   unfold DK at h
   rw[An h1]at h
   exact⟨Bu Prod.fst h,Bu Prod.snd h⟩
  generalize Cg rs=er at *
  have hr3:(er !=0)=true:=by simp[h1]
  clear hb1 h1 ae
  go_wp2_with fail
  refine Ap (v:=.tuple #[.bool false,.int .i64 er]) (by simp[results,Tryz.results8,go_sem]) rfl ?_
  obtain⟨rfl,rfl⟩:=HE.out
  exact⟨rfl,aa.out⟩
 ·have aa:=Aa hb1
  have HE:Hid (bb=false/\be=(Dh AC rs).1):=by
   have h:=ae.out
   unfold DK at h
   rw[As h1,An h2]at h
   exact⟨Bu Prod.fst h,Bu Prod.snd h⟩
  generalize (Dh AC rs).1=er at *
  have hr3:(er !=0)=true:=by simp[h2]
  clear hb1 h1 h2 ae
  go_wp2_with fail
  refine Ap (v:=.tuple #[.bool false,.int .i64 er]) (by simp[results,Tryz.results8,go_sem]) rfl ?_
  obtain⟨rfl,rfl⟩:=HE.out
  exact⟨rfl,aa.out⟩
 ·have aa:=Aa hb1
  have HQ:=Aa hq
  have HM:=Aa hm
  have HR:=Aa h1
  obtain⟨va,vc,rfl⟩:=DP hq.own
  by_cases hk:0<=k/\k<=400
  ·have HE:Hid ((bb,be)=D5 rs k.toNat (cs.map (·.1))):=by
    have h:=ae.out
    unfold DK at h
    rw[As h1,As h2,As hk,<-hm]at h
    exact h
   obtain⟨m,rfl⟩:∃m:Nat,k=(m:Int):=⟨k.toNat,by omega⟩
   have aA:Hid ((bb,be)=D5 rs m (cs.map (·.1))):=HE.out
   have aB:¬(m:Int)<0:=by omega
   have hk2:¬(400:Int)<(m:Int):=by omega
   have aC:Hid (m<=400):=by unfold Hid; omega
   have aD:Hid (∀p∈cs.map (·.1),I1 p):=by unfold Hid; rw[hm]; exact TG AC rs
   have ax:=Aa hq.qv
   have ay:(cs.map (·.1)).length=cs.length:=by simp
   clear hb1 h1 h2 hq hm ae HE hk HM
   go_wp2_with fail
   generalize aF:cs.map (·.1)=ls at *
   rw[<-ay]at ax hl ⊢
   clear ay HQ aF
   go_loopw [8] (λoi wr=>∃i,i<=ls.length/\oi=.int .i64 (i:Int)/\Below w1.heap.size w1 wr/\(bb,be)=D5 rs m (ls.drop i)) (λoi wr=>ls.length-(intOf oi).toNat)
   case atStart=>exact⟨0,AE _,rfl,Af _ _,aA.out⟩
   case round=>
    obtain⟨i,hi,rfl,ao,ai⟩:=hrel
    have aq:=Aa ao
    have HJ:=Aa ai
    by_cases av:i<ls.length
    ·have aG:(i:Int)<(ls.length:Int):=by omega
     have aN:i<=400:=by omega
     obtain⟨b,o,a1,c1,a2,c2,hva,p0,p1,p2,p3,s1,s2⟩:=(ax.out.later ao).get i av
     subst hva
     have aH:=Aa s1
     have aI:=Aa s2
     have az:=Aa (aD.out ls[i] (AV av))
     have a6:Hid ((bb,be)=D5 rs m (ls[i]::ls.drop (i+1))):=by unfold Hid; rw[<-JV av]; exact ai
     have KD:Hid (∀w',Below wr.heap.size wr w'->w'.cell? ⟨b,o+i*4,none⟩=some (.string ls[i].l.name)/\w'.cell? ⟨b,o+i*4+1,none⟩=some (.slice a1 ls[i].l.args.length c1)/\w'.cell? ⟨b,o+i*4+2,none⟩=some (.string ls[i].r.name)/\w'.cell? ⟨b,o+i*4+3,none⟩=some (.slice a2 ls[i].r.args.length c2)):=λw' hb=>⟨cell_later hb p0,cell_later hb p1,cell_later hb p2,cell_later hb p3⟩
     have bd:Below wr.heap.size wr wr.drew:=(Af _ _).drew
     have aJ:=Aa (KD.out _ bd)
     clear ao ai s1 s2 p0 p1 p2 p3
     go_upto_region 9 with fail
     refine CU (S:=λw'=>w'.cell? ⟨b,o+i*4,none⟩=some (.string ls[i].l.name)/\w'.cell? ⟨b,o+i*4+1,none⟩=some (.slice a1 ls[i].l.args.length c1)/\w'.cell? ⟨b,o+i*4+2,none⟩=some (.string ls[i].r.name)/\w'.cell? ⟨b,o+i*4+3,none⟩=some (.slice a2 ls[i].r.args.length c2)) (by kernel_rfl) aJ.out (λhHeld=>?_)
     refine tkz 0 ?_
     refine tkz 1 ?_
     refine tkz 2 ?_
     refine tkz 3 ?_
     refine tkz 4 ?_
     refine tkz 5 ?_ (hy:=by intro w' hSw;obtain⟨p0,p1,p2,p3⟩:=hSw;go_simp<;>with_reducible rfl)
     refine tkz 6 ?_
     refine tkz 7 ?_
     refine tkz 8 ?_
     refine tkz 9 ?_
     refine tkz 10 ?_ (hy:=by intro w' hSw;obtain⟨p0,p1,p2,p3⟩:=hSw;go_simp<;>with_reducible rfl)
     refine tkz 11 ?_
     refine rdq 12 rfl λK hK=>?_
     go_simp
     go_at_call 18
     refine(jC rs ls[i].l ls[i].r m _ a1 a2 c1 c2 wr.drew (λ_=>True) ((((HU.out.later aa.out).later aq.out).later bd).mono λ_ _ _=>trivial) ((aH.out.later bd).mono λ_ _ _=>trivial) ((aI.out.later bd).mono λ_ _ _=>trivial) a7 a8.out az.out.1 az.out.2 aC.out).mono ?_
     rintro e w3 ⟨rfl,hb3⟩
     have aj:=bd.trans (hb3.mono bd.size)
     have ar:Hid (Below w1.heap.size w1 w3):=aq.out.trans (aj.mono aq.out.size)
     obtain⟨mb,me,aw⟩:∃mb me,(mb,me)=DD rs m ls[i].l ls[i].r:=⟨_,_,rfl⟩
     have af:Hid ((bb,be)=if mb=true/\me=0 then D5 rs m (ls.drop (i+1)) else (false,me)):=by
      have h:=a6.out
      rw[D5,<-aw]at h
      exact h
     rw[<-aw]
     clear aw a6 hb3
     go_simp
     refine hK.out _ _ (by exact KD.out _ aj) (λhHeld=>?_)
     clear hK K
     try simp only[Act.put,sq]
     refine tkz 13 ?_
     refine tkz 14 ?_
     refine tkz 15 ?_
     refine tkz 16 ?_
     refine tkz 17 ?_
     refine dnq ?_
     cases mb with
     |false=>
      by_cases ah:me=0
      ·subst ah
       have ag:Hid (bb=false/\be=0):=by have h:=af.out; unfold Hid; simpa using h
       clear af
       go_wp2_with fail
       refine Ap (v:=.tuple #[.bool false,.int .i64 0]) (by simp[results,Tryz.results8,go_sem]) rfl ?_
       obtain⟨rfl,rfl⟩:=ag.out
       exact⟨rfl,aa.out.trans (ar.out.mono aa.out.size)⟩
      ·have ag:Hid (bb=false/\be=me):=by have h:=af.out; unfold Hid; simpa using h
       have aK:(me !=0)=true:=by simp[ah]
       clear af
       go_wp2_with fail
       refine Ap (v:=.tuple #[.bool false,.int .i64 me]) (by simp[results,Tryz.results8,go_sem]) rfl ?_
       obtain⟨rfl,rfl⟩:=ag.out
       exact⟨rfl,aa.out.trans (ar.out.mono aa.out.size)⟩
     |true=>
      by_cases ah:me=0
      ·subst ah
       have ag:Hid ((bb,be)=D5 rs m (ls.drop (i+1))):=by have h:=af.out; unfold Hid; simpa using h
       clear af
       go_wp2_with fail
       go_roundw
       case rel=>exact⟨i+1,by omega,by simp,ar.out,ag.out⟩
       case measure=>simp[intOf]; omega
      ·have ag:Hid ((bb,be)=(false,me)):=by have h:=af.out; rw[An (by simp[ah])] at h; exact h
       have aK:(me !=0)=true:=by simp[ah]
       clear af
       go_wp2_with fail
       refine Ap (v:=.tuple #[.bool false,.int .i64 me]) (by simp[results,Tryz.results8,go_sem]) rfl ?_
       have h:=ag.out
       simp at h
       obtain⟨rfl,rfl⟩:=h
       exact⟨rfl,aa.out.trans (ar.out.mono aa.out.size)⟩
    ·have aG:¬(i:Int)<(ls.length:Int):=by omega
     have aL:Hid ((bb,be)=(true,0)):=by
      unfold Hid
      rw[ai,JW (by omega),D5]
     clear ao ai
     go_wp2_with fail
     refine Ap (v:=.tuple #[.bool true,.int .i64 0]) (by simp[results,Tryz.results8,go_sem]) rfl ?_
     have h:=aL.out
     simp at h
     obtain⟨rfl,rfl⟩:=h
     exact⟨rfl,aa.out.trans (aq.out.mono aa.out.size)⟩
  ·have HE:Hid (bb=false/\be=10):=by
    have h:=ae.out
    unfold DK at h
    rw[As h1,As h2,An hk]at h
    exact⟨Bu Prod.fst h,Bu Prod.snd h⟩
   clear hb1 h1 h2 hq hm ae
   by_cases aB:k<0
   ·go_wp2_with fail
    refine Ap (v:=.tuple #[.bool false,.int .i64 10]) (by simp[results,Tryz.results8,go_sem]) rfl ?_
    obtain⟨rfl,rfl⟩:=HE.out
    exact⟨rfl,aa.out⟩
   ·have hk2:400<k:=by omega
    go_wp2_with fail
    refine Ap (v:=.tuple #[.bool false,.int .i64 10]) (by simp[results,Tryz.results8,go_sem]) rfl ?_
    obtain⟨rfl,rfl⟩:=HE.out
    exact⟨rfl,aa.out⟩
end Go.Proofs.YtlkeafenklamjaaGreatDoor
