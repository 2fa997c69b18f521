import Derived.Test.YtgbcafaibocebaaGreatDoorCz5
namespace Go.Proofs.YtgbcafaibocebaaGreatDoor
set_option linter.all false
set_option maxRecDepth 20000
set_option maxHeartbeats 8000000
open Go.RowKit Go.Proofs.Tryz
theorem U1 (rs:List Pr) (N:Ck rs=0) (u:Value) (w:World) (X:Nat->Prop) (hu:QV w X u rs):
  Calls prog 12 #[u] w λe w'=>LX AE rs w e w':=by
 have HU:=Aa hu;have c:=Aa N;have aN:rs.length<=40:=by have h:=N; unfold Ck at h; split at h; cases h; omega
 obtain⟨ua,uc,rfl,bo,-⟩:=id hu;clear hu N;go_enter func12,ntmps12;go_wp2_with fail;go_loopw [4,5] (λt f wr=>∃i,i<=rs.length/\f=zA i/\LW AE rs w i 0 t wr) (λt f wr=>rs.length-(intOf f).toNat);case atStart=>exact⟨0,AG _,rfl,[],Cm.start _ _ _,by simp,Af _ _,rfl⟩
 case round=>
  obtain⟨i,hi,rfl,cs,O,hl,hB,hc⟩:=hrel;obtain⟨va,vc,rfl⟩:=DX O.own;have HQ:=Aa O;have HB:=Aa hB;have HC:=Aa hc;have HL:=Aa hl;clear O hB hc hl;by_cases k:i<rs.length
  ·have aO:(i:Int)<(rs.length:Int):=(by omega);go_wp2_with fail;go_loopw [4,6] (λt f wr=>∃j,j<=rs.length/\f=zA j/\LW AE rs w i j t wr) (λt f wr=>rs.length-(intOf f).toNat);case atStart=>exact⟨0,AG _,rfl,cs,HQ.o,HL.o,HB.o,HC.o⟩
   case round=>
    obtain⟨j,hj,rfl,g,P,y,BH,aA⟩:=hrel;obtain⟨bp,bq,rfl⟩:=DX P.own;have R:=Aa P;have m:=Aa BH;have T:=Aa aA;have aB:=Aa y;clear P BH aA y;by_cases x:j<rs.length
    ·have aP:(j:Int)<(rs.length:Int):=(by omega);have aQ:=Aa (LU (Hh c.o rs[i] (AN k)));have aR:i<=40/\j<=40:=(by omega);have aS:=Aa (LU (Hh c.o rs[j] (AN x)));have aC:Hid (DS rs.zipIdx i j=((rs[i],i),(rs[j],j))::DS rs.zipIdx i (j+1)):=Aa (by rw[Uk _ i j (by simpa using k) (by simpa using x),LQ rs i k,LQ rs j x]);have aT:=Aa (Hh c.o rs[i] (AN k));have aU:=Aa (Hh c.o rs[j] (AN x));obtain⟨b,o,a1,c1,a2,c2,aV,z,A,B,C,s1,s2⟩:=(HU.o.later m.o).get i k;obtain⟨b',o',a3,c3,a4,c4,aD,D,E,F,G,s3,s4⟩:=(HU.o.later m.o).get j x;subst aV;simp only[H7,Addr.mk.injEq,and_true] at aD;obtain⟨rfl,rfl⟩:=aD;have aW:=Aa s1;have aX:=Aa s2;have aY:=Aa s3;have aZ:=Aa s4;have ba:Hid (((i:Int)==(j:Int))=decide (i=j)):=by
      unfold Hid;by_cases h:i=j
      ·subst h; simp
      ·have h2:¬(i:Int)=(j:Int):=(by omega);simp[h,h2]
     have KD:Hid (∀w',Below wr.heap.size wr w'->w'.cell? ⟨b,o+i*4,none⟩=some (.string rs[i].l.name)/\w'.cell? ⟨b,o+i*4+1,none⟩=some (.slice a1 rs[i].l.args.length c1)/\w'.cell? ⟨b,o+i*4+2,none⟩=some (.string rs[i].r.name)/\w'.cell? ⟨b,o+i*4+3,none⟩=some (.slice a2 rs[i].r.args.length c2)/\w'.cell? ⟨b,o+j*4,none⟩=some (.string rs[j].l.name)/\w'.cell? ⟨b,o+j*4+1,none⟩=some (.slice a3 rs[j].l.args.length c3)/\w'.cell? ⟨b,o+j*4+2,none⟩=some (.string rs[j].r.name)/\w'.cell? ⟨b,o+j*4+3,none⟩=some (.slice a4 rs[j].r.args.length c4)):=λw' hb=>⟨cell_later hb z,cell_later hb A,cell_later hb B,cell_later hb C,cell_later hb D,cell_later hb E,cell_later hb F,cell_later hb G⟩;have a:Below wr.heap.size wr wr.drew:=(Af _ _).drew;have bb:=Aa (KD.o _ a);clear s1 s2 s3 s4 z A B C D E F G;go_upto_region 8 with fail;refine CR (S:=λw'=>w'.cell? ⟨b,o+i*4,none⟩=some (.string rs[i].l.name)/\w'.cell? ⟨b,o+i*4+1,none⟩=some (.slice a1 rs[i].l.args.length c1)/\w'.cell? ⟨b,o+i*4+2,none⟩=some (.string rs[i].r.name)/\w'.cell? ⟨b,o+i*4+3,none⟩=some (.slice a2 rs[i].r.args.length c2)/\w'.cell? ⟨b,o+j*4,none⟩=some (.string rs[j].l.name)/\w'.cell? ⟨b,o+j*4+1,none⟩=some (.slice a3 rs[j].l.args.length c3)/\w'.cell? ⟨b,o+j*4+2,none⟩=some (.string rs[j].r.name)/\w'.cell? ⟨b,o+j*4+3,none⟩=some (.slice a4 rs[j].r.args.length c4)) (by kernel_rfl) bb.o λhH=>?_;refine tkz 0 ?_;refine tkz 1 ?_;refine tkz 2 ?_;refine tkz 3 ?_ (hy:=by intro w' U;obtain⟨z,A,B,C,D,E,F,G⟩:=U;go_simp<;>with_reducible rfl);refine tkz 4 ?_;refine tkz 5 ?_;refine tkz 6 ?_;refine tkz 7 ?_ (hy:=by intro w' U;obtain⟨z,A,B,C,D,E,F,G⟩:=U;go_simp<;>with_reducible rfl);refine tkz 8 ?_;refine tkz 9 ?_;refine tkz 10 ?_;try rw[ba.o]
     refine rdq 11 rfl λK hK=>?_;go_simp;go_at_call 24;refine(nA rs[i] rs[j] aT.o aU.o (decide (i=j)) a1 a2 a3 a4 c1 c2 c3 c4 wr.drew X (aW.o.later a) (aX.o.later a) (aY.o.later a) (aZ.o.later a)).mono ?_;rintro e w3 ⟨aj,aa⟩;have n:Below wr.heap.size wr w3:=a.trans (aj.mono a.size);obtain⟨H,I,bc,ab⟩:∃H I,e=.returned (.tuple #[H,zA I])/\(((∀d∈AQ [] [] (Av rs[i] rs[j]).1.l,¬Dv AE (Av rs[i] rs[j]) (decide (i=j)) d)/\I=0/\∃cs,Cm w3 wr.heap.size (λ_=>False) H cs/\cs.map (·.1)=Jk AE rs[i] rs[j] (decide (i=j)))∨((∃d∈AQ [] [] (Av rs[i] rs[j]).1.l,Dv AE (Av rs[i] rs[j]) (decide (i=j)) d)/\I=8/\H=zB)):=by
      rcases aa with ⟨h1,v',s,h2,h3,h4⟩|⟨h1,h2⟩
      ·exact⟨v',0,h2,Ad ⟨h1,rfl,s,U0 h3 a.size,h4⟩⟩
      ·exact⟨_,8,h2,Ae ⟨h1,rfl,rfl⟩⟩
     subst bc;have aE:=Aa ab;have bf:=Aa n;clear aa ab aj;go_simp;refine hK.o _ _ (by exact KD.o _ n) λhH=>?_;clear hK K;(try simp only[Act.put,sq]);refine tkz 12 ?_;refine tkz 13 ?_;refine tkz 14 ?_;refine tkz 15 ?_;refine tkz 16 ?_;refine dnq ?_;have J:=Aa (m.o.trans (n.mono m.o.size));have aF:=Aa (R.o.below n);have bg:=n.size;clear n;rcases aE.o with ⟨aG,rfl,s,V,W⟩|⟨L,rfl,rfl⟩
     ·have bh:s.length<=200:=(by have h1:=Bx List.length W;rw[Ea]at h1;rw[h1];exact Uw AE _ aQ.o aS.o);have aH:=m.o.size;have y:=aB.o;obtain⟨v2,w4,ak,Y,aI⟩:=NV aF.o J.o.size (λ_ h=>h.elim) V aH (λb hb=>(R.o.own.lt b hb).2) (by omega);have al:=aF.o.own.lt;have aJ:Hid (Below w.heap.size w w4):=J.o.grown aI J.o.size (λq hq=>(al q hq).1);have bj:=Aa Y;obtain⟨br,bs,rfl⟩:=DX V.own;clear aE;obtain⟨a4,c4,aK⟩:=DX Y.own;obtain⟨nl,Z⟩:∃nl,nl=(g++s).length:=⟨_,rfl⟩;rw[<-Z]at aK;subst aK;have an:=Aa ak;have a8:=Aa Z;have aL:Hid (¬Ix AE ((rs[i],i),(rs[j],j))):=λh=>by
       obtain⟨d,hd,L⟩:=h;exact aG d hd L
      have HM:Hid ((g++s).map (·.1)=g.map (·.1)++Hv AE ((rs[i],i),(rs[j],j))):=Aa (by rw[Cr,W];rfl);clear ak Y aI al V W aG Z y aH bh bg;have M:Hid (DL AE (((rs[i],i),(rs[j],j))::DS rs.zipIdx i (j+1)) (g.map (·.1))=Ds AE rs):=Aa (by rw[<-aC.o];exact T.o);by_cases aM:400<nl
      ·have bk:(400:Int)<(nl:Int):=(by omega);go_wp2_with (at_builtin; refine DD rfl _ _ _ _ rfl rfl rfl an.o ?_);refine An (v:=.tuple #[zB,zA 3]) (by simp[results,results12,go_sem]) rfl ?_;have h:=M.o;rw[Ui aL.o (by rw[<-HM.o,Ea,<-a8.o]; exact aM)]at h;exact⟨aJ.o,Ae (Ad ⟨c.o,by rw[<-h]; decide,by rw[<-h]⟩)⟩
      ·have bk:¬(400:Int)<(nl:Int):=(by omega);have bl:(nl:Int)<=400:=(by omega);go_wp2_with (at_builtin; refine DD rfl _ _ _ _ rfl rfl rfl an.o ?_);go_roundw
       case rel=>have h:=M.o;rw[Uj aL.o (by rw[<-HM.o,Ea,<-a8.o]; exact aM),<-HM.o]at h;exact⟨j+1,by omega,by simp,g++s,bj.o,by rw[<-a8.o]; omega,aJ.o,h⟩
       case measure=>simp[intOf]; omega
     ·have M:Hid ((8,[])=Ds AE rs):=(by have h:=T.o;rw[aC.o,Uh (by obtain⟨d,hd,h⟩:=L; exact⟨d,hd,h⟩)]at h;exact h);clear L;go_wp2_with fail;refine An (v:=.tuple #[zB,zA 8]) (by simp[results,results12,go_sem]) rfl ?_;have h:=M.o;exact⟨J.o,Ae (Ad ⟨c.o,by rw[<-h]; decide,by rw[<-h]⟩)⟩
    ·have aP:¬(j:Int)<(rs.length:Int):=(by omega);have ej:j=rs.length:=(by omega);have bm:Hid (DL AE (DS rs.zipIdx (i+1) 0) (g.map (·.1))=Ds AE rs):=Aa (by rw[<-Ul _ i (by simpa using k),LP,<-ej];exact T.o);clear ej;go_wp2_with fail;go_roundw
     case rel=>exact⟨i+1,by omega,by simp,g,R.o,aB.o,m.o,bm.o⟩
     case measure=>simp[intOf]; omega
  ·have aO:¬(i:Int)<(rs.length:Int):=(by omega);have ei:i=rs.length:=(by omega);have bn:Hid ((0,cs.map (·.1))=Ds AE rs):=by
    have h:DL AE (DS rs.zipIdx rs.zipIdx.length 0) (cs.map (·.1))=Ds AE rs:=by rw[LP,<-ei]; exact HC.o
    rw[Um,Ug]at h;exact h
   clear ei;go_wp2_with fail;refine An (v:=.tuple #[.slice va cs.length vc,zA 0]) (by simp[results,results12,go_sem]) rfl ?_;have h:=bn.o;exact⟨HB.o,Ae (Ae ⟨c.o,by rw[<-h],_,cs,rfl,HQ.o,HL.o,by rw[<-h]⟩)⟩
