import Derived.Test.YtgbcafaibocebaaGreatDoorW59
namespace Go.Proofs.YtgbcafaibocebaaGreatDoor
set_option linter.all false
set_option maxRecDepth 20000
set_option maxHeartbeats 8000000
open Go.RowKit Go.Proofs.Tryz
theorem MT (ls:List Bd):∀l:List Tm,fL ls l=l.map (fT ls)
 | []=>by simp[fL]
 | ⟨s,a⟩::r=>by rw[fL,MT ls r]; rfl
theorem Xb (F B r:Nat) (ls:List Bd) (L:List (ByteArray×Value)) (aF:B≠F) (aG:r≠F) (t:Tm):∀(n:Nat) (v:Value) (w:World) (X:Nat->Prop),TV w X v t->(∀b,X b->b≠F)->n<=1000000->Ac w F #[zA n,.func (.func 95) #[] #[zC B]] 132->EQ w B r X ls L->
  Calls prog 111 #[zC F,v,.func (.func 96) #[zC F] #[]] w λe w'=>Gg w F (.func (.func 95) #[] #[zC B]) ⟨t.name,fL ls t.args⟩ n e w':=by
 induction t using Tm.ind with
 |h s l ih=>
  intro n v w X hv aH hn hF hE;obtain⟨a,c,rfl,hs⟩:=hv;(try dsimp only[zF]);(try dsimp only[zG]);(try dsimp only[zE]);(try dsimp only);generalize aQ:Value.func (.func 95) #[] #[zC B]=sv at *;obtain⟨M,R⟩:∃M,fL ls l=M:=⟨_,rfl⟩;rw[R];have aR:M.length=l.length:=by rw[<-R,MT]; simp
  have aS:Hid (∀k (h:k<M.length) (h':k<l.length),M[k]=fT ls l[k]):=λk h h'=>by subst R; simp[MT]
  have HE:=Aa hE;clear hE R;have IH:=Aa ih;clear ih;obtain⟨i0,aI,aJ,aK,aL⟩:=CE Tryz.infoTerm;have f0:∀o,(w.alloc o).cell? (zD F 0)=some (zA n):=λo=>(hF.alloc o).cell 0;have ff:∀o,(w.alloc o).frozen? (zD F 0)=false:=λo=>(hF.alloc o).frozen 0;have aM:F<w.heap.size:=hF.lt;go_enter func111,ntmps111;go_wp2_with fail;have E3:Hid (IU w F (w.heap.size+1+1) s zB #[zA ((n:Int)-1),sv] ((((w.setCell (zD F 0) (zA ((n:Int)-1))).alloc (.cells #[.string s,.slice a l.length c] 33)).alloc (.cells #[.string ⟨#[]⟩,zB] 33)).alloc (.cells #[.string s,zB] 33))):=by
   refine⟨((((Ex.refl F w).set 0 _).alloc _).alloc _).alloc _,?_,?_,(((hF.set 0 _).alloc _).alloc _).alloc _,by simp[World.setCell]⟩
   ·have h:=(Ac.new ((w.setCell (zD F 0) (zA ((n:Int)-1))).alloc (.cells #[.string s,.slice a l.length c] 33)) #[.string ⟨#[]⟩,zB] 33).alloc (.cells #[.string s,zB] 33);simpa [World.setCell] using h
   ·have h:=Ac.new (((w.setCell (zD F 0) (zA ((n:Int)-1))).alloc (.cells #[.string s,.slice a l.length c] 33)).alloc (.cells #[.string ⟨#[]⟩,zB] 33)) #[.string s,zB] 33;simpa [World.setCell] using h
  generalize ((((w.setCell (zD F 0) (zA ((n:Int)-1))).alloc (.cells #[.string s,.slice a l.length c] 33)).alloc (.cells #[.string ⟨#[]⟩,zB] 33)).alloc (.cells #[.string s,zB] 33))=w3 at *;generalize aT:w.heap.size+1+1=O at *;have hO:w.heap.size+2<=O:=by omega
  clear aT;clear f0 ff;have HS:=Aa hs;have hl:=hs.1;have D:=Aa aH;have hz:Ab [(⟨s,M⟩:Tm)]=1+Ab M:=by simp[Ab]
  clear hs aH;go_loopw [23] (λi wr=>OQ w F O s sv M n i wr) (λi wr=>l.length-(intOf i).toNat);case atStart=>
   refine⟨0,zB,AG _,rfl,?_⟩;by_cases aU:n=0
   ·subst aU;exact Ae ⟨by omega,E3.o,none,0,0,rfl⟩
   ·refine Ad ⟨n-1,[],by simp[Ab]; omega,?_,AK.start _ _ _ _⟩;rw[show((n-1:Nat):Int)=(n:Int)-1 by omega];exact E3.o
  case round=>
   obtain⟨k,u,hk,rfl,an⟩:=hrel;rcases an with ⟨m,xs,hm,E,ao⟩|⟨aV,E,a9,G,c9,rfl⟩
   ·have d:=Aa E;have q:=Aa ao;have H:=Aa hm;clear E ao;by_cases I:k<l.length
    ·obtain⟨b,o,f,c',rfl,d0,d1,hx⟩:=(HS.o.ex d.o.1 D.o).get (Af _ _) (λ_ _ h=>h) k I;obtain⟨av,cv,ev,aW⟩:=hx;simp at ev;obtain⟨rfl,rfl⟩:=ev;have T:k<M.length:=(by omega);obtain⟨y,hy⟩:∃y,fT ls l[k]=y:=⟨_,rfl⟩;have Z:Hid (M[k]=y):=Aa (by rw[aS.o k T I,hy]);have aN:m<=1000000:=(by omega);have C:Hid (O≠F):=Aa (by omega);have ar:Hid (F<O+1):=Aa (by omega);have hlen:=EM M;have a6:(M.take k).length=k:=by simp; omega
     have bh:k<=1000000:=by have h1:=EM (M.take k); rw[a6] at h1; omega
     have U:Hid ((M.take k).length+1<=maxLen/\((M.take k).length+1)*40<=140737488355328):=Aa (by rw[a6];exact⟨by unfold maxLen; omega,by omega⟩);clear a6;have V:Hid (Calls prog 96 #[zC F,.agg (zF l[k] f c')] (wr.alloc (.cells (zF l[k] f c') 33)).drew λe z=>Gg (wr.alloc (.cells (zF l[k] f c') 33)).drew F sv y m e z):=(by have aX:EQ (wr.alloc (.cells (zF l[k] f c') 33)).drew B r X ls L:=((HE.o.ex d.o.1 aF aG D.o).later ((Af _ _).alloc (Ai _) _)).later ((Af _ _).drew);have aY:Ac (wr.alloc (.cells (zF l[k] f c') 33)).drew F #[zA m,sv] 132:=(d.o.2.2.2.1.alloc _).drewN 1;have aZ:Sl (wr.alloc (.cells (zF l[k] f c') 33)).drew X f l[k].args:=(aW.later ((Af _ _).alloc (Ai _) _)).later ((Af _ _).drew);have ba:=IH.o l[k] (AN I) m;rw[<-hy];clear H d q;subst aQ;exact Qc F B r ls L l[k] m f c' _ X aN D.o aF aG aZ aY aX (λw' h1 h2 h3=>ba _ w' X ⟨f,c',rfl,h1⟩ D.o aN h2 h3));have f0:∀o,(wr.alloc o).cell? (zD F 0)=some (zA m):=λo=>(d.o.2.2.2.1.alloc o).cell 0;have o1:∀o,(wr.alloc o).cell? (zD O 1)=some u:=λo=>(d.o.2.2.1.alloc o).cell 1;have bj:¬(m:Int)<0:=(by omega);by_cases hle:Ab [y]<=m
     ·have a7:Hid (Calls prog 96 #[zC F,.agg (zF l[k] f c')] (wr.alloc (.cells (zF l[k] f c') 33)).drew λe z=>∃a1 c1,e=.returned (.agg (zF y a1 c1))/\Ac z F #[zA ((m:Int)-Ab [y]),sv] 132/\Ex F wr z/\Sl z (λb=>wr.heap.size<=b) a1 y.args):=V.o.mono λe z hp=>by
       obtain⟨s1,a1,l1,c1,m1,h1,h2,h3,h4,_⟩:=hp;obtain⟨rfl,rfl,rfl,h5⟩:=h4 hle;exact⟨a1,c1,h1,h2,(((Ex.refl F wr).alloc _).drew).trans h3,h5.mono λb hb _=>by simp at hb; omega⟩
      clear V;go_wp2_with fail;go_region_law (first
       | (go_simp; go_at_call 96; refine a7.o.mono ?_; rintro e w1 ⟨a1,c1,rfl,J,ab,aO⟩; have a8:∀o,(w1.alloc o).cell? (zD O 1)=some u:=λo=>((Ac.ex d.o.2.2.1 ab C.o).alloc o).cell 1; have aA:w1.cell? (zD O 1)=some u:=(Ac.ex d.o.2.2.1 ab C.o).cell 1)
       | (refine step_append_lies _ rfl _ _ 31 rfl (O+1) 33 i0 _ 2 40 underlying31 aI aJ aK aL rfl (by decide) u (M.take k).length xs rfl (by exact(AK.ex (B:=F) q.o ab ar.o (λh=>h)).own.alloc _) (zD w1.heap.size 0) 1 1 [.string y.name,.slice a1 y.args.length c1] rfl rfl (cell_two_new _ _ _ _) (λx hx=>by simp at hx; rcases hx with rfl|rfl<;>rfl) (by decide) U.o.1 U.o.2 (by have:=ab.size; have:=d.o.2.2.2.2; simp; omega) _ rfl ?_; intro g cap w3 W aa Y ai; have A:=Aa (((Ac.ex d.o.2.2.1 ab C.o).alloc _).grown aa (q.o.ne (D8 _))); have aB:w3.cell? (zD O 1)=some u:=A.o.cell 1; have aC:=A.o.frozen 1))
      all_goals
       have HK:=Aa (KJ (v:=.slice (some (zD g 0)) ((M.take k).length+1) cap) aM hO d.o (λj hj=>(q.o.own.lt j hj).1) ab J aa);have bb:=Aa (OP (by omega) d.o.2.2.2.2 q.o ab ⟨a1,c1,rfl,aO⟩ W aa Y);clear W aa Y a8 aA aB aC A J ab aO ai;go_wp2_with fail;go_roundw
       case rel=>
        have aD:(M.take k).length=k:=by simp; omega
        have h1:=HK.o;have h2:=bb.o;have aP:=H.o;simp only[aD] at h1 h2;have aE:min k l.length=k:=(by omega);simp only[aE];refine⟨k+1,.slice (some (zD g 0)) (k+1) cap,by omega,by go_num,Ad ⟨m-Ab [y],xs++[.string y.name,.slice a1 y.args.length c1],by rw[De M k T,Z.o]; omega,?_,?_⟩⟩
        ·rw[show((m-Ab [y]:Nat):Int)=(m:Int)-Ab [y] by omega];exact h1
        ·rw[Bo T,Z.o];exact h2
       case measure=>simp[intOf]; omega
     ·have a7:Hid (Calls prog 96 #[zC F,.agg (zF l[k] f c')] (wr.alloc (.cells (zF l[k] f c') 33)).drew λe z=>∃s1 a1 l1 c1,e=.returned (.agg #[.string s1,.slice a1 l1 c1])/\Ac z F #[zA (-1),sv] 132/\Ex F wr z):=V.o.mono λe z hp=>by
       obtain⟨s1,a1,l1,c1,m1,h1,h2,h3,_,h4⟩:=hp;obtain rfl:=h4 (by omega);exact⟨s1,a1,l1,c1,h1,h2,(((Ex.refl F wr).alloc _).drew).trans h3⟩
      clear V;go_wp2_with fail;go_region_law (first
       | (go_simp; go_at_call 96; refine a7.o.mono ?_; rintro e w1 ⟨s1,a1,l1,c1,rfl,J,ab⟩; have a8:∀o,(w1.alloc o).cell? (zD O 1)=some u:=λo=>((Ac.ex d.o.2.2.1 ab C.o).alloc o).cell 1; have aA:w1.cell? (zD O 1)=some u:=(Ac.ex d.o.2.2.1 ab C.o).cell 1)
       | (refine step_append_lies _ rfl _ _ 31 rfl (O+1) 33 i0 _ 2 40 underlying31 aI aJ aK aL rfl (by decide) u (M.take k).length xs rfl (by exact(AK.ex (B:=F) q.o ab ar.o (λh=>h)).own.alloc _) (zD w1.heap.size 0) 1 1 [.string s1,.slice a1 l1 c1] rfl rfl (cell_two_new _ _ _ _) (λx hx=>by simp at hx; rcases hx with rfl|rfl<;>rfl) (by decide) U.o.1 U.o.2 (by have:=ab.size; have:=d.o.2.2.2.2; simp; omega) _ rfl ?_; intro g cap w3 W aa Y ai; have A:=Aa (((Ac.ex d.o.2.2.1 ab C.o).alloc _).grown aa (q.o.ne (D8 _))); have aB:w3.cell? (zD O 1)=some u:=A.o.cell 1; have aC:=A.o.frozen 1))
      all_goals
       have HK:=Aa (KJ (v:=.slice (some (zD g 0)) ((M.take k).length+1) cap) aM hO d.o (λj hj=>(q.o.own.lt j hj).1) ab J aa);clear W aa Y a8 aA aB aC A J ab ai;go_wp2_with fail;go_roundw
       case rel=>
        have aD:(M.take k).length=k:=by simp; omega
        have h0:=HK.o;have aP:=H.o;simp only[aD] at h0;have aE:min k l.length=k:=(by omega);simp only[aE];refine⟨k+1,.slice (some (zD g 0)) (k+1) cap,by omega,by go_num,Ae ⟨?_,h0,_,_,_,rfl⟩⟩;have h1:=De M k T;rw[Z.o]at h1;have h2:=Df M (k+1);omega
       case measure=>simp[intOf]; omega
    ·have bc:M.take k=M:=AX (by omega);rw[bc]at q H;obtain⟨a9,c9,bd,aw⟩:=q.o.sl;subst bd;have S9:=Aa aw;clear aw;have N:=d.o.2.1.c0;have P:=d.o.2.1.c1;have rf:=d.o.2.1.frozen;have o0:=d.o.2.2.1.c0;have o1:=d.o.2.2.1.c1;go_wp2_with fail;refine An (v:=.agg #[.string s,.slice a9 M.length c9]) (by simp[results,results111,go_sem,Ay,Aw,N,P,aR]) rfl ?_;have aP:=H.o;refine⟨s,a9,M.length,c9,m,rfl,(d.o.2.2.2.1.setOther _ _ (by omega)).setOther _ _ (by omega),(d.o.1.setNew (by omega) _ _).setNew (by omega) _ _,λh=>⟨by rw[hz]; omega,rfl,rfl,(S9.o.kept λb hb=>?_).mono λb hb _=>?_⟩,λh=>by omega⟩
     ·have bf:O+1<=b:=hb.elim False.elim id;rw[Aq _ _ _ _ (by simp; omega),Aq _ _ _ _ (by simp; omega)]
     ·have bf:O+1<=b:=hb.elim False.elim id;omega
   ·have d:=Aa E;clear E;have f0:∀o,(wr.alloc o).cell? (zD F 0)=some (zA (-1)):=λo=>(d.o.2.2.2.1.alloc o).cell 0;by_cases I:k<l.length
    ·obtain⟨b,o,f,c',rfl,d0,d1,hx⟩:=(HS.o.ex d.o.1 D.o).get (Af _ _) (λ_ _ h=>h) k I;clear hx;have o0:∀o,(wr.alloc o).cell? (zD O 0)=some (.string s):=λo=>(d.o.2.2.1.alloc o).cell 0;have o1:∀o,(wr.alloc o).cell? (zD O 1)=some (.slice a9 G c9):=λo=>(d.o.2.2.1.alloc o).cell 1;have N:=d.o.2.1.c0;have P:=d.o.2.1.c1;have rf:=d.o.2.1.frozen;have bg:w.heap.size+1<wr.heap.size:=d.o.2.1.lt;go_wp2_with fail;refine An (v:=.agg #[.string s,.slice a9 G c9]) (by simp[results,results111,go_sem,Ay,Aw,N,P,bg,Da]) rfl ?_;exact⟨s,a9,G,c9,-1,rfl,((d.o.2.2.2.1.setOther _ _ (by omega)).setOther _ _ (by omega)).alloc _,((d.o.1.setNew (by omega) _ _).setNew (by omega) _ _).alloc _,λh=>by omega,λ_=>rfl⟩
    ·have N:=d.o.2.1.c0;have P:=d.o.2.1.c1;have rf:=d.o.2.1.frozen;have o0:=d.o.2.2.1.c0;have o1:=d.o.2.2.1.c1;go_wp2_with fail;refine An (v:=.agg #[.string s,.slice a9 G c9]) (by simp[results,results111,go_sem,Ay,Aw,N,P]) rfl ?_;exact⟨s,a9,G,c9,-1,rfl,(d.o.2.2.2.1.setOther _ _ (by omega)).setOther _ _ (by omega),(d.o.1.setNew (by omega) _ _).setNew (by omega) _ _,λh=>by omega,λ_=>rfl⟩
