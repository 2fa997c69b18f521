import Derived.Test.YthaililgaompeaaGreatDoorW59
namespace Go.Proofs.YthaililgaompeaaGreatDoor
set_option linter.all false
set_option maxRecDepth 20000
set_option maxHeartbeats 8000000
open Go.RowKit Go.Proofs.Tryz
theorem Lc (ls:List Bd):∀l:List Tm,fL ls l=l.map (fT ls)
 | []=>by simp[fL]
 | ⟨s,a⟩::r=>by rw[fL,Lc ls r]; rfl
theorem Y7 (F B r:Nat) (ls:List Bd) (L:List (ByteArray×Value)) (aF:B≠F) (aG:r≠F) (t:Tm):∀(n:Nat) (v:Value) (w:World) (X:Nat->Prop),TV w X v t->(∀b,X b->b≠F)->n<=1000000->Ac w F #[zA n,.func (.func 102) #[] #[zC B]] 146->E8 w B r X ls L->
  Calls prog 114 #[zC F,v,.func (.func 90) #[zC F] #[]] w λe w'=>E6 w F (.func (.func 102) #[] #[zC B]) ⟨t.name,fL ls t.args⟩ n e w':=by
 induction t using Tm.ind with
 |h s l ih=>
  intro n v w X hv aH hn hF hE;obtain⟨a,c,rfl,hs⟩:=hv;(try dsimp only[zF]);(try dsimp only[zG]);(try dsimp only[zE]);(try dsimp only);generalize aQ:Value.func (.func 102) #[] #[zC B]=C at *;obtain⟨M,T⟩:∃M,fL ls l=M:=⟨_,rfl⟩;rw[T];have aR:M.length=l.length:=by rw[<-T,Lc]; simp
  have aS:Hid (∀k (h:k<M.length) (h':k<l.length),M[k]=fT ls l[k]):=λk h h'=>by subst T; simp[Lc]
  have HE:=Aa hE;clear hE T;have IH:=Aa ih;clear ih;obtain⟨i0,aI,aJ,aK,aL⟩:=DO Tryz.infoTerm;have f0:∀o,(w.alloc o).cell? (zD F 0)=some (zA n):=λo=>(hF.alloc o).cell 0;have ff:∀o,(w.alloc o).frozen? (zD F 0)=false:=λo=>(hF.alloc o).frozen 0;have aM:F<w.heap.size:=hF.lt;go_enter func114,ntmps114;go_wp2_with fail;have E3:Hid (IY w F (w.heap.size+1+1) s zB #[zA ((n:Int)-1),C] ((((w.setCell (zD F 0) (zA ((n:Int)-1))).alloc (zh #[.string s,.slice a l.length c] 31)).alloc zc).alloc (zh #[.string s,zB] 31))):=by
   refine⟨((((Ex.refl F w).set 0 _).alloc _).alloc _).alloc _,?_,?_,(((hF.set 0 _).alloc _).alloc _).alloc _,by simp[World.setCell]⟩
   ·have h:=(Ac.new ((w.setCell (zD F 0) (zA ((n:Int)-1))).alloc (zh #[.string s,.slice a l.length c] 31)) zd 31).alloc (zh #[.string s,zB] 31);simpa [World.setCell] using h
   ·have h:=Ac.new (((w.setCell (zD F 0) (zA ((n:Int)-1))).alloc (zh #[.string s,.slice a l.length c] 31)).alloc zc) #[.string s,zB] 31;simpa [World.setCell] using h
  generalize ((((w.setCell (zD F 0) (zA ((n:Int)-1))).alloc (zh #[.string s,.slice a l.length c] 31)).alloc zc).alloc (zh #[.string s,zB] 31))=w3 at *;generalize aT:w.heap.size+1+1=O at *;have hO:w.heap.size+2<=O:=by omega
  clear aT;clear f0 ff;have HS:=Aa hs;have hl:=hs.1;have E:=Aa aH;have hz:Ab [(⟨s,M⟩:Tm)]=1+Ab M:=by simp[Ab]
  clear hs aH;go_loopw [23] (λi wr=>OJ w F O s C M n i wr) (λi wr=>l.length-(intOf i).toNat);case atStart=>
   refine⟨0,zB,Be _,rfl,?_⟩;by_cases aU:n=0
   ·subst aU;exact Ad ⟨by omega,E3.o,none,0,0,rfl⟩
   ·refine Ae ⟨n-1,[],by simp[Ab]; omega,?_,A1.start _ _ _ _⟩;rw[show((n-1:Nat):Int)=(n:Int)-1 by omega];exact E3.o
  case round=>
   obtain⟨k,u,hk,rfl,an⟩:=hrel;rcases an with ⟨m,xs,hm,G,ao⟩|⟨aV,G,a9,H,z,rfl⟩
   ·have d:=Aa G;have f:=Aa ao;have I:=Aa hm;clear G ao;by_cases J:k<l.length
    ·obtain⟨b,o,a',c',rfl,d0,d1,hx⟩:=(HS.o.ex d.o.1 E.o).get (Ag _ _) (λ_ _ h=>h) k J;obtain⟨av,cv,ev,aW⟩:=hx;simp at ev;obtain⟨rfl,rfl⟩:=ev;have U:k<M.length:=(by omega);obtain⟨y,hy⟩:∃y,fT ls l[k]=y:=⟨_,rfl⟩;have az:Hid (M[k]=y):=Aa (by rw[aS.o k U J,hy]);have aN:m<=1000000:=(by omega);have D:Hid (O≠F):=Aa (by omega);have ar:Hid (F<O+1):=Aa (by omega);have hlen:=E4 M;have a6:(M.take k).length=k:=by simp; omega
     have bh:k<=1000000:=by have h1:=E4 (M.take k); rw[a6] at h1; omega
     have V:Hid ((M.take k).length+1<=maxLen/\((M.take k).length+1)*40<=140737488355328):=Aa (by rw[a6];exact⟨by unfold maxLen; omega,by omega⟩);clear a6;have W:Hid (Calls prog 90 #[zC F,.agg (zF l[k] a' c')] (wr.alloc (ze l[k] a' c')).drew λe q=>E6 (wr.alloc (ze l[k] a' c')).drew F C y m e q):=(by have aX:E8 (wr.alloc (ze l[k] a' c')).drew B r X ls L:=((HE.o.ex d.o.1 aF aG E.o).later ((Ag _ _).alloc (Al _) _)).later ((Ag _ _).drew);have aY:Ac (wr.alloc (ze l[k] a' c')).drew F #[zA m,C] 146:=(d.o.2.2.2.1.alloc _).drewN 1;have aZ:Sl (wr.alloc (ze l[k] a' c')).drew X a' l[k].args:=(aW.later ((Ag _ _).alloc (Al _) _)).later ((Ag _ _).drew);have ba:=IH.o l[k] (AM J) m;rw[<-hy];clear I d f;subst aQ;exact Se F B r ls L l[k] m a' c' _ X aN E.o aF aG aZ aY aX (λw' h1 h2 h3=>ba _ w' X ⟨a',c',rfl,h1⟩ E.o aN h2 h3));have f0:∀o,(wr.alloc o).cell? (zD F 0)=some (zA m):=λo=>(d.o.2.2.2.1.alloc o).cell 0;have o1:∀o,(wr.alloc o).cell? (zD O 1)=some u:=λo=>(d.o.2.2.1.alloc o).cell 1;have bj:¬(m:Int)<0:=(by omega);by_cases hle:Ab [y]<=m
     ·have a7:Hid (Calls prog 90 #[zC F,.agg (zF l[k] a' c')] (wr.alloc (ze l[k] a' c')).drew λe q=>∃a1 c1,e=.returned (.agg (zF y a1 c1))/\Ac q F #[zA ((m:Int)-Ab [y]),C] 146/\Ex F wr q/\Sl q (λb=>wr.heap.size<=b) a1 y.args):=W.o.mono λe q hp=>by
       obtain⟨s1,a1,l1,c1,m1,h1,h2,h3,h4,_⟩:=hp;obtain⟨rfl,rfl,rfl,h5⟩:=h4 hle;exact⟨a1,c1,h1,h2,(((Ex.refl F wr).alloc _).drew).trans h3,h5.mono λb hb _=>by simp at hb; omega⟩
      clear W;go_wp2_with fail;go_region_law (first
       | (go_simp; go_at_call 90; refine a7.o.mono ?_; rintro e w1 ⟨a1,c1,rfl,N,ab,aO⟩; have a8:∀o,(w1.alloc o).cell? (zD O 1)=some u:=λo=>((Ac.ex d.o.2.2.1 ab D.o).alloc o).cell 1; have aA:w1.cell? (zD O 1)=some u:=(Ac.ex d.o.2.2.1 ab D.o).cell 1)
       | (refine step_append_lies _ rfl _ _ 29 rfl (O+1) 31 i0 _ 2 40 underlying29 aI aJ aK aL rfl (by decide) u (M.take k).length xs rfl (by exact(A1.ex (B:=F) f.o ab ar.o (λh=>h)).own.alloc _) (zD w1.heap.size 0) 1 1 [.string y.name,.slice a1 y.args.length c1] rfl rfl (cell_two_new _ _ _ _) (λx hx=>by simp at hx; rcases hx with rfl|rfl<;>rfl) (by decide) V.o.1 V.o.2 (by have:=ab.size; have:=d.o.2.2.2.2; simp; omega) _ rfl ?_; intro g cap w3 Y aa Z ai; have A:=Aa (((Ac.ex d.o.2.2.1 ab D.o).alloc _).grown aa (f.o.ne (F2 _))); have aB:w3.cell? (zD O 1)=some u:=A.o.cell 1; have aC:=A.o.frozen 1))
      all_goals
       have HK:=Aa (JR (v:=.slice (some (zD g 0)) ((M.take k).length+1) cap) aM hO d.o (λj hj=>(f.o.own.lt j hj).1) ab N aa);have bb:=Aa (OI (by omega) d.o.2.2.2.2 f.o ab ⟨a1,c1,rfl,aO⟩ Y aa Z);clear Y aa Z a8 aA aB aC A N ab aO ai;go_wp2_with fail;go_roundw
       case rel=>
        have aD:(M.take k).length=k:=by simp; omega
        have h1:=HK.o;have h2:=bb.o;have aP:=I.o;simp only[aD] at h1 h2;have aE:min k l.length=k:=(by omega);simp only[aE];refine⟨k+1,.slice (some (zD g 0)) (k+1) cap,by omega,by go_num,Ae ⟨m-Ab [y],xs++[.string y.name,.slice a1 y.args.length c1],by rw[DP M k U,az.o]; omega,?_,?_⟩⟩
        ·rw[show((m-Ab [y]:Nat):Int)=(m:Int)-Ab [y] by omega];exact h1
        ·rw[Ci U,az.o];exact h2
       case measure=>simp[intOf]; omega
     ·have a7:Hid (Calls prog 90 #[zC F,.agg (zF l[k] a' c')] (wr.alloc (ze l[k] a' c')).drew λe q=>∃s1 a1 l1 c1,e=.returned (.agg #[.string s1,.slice a1 l1 c1])/\Ac q F #[zA (-1),C] 146/\Ex F wr q):=W.o.mono λe q hp=>by
       obtain⟨s1,a1,l1,c1,m1,h1,h2,h3,_,h4⟩:=hp;obtain rfl:=h4 (by omega);exact⟨s1,a1,l1,c1,h1,h2,(((Ex.refl F wr).alloc _).drew).trans h3⟩
      clear W;go_wp2_with fail;go_region_law (first
       | (go_simp; go_at_call 90; refine a7.o.mono ?_; rintro e w1 ⟨s1,a1,l1,c1,rfl,N,ab⟩; have a8:∀o,(w1.alloc o).cell? (zD O 1)=some u:=λo=>((Ac.ex d.o.2.2.1 ab D.o).alloc o).cell 1; have aA:w1.cell? (zD O 1)=some u:=(Ac.ex d.o.2.2.1 ab D.o).cell 1)
       | (refine step_append_lies _ rfl _ _ 29 rfl (O+1) 31 i0 _ 2 40 underlying29 aI aJ aK aL rfl (by decide) u (M.take k).length xs rfl (by exact(A1.ex (B:=F) f.o ab ar.o (λh=>h)).own.alloc _) (zD w1.heap.size 0) 1 1 [.string s1,.slice a1 l1 c1] rfl rfl (cell_two_new _ _ _ _) (λx hx=>by simp at hx; rcases hx with rfl|rfl<;>rfl) (by decide) V.o.1 V.o.2 (by have:=ab.size; have:=d.o.2.2.2.2; simp; omega) _ rfl ?_; intro g cap w3 Y aa Z ai; have A:=Aa (((Ac.ex d.o.2.2.1 ab D.o).alloc _).grown aa (f.o.ne (F2 _))); have aB:w3.cell? (zD O 1)=some u:=A.o.cell 1; have aC:=A.o.frozen 1))
      all_goals
       have HK:=Aa (JR (v:=.slice (some (zD g 0)) ((M.take k).length+1) cap) aM hO d.o (λj hj=>(f.o.own.lt j hj).1) ab N aa);clear Y aa Z a8 aA aB aC A N ab ai;go_wp2_with fail;go_roundw
       case rel=>
        have aD:(M.take k).length=k:=by simp; omega
        have h0:=HK.o;have aP:=I.o;simp only[aD] at h0;have aE:min k l.length=k:=(by omega);simp only[aE];refine⟨k+1,.slice (some (zD g 0)) (k+1) cap,by omega,by go_num,Ad ⟨?_,h0,_,_,_,rfl⟩⟩;have h1:=DP M k U;rw[az.o]at h1;have h2:=Eu M (k+1);omega
       case measure=>simp[intOf]; omega
    ·have bc:M.take k=M:=BH (by omega);rw[bc]at f I;obtain⟨a9,z,bd,aw⟩:=f.o.sl;subst bd;have S9:=Aa aw;clear aw;have P:=d.o.2.1.c0;have R:=d.o.2.1.c1;have rf:=d.o.2.1.frozen;have o0:=d.o.2.2.1.c0;have o1:=d.o.2.2.1.c1;go_wp2_with fail;refine Aq (v:=.agg #[.string s,.slice a9 M.length z]) (by simp[results,results114,go_sem,Az,Aw,P,R,aR]) rfl ?_;have aP:=I.o;refine⟨s,a9,M.length,z,m,rfl,(d.o.2.2.2.1.setOther _ _ (by omega)).setOther _ _ (by omega),(d.o.1.setNew (by omega) _ _).setNew (by omega) _ _,λh=>⟨by rw[hz]; omega,rfl,rfl,(S9.o.kept λb hb=>?_).mono λb hb _=>?_⟩,λh=>by omega⟩
     ·have bf:O+1<=b:=hb.elim False.elim id;rw[An _ _ _ _ (by simp; omega),An _ _ _ _ (by simp; omega)]
     ·have bf:O+1<=b:=hb.elim False.elim id;omega
   ·have d:=Aa G;clear G;have f0:∀o,(wr.alloc o).cell? (zD F 0)=some (zA (-1)):=λo=>(d.o.2.2.2.1.alloc o).cell 0;by_cases J:k<l.length
    ·obtain⟨b,o,a',c',rfl,d0,d1,hx⟩:=(HS.o.ex d.o.1 E.o).get (Ag _ _) (λ_ _ h=>h) k J;clear hx;have o0:∀o,(wr.alloc o).cell? (zD O 0)=some (.string s):=λo=>(d.o.2.2.1.alloc o).cell 0;have o1:∀o,(wr.alloc o).cell? (zD O 1)=some (.slice a9 H z):=λo=>(d.o.2.2.1.alloc o).cell 1;have P:=d.o.2.1.c0;have R:=d.o.2.1.c1;have rf:=d.o.2.1.frozen;have bg:w.heap.size+1<wr.heap.size:=d.o.2.1.lt;go_wp2_with fail;refine Aq (v:=.agg #[.string s,.slice a9 H z]) (by simp[results,results114,go_sem,Az,Aw,P,R,bg,Cz]) rfl ?_;exact⟨s,a9,H,z,-1,rfl,((d.o.2.2.2.1.setOther _ _ (by omega)).setOther _ _ (by omega)).alloc _,((d.o.1.setNew (by omega) _ _).setNew (by omega) _ _).alloc _,λh=>by omega,λ_=>rfl⟩
    ·have P:=d.o.2.1.c0;have R:=d.o.2.1.c1;have rf:=d.o.2.1.frozen;have o0:=d.o.2.2.1.c0;have o1:=d.o.2.2.1.c1;go_wp2_with fail;refine Aq (v:=.agg #[.string s,.slice a9 H z]) (by simp[results,results114,go_sem,Az,Aw,P,R]) rfl ?_;exact⟨s,a9,H,z,-1,rfl,(d.o.2.2.2.1.setOther _ _ (by omega)).setOther _ _ (by omega),(d.o.1.setNew (by omega) _ _).setNew (by omega) _ _,λh=>by omega,λ_=>rfl⟩
