import Derived.Test.YtlkeafenklamjaaGreatDoorW59
namespace Go.Proofs.YtlkeafenklamjaaGreatDoor
set_option linter.all false
set_option maxRecDepth 20000
set_option maxHeartbeats 8000000
open Go.RowKit
theorem Mf (ls:List Bd):∀l:List Tm,fL ls l=l.map (fT ls)
 | []=>by simp[fL]
 | ⟨s,a⟩::r=>by rw[fL,Mf ls r]; rfl
theorem VE (F B r:Nat) (ls:List Bd) (L:List (ByteArray×Value)) (aG:B≠F) (aH:r≠F) (t:Tm):∀(n:Nat) (v:Value) (w:World) (X:Nat->Prop),TV w X v t->(∀b,X b->b≠F)->n<=1000000->Ac w F #[.int .i64 (n:Int),.func (.func 86) #[] #[.pointer (some ⟨B,0,none⟩)]] 120->EE w B r X ls L->
  Calls Tryz.prog 102 #[.pointer (some ⟨F,0,none⟩),v,.func (.func 87) #[.pointer (some ⟨F,0,none⟩)] #[]] w λe w'=>FU w F (.func (.func 86) #[] #[.pointer (some ⟨B,0,none⟩)]) ⟨t.name,fL ls t.args⟩ n e w':=by
 induction t using Tm.ind with
 |h s l ih=>
  intro n v w X hv aI hn hF hE
  obtain⟨a,c,rfl,hs⟩:=hv
  dsimp only
  generalize aN:Value.func (.func 86) #[] #[.pointer (some ⟨B,0,none⟩)]=sv at *
  obtain⟨M,hM⟩:∃M,fL ls l=M:=⟨_,rfl⟩
  rw[hM]
  have aO:M.length=l.length:=by rw[<-hM,Mf]; simp
  have aP:Hid (∀k (h:k<M.length) (h':k<l.length),M[k]=fT ls l[k]):=λk h h'=>by subst hM; simp[Mf]
  have HE:=Aa hE
  clear hE hM
  have IH:=Aa ih
  clear ih
  obtain⟨i0,aJ,hz0,hz1,hz2⟩:=CT Tryz.infoTerm
  have f0:∀o,(w.alloc o).cell? ⟨F,0,none⟩=some (.int .i64 (n:Int)):=λo=>(hF.alloc o).cell 0
  have ff:∀o,(w.alloc o).frozen? ⟨F,0,none⟩=false:=λo=>(hF.alloc o).frozen 0
  have aK:F<w.heap.size:=hF.lt
  go_enter Tryz.func102,Tryz.ntmps102
  go_wp2_with fail
  have E3:Hid (Iq w F (w.heap.size+1+1) s (.slice none 0 0) #[.int .i64 ((n:Int)-1),sv] ((((w.setCell ⟨F,0,none⟩ (.int .i64 ((n:Int)-1))).alloc (.cells #[.string s,.slice a l.length c] 29)).alloc (.cells #[.string ⟨#[]⟩,.slice none 0 0] 29)).alloc (.cells #[.string s,.slice none 0 0] 29))):=by
   refine⟨((((Ex.refl F w).set 0 _).alloc _).alloc _).alloc _,?_,?_,(((hF.set 0 _).alloc _).alloc _).alloc _,by simp[World.setCell]⟩
   ·have h:=(Ac.new ((w.setCell ⟨F,0,none⟩ (.int .i64 ((n:Int)-1))).alloc (.cells #[.string s,.slice a l.length c] 29)) #[.string ⟨#[]⟩,.slice none 0 0] 29).alloc (.cells #[.string s,.slice none 0 0] 29)
    simpa [World.setCell] using h
   ·have h:=Ac.new (((w.setCell ⟨F,0,none⟩ (.int .i64 ((n:Int)-1))).alloc (.cells #[.string s,.slice a l.length c] 29)).alloc (.cells #[.string ⟨#[]⟩,.slice none 0 0] 29)) #[.string s,.slice none 0 0] 29
    simpa [World.setCell] using h
  generalize ((((w.setCell ⟨F,0,none⟩ (.int .i64 ((n:Int)-1))).alloc (.cells #[.string s,.slice a l.length c] 29)).alloc (.cells #[.string ⟨#[]⟩,.slice none 0 0] 29)).alloc (.cells #[.string s,.slice none 0 0] 29))=w3 at *
  generalize aQ:w.heap.size+1+1=O at *
  have hO:w.heap.size+2<=O:=by omega
  clear aQ
  clear f0 ff
  have HS:=Aa hs
  have hl:=hs.1
  have aq:=Aa aI
  have hz:Ab [(⟨s,M⟩:Tm)]=1+Ab M:=by simp[Ab]
  clear hs aI
  go_loopw [23] (λi wr=>N8 w F O s sv M n i wr) (λi wr=>l.length-(intOf i).toNat)
  case atStart=>
   refine⟨0,.slice none 0 0,AE _,rfl,?_⟩
   by_cases aR:n=0
   ·subst aR
    exact Ae ⟨by omega,E3.out,none,0,0,rfl⟩
   ·refine Ad ⟨n-1,[],by simp[Ab]; omega,?_,AN.start _ _ _ _⟩
    rw[show((n-1:Nat):Int)=(n:Int)-1 by omega]
    exact E3.out
  case round=>
   obtain⟨k,u,hk,rfl,ar⟩:=hrel
   rcases ar with ⟨m,xs,hm,ag,hrow⟩|⟨aS,ag,a9,l9,c9,rfl⟩
   ·have XS:=Aa ag
    have XW:=Aa hrow
    have au:=Aa hm
    clear ag hrow
    by_cases hlt:k<l.length
    ·obtain⟨b,o,a',c',rfl,d0,d1,hx⟩:=(HS.out.ex XS.out.1 aq.out).get (Af _ _) (λ_ _ h=>h) k hlt
     obtain⟨av,cv,ev,aT⟩:=hx
     simp at ev
     obtain⟨rfl,rfl⟩:=ev
     have ah:k<M.length:=by omega
     obtain⟨y,hy⟩:∃y,fT ls l[k]=y:=⟨_,rfl⟩
     have a7:Hid (M[k]=y):=by unfold Hid; rw[aP.out k ah hlt,hy]
     have aL:m<=1000000:=by omega
     have ao:Hid (O≠F):=by unfold Hid; omega
     have aw:Hid (F<O+1):=by unfold Hid; omega
     have hlen:=Ez M
     have hsk:(M.take k).length=k:=by simp; omega
     have bc:k<=1000000:=by have h1:=Ez (M.take k); rw[hsk] at h1; omega
     have az:Hid ((M.take k).length+1<=maxLen/\((M.take k).length+1)*40<=140737488355328):=by unfold Hid; rw[hsk]; exact⟨by unfold maxLen; omega,by omega⟩
     clear hsk
     have a6:Hid (Calls Tryz.prog 87 #[.pointer (some ⟨F,0,none⟩),.agg #[.string l[k].name,.slice a' l[k].args.length c']] (wr.alloc (.cells #[.string l[k].name,.slice a' l[k].args.length c'] 29)).drew λe w''=>FU (wr.alloc (.cells #[.string l[k].name,.slice a' l[k].args.length c'] 29)).drew F sv y m e w''):=by
      have aU:EE (wr.alloc (.cells #[.string l[k].name,.slice a' l[k].args.length c'] 29)).drew B r X ls L:=((HE.out.ex XS.out.1 aG aH aq.out).later ((Af _ _).alloc (Aj _) _)).later ((Af _ _).drew)
      have aV:Ac (wr.alloc (.cells #[.string l[k].name,.slice a' l[k].args.length c'] 29)).drew F #[.int .i64 (m:Int),sv] 120:=(XS.out.2.2.2.1.alloc _).drewN 1
      have aW:Sl (wr.alloc (.cells #[.string l[k].name,.slice a' l[k].args.length c'] 29)).drew X a' l[k].args:=(aT.later ((Af _ _).alloc (Aj _) _)).later ((Af _ _).drew)
      have aX:=IH.out l[k] (AV hlt) m
      rw[<-hy]
      clear au XS XW
      subst aN
      exact O6 F B r ls L l[k] m a' c' _ X aL aq.out aG aH aW aV aU (λw' h1 h2 h3=>aX _ w' X ⟨a',c',rfl,h1⟩ aq.out aL h2 h3)
     have f0:∀o,(wr.alloc o).cell? ⟨F,0,none⟩=some (.int .i64 (m:Int)):=λo=>(XS.out.2.2.2.1.alloc o).cell 0
     have o1:∀o,(wr.alloc o).cell? ⟨O,1,none⟩=some u:=λo=>(XS.out.2.2.1.alloc o).cell 1
     have bf:¬(m:Int)<0:=by omega
     by_cases hle:Ab [y]<=m
     ·have a8:Hid (Calls Tryz.prog 87 #[.pointer (some ⟨F,0,none⟩),.agg #[.string l[k].name,.slice a' l[k].args.length c']] (wr.alloc (.cells #[.string l[k].name,.slice a' l[k].args.length c'] 29)).drew λe w''=>∃a1 c1,e=.returned (.agg #[.string y.name,.slice a1 y.args.length c1])/\Ac w'' F #[.int .i64 ((m:Int)-Ab [y]),sv] 120/\Ex F wr w''/\Sl w'' (λb=>wr.heap.size<=b) a1 y.args):=a6.out.mono λe w'' hp=>by
       obtain⟨s1,a1,l1,c1,m1,h1,h2,h3,h4,_⟩:=hp
       obtain⟨rfl,rfl,rfl,h5⟩:=h4 hle
       exact⟨a1,c1,h1,h2,(((Ex.refl F wr).alloc _).drew).trans h3,h5.mono λb hb _=>by simp at hb; omega⟩
      clear a6
      go_wp2_with fail
      go_region_law (first
       | (go_simp; go_at_call 87; refine a8.out.mono ?_; rintro e w1 ⟨a1,c1,rfl,ax,ae,hs1⟩; have hc3:∀o,(w1.alloc o).cell? ⟨O,1,none⟩=some u:=λo=>((Ac.ex XS.out.2.2.1 ae ao.out).alloc o).cell 1; have aA:w1.cell? ⟨O,1,none⟩=some u:=(Ac.ex XS.out.2.2.1 ae ao.out).cell 1)
       | (refine step_append_lies _ rfl _ _ 27 rfl (O+1) 29 i0 _ 2 40 Tryz.underlying27 aJ hz0 hz1 hz2 rfl (by decide) u (M.take k).length xs rfl (by exact(AN.ex (B:=F) XW.out ae aw.out (λh=>h)).own.alloc _) ⟨w1.heap.size,0,none⟩ 1 1 [.string y.name,.slice a1 y.args.length c1] rfl rfl (cell_two_new _ _ _ _) (λx hx=>by simp at hx; rcases hx with rfl|rfl<;>rfl) (by decide) az.out.1 az.out.2 (by have:=ae.size; have:=XS.out.2.2.2.2; simp; omega) _ rfl ?_; intro g cap w3 af aa ai aj; have ak:=Aa (((Ac.ex XS.out.2.2.1 ae ao.out).alloc _).grown aa (XW.out.ne (EM _))); have aB:w3.cell? ⟨O,1,none⟩=some u:=ak.out.cell 1; have aC:=ak.out.frozen 1))
      all_goals
       have HK:=Aa (J7 (v:=.slice (some ⟨g,0,none⟩) ((M.take k).length+1) cap) aK hO XS.out (λj hj=>(XW.out.own.lt j hj).1) ae ax aa)
       have aY:=Aa (N7 (by omega) XS.out.2.2.2.2 XW.out ae ⟨a1,c1,rfl,hs1⟩ af aa ai)
       clear af aa ai hc3 aA aB aC ak ax ae hs1 aj
       go_wp2_with fail
       go_roundw
       case rel=>
        have aD:(M.take k).length=k:=by simp; omega
        have h1:=HK.out
        have h2:=aY.out
        have aM:=au.out
        simp only[aD] at h1 h2
        have aF:min k l.length=k:=by omega
        simp only[aF]
        refine⟨k+1,.slice (some ⟨g,0,none⟩) (k+1) cap,by omega,by go_num,Ad ⟨m-Ab [y],xs++[.string y.name,.slice a1 y.args.length c1],by rw[C4 M k ah,a7.out]; omega,?_,?_⟩⟩
        ·rw[show((m-Ab [y]:Nat):Int)=(m:Int)-Ab [y] by omega]
         exact h1
        ·rw[Bm ah,a7.out]
         exact h2
       case measure=>simp[intOf]; omega
     ·have a8:Hid (Calls Tryz.prog 87 #[.pointer (some ⟨F,0,none⟩),.agg #[.string l[k].name,.slice a' l[k].args.length c']] (wr.alloc (.cells #[.string l[k].name,.slice a' l[k].args.length c'] 29)).drew λe w''=>∃s1 a1 l1 c1,e=.returned (.agg #[.string s1,.slice a1 l1 c1])/\Ac w'' F #[.int .i64 (-1),sv] 120/\Ex F wr w''):=a6.out.mono λe w'' hp=>by
       obtain⟨s1,a1,l1,c1,m1,h1,h2,h3,_,h4⟩:=hp
       obtain rfl:=h4 (by omega)
       exact⟨s1,a1,l1,c1,h1,h2,(((Ex.refl F wr).alloc _).drew).trans h3⟩
      clear a6
      go_wp2_with fail
      go_region_law (first
       | (go_simp; go_at_call 87; refine a8.out.mono ?_; rintro e w1 ⟨s1,a1,l1,c1,rfl,ax,ae⟩; have hc3:∀o,(w1.alloc o).cell? ⟨O,1,none⟩=some u:=λo=>((Ac.ex XS.out.2.2.1 ae ao.out).alloc o).cell 1; have aA:w1.cell? ⟨O,1,none⟩=some u:=(Ac.ex XS.out.2.2.1 ae ao.out).cell 1)
       | (refine step_append_lies _ rfl _ _ 27 rfl (O+1) 29 i0 _ 2 40 Tryz.underlying27 aJ hz0 hz1 hz2 rfl (by decide) u (M.take k).length xs rfl (by exact(AN.ex (B:=F) XW.out ae aw.out (λh=>h)).own.alloc _) ⟨w1.heap.size,0,none⟩ 1 1 [.string s1,.slice a1 l1 c1] rfl rfl (cell_two_new _ _ _ _) (λx hx=>by simp at hx; rcases hx with rfl|rfl<;>rfl) (by decide) az.out.1 az.out.2 (by have:=ae.size; have:=XS.out.2.2.2.2; simp; omega) _ rfl ?_; intro g cap w3 af aa ai aj; have ak:=Aa (((Ac.ex XS.out.2.2.1 ae ao.out).alloc _).grown aa (XW.out.ne (EM _))); have aB:w3.cell? ⟨O,1,none⟩=some u:=ak.out.cell 1; have aC:=ak.out.frozen 1))
      all_goals
       have HK:=Aa (J7 (v:=.slice (some ⟨g,0,none⟩) ((M.take k).length+1) cap) aK hO XS.out (λj hj=>(XW.out.own.lt j hj).1) ae ax aa)
       clear af aa ai hc3 aA aB aC ak ax ae aj
       go_wp2_with fail
       go_roundw
       case rel=>
        have aD:(M.take k).length=k:=by simp; omega
        have h0:=HK.out
        have aM:=au.out
        simp only[aD] at h0
        have aF:min k l.length=k:=by omega
        simp only[aF]
        refine⟨k+1,.slice (some ⟨g,0,none⟩) (k+1) cap,by omega,by go_num,Ae ⟨?_,h0,_,_,_,rfl⟩⟩
        have h1:=C4 M k ah
        rw[a7.out]at h1
        have h2:=C5 M (k+1)
        omega
       case measure=>simp[intOf]; omega
    ·have aZ:M.take k=M:=AW (by omega)
     rw[aZ]at XW au
     obtain⟨a9,c9,ba,ay⟩:=XW.out.sl
     subst ba
     have S9:=Aa ay
     clear ay
     have r0:=XS.out.2.1.c0
     have r1:=XS.out.2.1.c1
     have rf:=XS.out.2.1.frozen
     have o0:=XS.out.2.2.1.c0
     have o1:=XS.out.2.2.1.c1
     go_wp2_with fail
     refine Ap (v:=.agg #[.string s,.slice a9 M.length c9]) (by simp[results,Tryz.results102,go_sem,AU,AG,r0,r1,aO]) rfl ?_
     have aM:=au.out
     refine⟨s,a9,M.length,c9,m,rfl,(XS.out.2.2.2.1.setOther _ _ (by omega)).setOther _ _ (by omega),(XS.out.1.setNew (by omega) _ _).setNew (by omega) _ _,λh=>⟨by rw[hz]; omega,rfl,rfl,(S9.out.kept λb hb=>?_).mono λb hb _=>?_⟩,λh=>by omega⟩
     ·have hb':O+1<=b:=hb.elim False.elim id
      rw[Aq _ _ _ _ (by simp; omega),Aq _ _ _ _ (by simp; omega)]
     ·have hb':O+1<=b:=hb.elim False.elim id
      omega
   ·have XS:=Aa ag
    clear ag
    have f0:∀o,(wr.alloc o).cell? ⟨F,0,none⟩=some (.int .i64 (-1)):=λo=>(XS.out.2.2.2.1.alloc o).cell 0
    by_cases hlt:k<l.length
    ·obtain⟨b,o,a',c',rfl,d0,d1,hx⟩:=(HS.out.ex XS.out.1 aq.out).get (Af _ _) (λ_ _ h=>h) k hlt
     clear hx
     have o0:∀o,(wr.alloc o).cell? ⟨O,0,none⟩=some (.string s):=λo=>(XS.out.2.2.1.alloc o).cell 0
     have o1:∀o,(wr.alloc o).cell? ⟨O,1,none⟩=some (.slice a9 l9 c9):=λo=>(XS.out.2.2.1.alloc o).cell 1
     have r0:=XS.out.2.1.c0
     have r1:=XS.out.2.1.c1
     have rf:=XS.out.2.1.frozen
     have bb:w.heap.size+1<wr.heap.size:=XS.out.2.1.lt
     go_wp2_with fail
     refine Ap (v:=.agg #[.string s,.slice a9 l9 c9]) (by simp[results,Tryz.results102,go_sem,AU,AG,r0,r1,bb,Gc]) rfl ?_
     exact⟨s,a9,l9,c9,-1,rfl,((XS.out.2.2.2.1.setOther _ _ (by omega)).setOther _ _ (by omega)).alloc _,((XS.out.1.setNew (by omega) _ _).setNew (by omega) _ _).alloc _,λh=>by omega,λ_=>rfl⟩
    ·have r0:=XS.out.2.1.c0
     have r1:=XS.out.2.1.c1
     have rf:=XS.out.2.1.frozen
     have o0:=XS.out.2.2.1.c0
     have o1:=XS.out.2.2.1.c1
     go_wp2_with fail
     refine Ap (v:=.agg #[.string s,.slice a9 l9 c9]) (by simp[results,Tryz.results102,go_sem,AU,AG,r0,r1]) rfl ?_
     exact⟨s,a9,l9,c9,-1,rfl,(XS.out.2.2.2.1.setOther _ _ (by omega)).setOther _ _ (by omega),(XS.out.1.setNew (by omega) _ _).setNew (by omega) _ _,λh=>by omega,λ_=>rfl⟩
end Go.Proofs.YtlkeafenklamjaaGreatDoor
