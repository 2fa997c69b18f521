import Derived.Test.YtlkeafenklamjaaGreatDoorZCCriticalSaysOwn
import Derived.Deep.RegionHeld3
namespace Go.Proofs.YtlkeafenklamjaaGreatDoor
set_option linter.all false
set_option maxRecDepth 20000
set_option maxHeartbeats 8000000
open Go.RowKit
def PC (w:World) (X:Nat->Prop) (t:Tm) (e:Ending) (w':World):Prop:=
 ∃a c,e=.returned (.agg #[.string t.name,.slice a t.args.length c])/\Sl w' (λb=>(X b/\b<w.heap.size)∨w.heap.size<=b) a t.args/\Below w.heap.size w w'
def Cw (w:World) (b o:Nat) (s:ByteArray) (a:Option Addr) (n c:Nat) (s1:ByteArray) (v1:Value) (w':World):Prop:=
 Ac w' w.heap.size #[.string s,.slice a n c] 29/\w'.cell? ⟨b,o,none⟩=some (.string s1)/\w'.cell? ⟨b,o+1,none⟩=some v1
theorem GW {w w':World} {b i:Nat} {v:Value} (hb:w'.heap[b]? = w.heap[b]?) (h:w.cell? ⟨b,i,none⟩=some v):w'.cell? ⟨b,i,none⟩=some v:=by simpa [World.cell?,hb] using h
theorem Cw.below {w wr w1:World} {b o n c:Nat} {s s1:ByteArray} {a:Option Addr} {v1:Value} (h:Cw w b o s a n c s1 v1 wr) (hb:Below wr.heap.size wr w1) (hlt:w.heap.size<wr.heap.size/\b<wr.heap.size):Cw w b o s a n c s1 v1 w1:=
 ⟨h.1.below hb hlt.1,GW (hb.block b hlt.2) h.2.1,GW (hb.block b hlt.2) h.2.2⟩
theorem Cw.alloc {w wr:World} {b o n c:Nat} {s s1:ByteArray} {a:Option Addr} {v1:Value} (h:Cw w b o s a n c s1 v1 wr) (x:Obj):Cw w b o s a n c s1 v1 (wr.alloc x):=
 ⟨h.1.alloc x,GW (AP _ _ _ (D9 h.2.1)) h.2.1,GW (AP _ _ _ (D9 h.2.1)) h.2.2⟩
theorem Cw.grown {w wr w3:World} {b o n c:Nat} {s s1:ByteArray} {a:Option Addr} {v1:Value} {row:Option Nat} (h:Cw w b o s a n c s1 v1 wr) (hg:wr.grownBy w3 row) (hne:∀j,j<=w.heap.size->some j≠row) (hb:b<w.heap.size) (_:True):Cw w b o s a n c s1 v1 w3:=
 ⟨h.1.grown hg (hne _ (Aj _)),GW (hg.block b (D9 h.2.1) (hne b (by omega))) h.2.1,GW (hg.block b (D9 h.2.1) (hne b (by omega))) h.2.2⟩
theorem Cw.set {w wr:World} {b o n c:Nat} {s s1:ByteArray} {a:Option Addr} {v1:Value} {O i:Nat} (h:Cw w b o s a n c s1 v1 wr) (v:Value) (_:True) (hO:w.heap.size≠O) (hb:b≠O):Cw w b o s a n c s1 v1 (wr.setCell ⟨O,i,none⟩ v):=
 ⟨h.1.setOther _ _ hO,GW (Aq _ _ _ _ (by simpa using hb)) h.2.1,GW (Aq _ _ _ _ (by simpa using hb)) h.2.2⟩
theorem Gr {w:World} {X:Nat->Prop} {b o:Nat} {l:List Tm} (h:Sl w X (some ⟨b,o,none⟩) l) (hl:0<l.length):b<w.heap.size:=by
 obtain⟨_,h⟩:=h
 rcases h with rfl|⟨b',o',e,h⟩
 ·simp at hl
 ·simp at e
  obtain⟨rfl,rfl⟩:=e
  exact D9 (FQ l b o h 0 hl).2.1
def PD (w:World) (Y:Nat->Prop) (O:Nat) (s:ByteArray) (a:Option Addr) (n c:Nat) (u:Value) (L:List Tm) (wr:World):Prop:=
 ∃xs,AN wr (O+1) 29 Y u L xs/\Below w.heap.size w wr/\Ac wr w.heap.size #[.string s,.slice a n c] 29/\Ac wr (w.heap.size+1) #[.string ⟨#[]⟩,.slice none 0 0] 29/\Ac wr O #[.string s,u] 29/\O<wr.heap.size
def PE (w:World) (Y:Nat->Prop) (O:Nat) (s:ByteArray) (a:Option Addr) (c:Nat) (ls:List Bd) (l:List Tm) (i:Value) (wr:World):Prop:=
 ∃(k:Nat) (u:Value),k<=l.length/\i=.int .i64 (k:Int)/\PD w Y O s a l.length c u (Am ls (l.take k)) wr
theorem Ix {w wr w1 w3:World} {Y:Nat->Prop} {O n c:Nat} {u:Value} {L:List Tm} {xs:List Value} {o2:Obj} {s s':ByteArray} {a a1:Option Addr} {n1 c1 g cap:Nat} {t:Tm} (hO:w.heap.size+2<=O) (hY:∀b,Y b->b<w.heap.size)
  (hrow:AN wr (O+1) 29 Y u L xs) (hx:Below w.heap.size w wr) (hT:Ac wr w.heap.size #[.string s,.slice a n c] 29) (hR:Ac wr (w.heap.size+1) #[.string ⟨#[]⟩,.slice none 0 0] 29) (af:Ac wr O #[.string s,u] 29)
  (aa:Below wr.heap.size wr w1) (ht:TV w1 (λb=>Y b∨wr.heap.size<=b) (.agg #[.string s',.slice a1 n1 c1]) t)
  (hown:w3.ownsRow (O+1) 29 2 (.slice (some ⟨g,0,none⟩) (L.length+1) cap) (L.length+1) (xs++[.string s',.slice a1 n1 c1])) (hg:(w1.alloc o2).grownBy w3 u.ownBlock) (hat:u.ownBlock=some g∨g=(w1.alloc o2).heap.size):
  PD w Y O s a n c (.slice (some ⟨g,0,none⟩) (L.length+1) cap) (L++[t]) (w3.setCell ⟨O,1,none⟩ (.slice (some ⟨g,0,none⟩) (L.length+1) cap)):=by
 have ae:=hrow.own.lt
 have ag:=af.lt
 have hp:=hrow.push (w1:=w1) (w2:=w1.alloc o2) (w3:=w3) (by omega) (λb h=>by have:=hY b h; omega) aa ht o2 rfl hown hg hat
 have hne:∀b,b<O+1->some b≠u.ownBlock:=λb hb e=>by have:=(ae b e.symm).1; omega
 have hs1:=aa.size
 have ah:=hx.size
 have hx3:Below w.heap.size w w3:=((hx.trans (aa.mono (by omega))).alloc (by omega) o2).grown hg (by simp; omega) (λk hk=>by have:=(ae k hk).1; omega)
 have hs3:=hg.size
 simp at hs3
 refine⟨_,hp.setCell (by omega) (λh=>by have:=hY _ h; omega) _,hx3.setCell (p:=⟨O,1,none⟩) (by simp; omega) _,?_,?_,?_,by simp[World.setCell]; omega⟩
 ·exact(((hT.below aa (by omega)).alloc o2).grown hg (hne _ (by omega))).setOther _ _ (by omega)
 ·exact(((hR.below aa (by omega)).alloc o2).grown hg (hne _ (by omega))).setOther _ _ (by omega)
 ·exact(((af.below aa (by omega)).alloc o2).grown hg (hne _ (by omega))).set 1 _
theorem PF (ls:List Bd) (t:Tm):∀(u v:Value) (w:World) (X Z:Nat->Prop),BV w Z u ls->TV w X v t->Ab [t]<=1000000->
  Calls Tryz.prog 43 #[u,v] w λe w'=>PC w Z (Ag ls t) e w':=by
 induction t using Tm.ind with
 |h s l ih=>
  intro u v w X Z hu hv hsm
  obtain⟨a,c,rfl,hs⟩:=hv
  have IH:=Aa ih
  have HU:=Aa hu
  have HS:=Aa hs
  have hl:=hs.1
  have hz:Ab [(⟨s,l⟩:Tm)]=1+Ab l:=by simp[Ab]
  rw[hz]at hsm
  have hlen:=Ez l
  clear ih hu hs hz
  obtain⟨i0,a8,hz0,hz1,hz2⟩:=CT Tryz.infoTerm
  go_enter Tryz.func43,Tryz.ntmps43
  go_wp2_with fail
  refine(Mb ls s u _ (λb=>Z b/\b<w.heap.size) (by exact((HU.out.mono λb h1 h2=>⟨h1,h2⟩).alloc _).alloc _)).mono ?_
  rintro e w1 ⟨hb1,aA⟩
  have T1:=Aa (((Ac.new w #[.string s,.slice a l.length c] 29).alloc (.cells #[.string ⟨#[]⟩,.slice none 0 0] 29)).below hb1 (by simp; omega))
  have R1:Hid (Ac w1 (w.heap.size+1) #[.string ⟨#[]⟩,.slice none 0 0] 29):=by
   have h:=(Ac.new (w.alloc (.cells #[.string s,.slice a l.length c] 29)) #[.string ⟨#[]⟩,.slice none 0 0] 29).below hb1 (by simp)
   unfold Hid
   simpa using h
  have B1:=Aa ((((Af w.heap.size w).alloc (Aj _) (.cells #[.string s,.slice a l.length c] 29)).alloc (by simp) (.cells #[.string ⟨#[]⟩,.slice none 0 0] 29)).trans (hb1.mono (by simp; omega)))
  have aM:w.heap.size<w1.heap.size:=T1.out.lt
  have aB:w.heap.size+1<w1.heap.size:=R1.out.lt
  clear hb1
  have t0:∀o,(w1.alloc o).cell? ⟨w.heap.size,0,none⟩=some (.string s):=λo=>(T1.out.alloc o).cell 0
  have t1:∀o,(w1.alloc o).cell? ⟨w.heap.size,1,none⟩=some (.slice a l.length c):=λo=>(T1.out.alloc o).cell 1
  rcases aA with ⟨x,ax,cx,hf,rfl,aJ⟩|⟨hf,rfl⟩
  ·by_cases aK:l=[]
   ·subst aK
    have HF:=Aa (Ik hf)
    have SX:=Aa aJ
    clear hf aJ
    have r0:=R1.out.c0
    have r1:=R1.out.c1
    have rf:=R1.out.frozen
    go_wp2_with fail
    refine Ap (v:=.agg #[.string x.name,.slice ax x.args.length cx]) (by simp[results,Tryz.results43,go_sem,AU,AG,r0,r1,aB,Gc]) rfl ?_
    rw[HF.out]
    refine⟨ax,cx,rfl,?_,((B1.out.setCell (by simp) _).setCell (by simp) _).alloc (by have:=B1.out.size; simpa [World.setCell] using this) _⟩
    refine((SX.out.mono (Y:=λb=>Z b/\b<w.heap.size) λb h1 _=>h1.1).kept λb hb=>?_).mono λb hb _=>Ad hb
    rw[AP _ _ _ (by simp[World.setCell]; omega),Aq _ _ _ _ (by simp; omega),Aq _ _ _ _ (by simp; omega)]
   ·have HD:Hid (Ag ls ⟨s,l⟩=⟨s,Am ls l⟩):=Fv (Ad aK)
    have aN:((l.length:Int)==0)=false:=DL.2 (by have:=Fb.2 aK; omega)
    clear hf aJ
    go_wp2_with fail
    have T3:=Aa ((T1.out.alloc (.cells #[.string x.name,.slice ax x.args.length cx] 29)).alloc (.cells #[.string s,.slice none 0 0] 29))
    have R3:=Aa ((R1.out.alloc (.cells #[.string x.name,.slice ax x.args.length cx] 29)).alloc (.cells #[.string s,.slice none 0 0] 29))
    have O3:=Aa (Ac.new (w1.alloc (.cells #[.string x.name,.slice ax x.args.length cx] 29)) #[.string s,.slice none 0 0] 29)
    have B3:=Aa ((B1.out.alloc B1.out.size (.cells #[.string x.name,.slice ax x.args.length cx] 29)).alloc (by have:=B1.out.size; simp; omega) (.cells #[.string s,.slice none 0 0] 29))
    have aC:=Aa (O3.out.lt)
    have hO:w.heap.size+2<=(w1.alloc (.cells #[.string x.name,.slice ax x.args.length cx] 29)).heap.size:=by have:=R1.out.lt; simp; omega
    have eO:(w1.alloc (.cells #[.string x.name,.slice ax x.args.length cx] 29)).heap.size=w1.heap.size+1:=by simp
    rw[eO]at O3 aC hO
    clear eO
    generalize (w1.alloc (.cells #[.string x.name,.slice ax x.args.length cx] 29)).alloc (.cells #[.string s,.slice none 0 0] 29)=w3 at *
    generalize w1.heap.size+1=O at *
    clear t0 t1
    have hY:∀b,(Z b/\b<w.heap.size)->b<w.heap.size:=λb h=>h.2
    go_loopw [8] (λi wr=>PE w (λb=>Z b/\b<w.heap.size) O s a c ls l i wr) (λi wr=>l.length-(intOf i).toNat)
    case atStart=>exact⟨0,.slice none 0 0,AE _,rfl,[],by have h:=AN.start w3 (O+1) 29 (λb=>Z b/\b<w.heap.size); simpa [Am] using h,B3.out,T3.out,R3.out,O3.out,aC.out⟩
    case round=>
     obtain⟨k,u9,hk,rfl,xs,hrow,aD,hT,hR,aF,aj⟩:=hrel
     have XW:=Aa hrow
     have XE:=Aa aD
     have XT:=Aa hT
     have XR:=Aa hR
     have XO:=Aa aF
     clear hrow aD hT hR aF
     have c0:=XT.out.c0
     have c1:=XT.out.c1
     have o0:=XO.out.c0
     have o1:wr.cell? ⟨O,1,none⟩=some u9:=XO.out.cell 1
     by_cases hlt:k<l.length
     ·obtain⟨b,o,a',c',rfl,d0,d1,hx⟩:=(HS.out.mono (Y:=λb=>X b/\b<w.heap.size) λb h1 h2=>⟨h1,h2⟩).get XE.out (λb h _=>h.2) k hlt
      have HX:=Aa hx
      have aw:b<w.heap.size:=Gr HS.out (Nat.lt_of_le_of_lt (AE k) hlt)
      have ay:Ab [l[k]]<=1000000:=by
       have:=C4 l k hlt
       have:=C5 l (k+1)
       omega
      have az:(Am ls (l.take k)).length=k:=by rw[J1]; simp; omega
      have aG:Hid (Calls Tryz.prog 43 #[u,.agg #[.string l[k].name,.slice a' l[k].args.length c']] wr.drew λe w''=>∃a1 c1,e=.returned (.agg #[.string (Ag ls l[k]).name,.slice a1 (Ag ls l[k]).args.length c1])/\Sl w'' (λb=>(Z b/\b<w.heap.size)∨wr.heap.size<=b) a1 (Ag ls l[k]).args/\Below wr.heap.size wr w''):=(IH.out l[k] (AV hlt) u _ wr.drew (λb=>X b/\b<w.heap.size) (λb=>Z b/\b<w.heap.size) ((HU.out.mono λb h1 h2=>⟨h1,h2⟩).later (XE.out.drew)) (HX.out.later ((Af wr.heap.size wr).drew)) ay).mono λe w'' hp=>by
       obtain⟨a1,c1,h1,h2,h3⟩:=hp
       exact⟨a1,c1,h1,h2.mono (λb hb _=>hb.imp (λh=>h.1) id),((Af wr.heap.size wr).drew).trans h3⟩
      have a6:Hid (∀a1 c1,∀x∈[Value.string (Ag ls l[k]).name,Value.slice a1 (Ag ls l[k]).args.length c1],x.oneCell'=true):=λa1 c1 x hx=>by simp at hx; rcases hx with rfl|rfl<;>rfl
      have ak:Hid ((Am ls (l.take k)).length+1<=maxLen/\((Am ls (l.take k)).length+1)*40<=140737488355328):=⟨by rw[az]; unfold maxLen; omega,by rw[az]; omega⟩
      clear az
      have aH:Hid (w.heap.size<wr.heap.size/\b<wr.heap.size):=⟨XT.out.lt,by have:=XT.out.lt; omega⟩
      have a7:Hid (Cw w b (o+k*2) s (some ⟨b,o,none⟩) l.length c l[k].name (.slice a' l[k].args.length c') wr):=⟨XT.out,d0,d1⟩
      go_wp2_with fail
      refine CU (S:=Cw w b (o+k*2) s (some ⟨b,o,none⟩) l.length c l[k].name (.slice a' l[k].args.length c')) (by kernel_rfl) (by exact a7.out) (λhHeld=>?_)
      refine tkz 0 ?_
      refine tkz 2 ?_
      refine tkz 3 ?_
      refine tkz 5 ?_
      refine tkz 4 ?_ (hy:=by intro w' hSw;have k1:w'.cell? ⟨w.heap.size,1,none⟩=some (.slice (some ⟨b,o,none⟩) l.length c):=hSw.1.cell 1;go_simp<;>with_reducible rfl)
      refine tkz 6 ?_
      refine tkz 7 ?_ (hy:=by intro w' hSw;have k2:=hSw.2.1;have k3:=hSw.2.2;go_simp<;>with_reducible rfl)
      refine DV (rs:=[1,8]) (by kernel_rfl) (by simp) ?_
      refine Cb rfl (λK hK=>?_) (Cb rfl (λK hK=>?_) DW)
      ·go_simp
       refine hK.out _ _ (by exact hHeld) (λhHeld=>?_)
       clear hK K
       try simp only[Act.put,sq]
       refine rdq 8 rfl λK hK=>?_
       ·go_simp
        go_at_call 43
        refine aG.out.mono ?_
        rintro e w1 ⟨a1,c1,rfl,hs1,hb1⟩
        have hc3:∀o,(w1.alloc o).cell? ⟨O,1,none⟩=some u9:=λo=>((XO.out.below hb1 aj).alloc o).cell 1
        have av:w1.cell? ⟨O,1,none⟩=some u9:=(XO.out.below hb1 aj).cell 1
        go_simp
        refine hK.out _ _ (by exact Cw.below a7.out hb1 aH.out) (λhHeld=>?_)
        clear hK K
        try simp only[Act.put,sq]
        refine rdq 9 rfl λK hK=>?_
        ·go_simp
         refine hK.out _ _ (by exact hHeld.alloc _) (λhHeld=>?_)
         clear hK K
         try simp only[Act.put,sq]
         refine rdq 10 rfl λK hK=>?_
         ·refine step_append_lies _ rfl _ _ 27 rfl (O+1) 29 i0 _ 2 40 Tryz.underlying27 a8 hz0 hz1 hz2 rfl (by decide) u9 (Am ls (l.take k)).length xs rfl (by exact(XW.out.below hb1).own.alloc _) ⟨w1.heap.size,0,none⟩ 1 1 [.string (Ag ls l[k]).name,.slice a1 (Ag ls l[k]).args.length c1] rfl rfl (cell_two_new _ _ _ _) (a6.out a1 c1) (by decide) ak.out.1 ak.out.2 (by have:=hb1.size; simp; omega) _ rfl ?_
          intro g cap w3 ae aa af ag
          have ah:=Aa (((XO.out.below hb1 aj).alloc _).grown aa (XW.out.ne (EM _)))
          have ao:w3.cell? ⟨O,1,none⟩=some u9:=ah.out.cell 1
          have aq:=ah.out.frozen 1
          have ai:=Aa (Ix (c:=c) (n:=l.length) (a:=some ⟨b,o,none⟩) hO hY XW.out XE.out XT.out XR.out XO.out hb1 ⟨a1,c1,rfl,hs1⟩ ae aa af)
          refine hK.out _ _ (by exact Cw.grown hHeld aa (λj hj=>XW.out.ne (by omega)) aw trivial) (λhHeld=>?_)
          clear hK K
          try simp only[Act.put,sq]
          refine tkz 11 ?_
          refine rdq 12 rfl λK hK=>?_
          ·go_simp
           refine hK.out _ _ (by exact Cw.set hHeld _ trivial (by omega) (by omega)) (λhHeld=>?_)
           clear hK K
           try simp only[Act.put,sq]
           refine dnq ?_
           clear hc3 av ao aq ae aa af ag ah hHeld
           go_wp2_with fail
           go_roundw
           case rel=>
            refine⟨k+1,.slice (some ⟨g,0,none⟩) ((Am ls (l.take k)).length+1) cap,by omega,by go_num,?_⟩
            rw[GL ls l k hlt]
            exact ai.out
           case measure=>simp[intOf]; omega
      ·go_simp
       go_at_call 43
       refine aG.out.mono ?_
       rintro e w1 ⟨a1,c1,rfl,hs1,hb1⟩
       have hc3:∀o,(w1.alloc o).cell? ⟨O,1,none⟩=some u9:=λo=>((XO.out.below hb1 aj).alloc o).cell 1
       have av:w1.cell? ⟨O,1,none⟩=some u9:=(XO.out.below hb1 aj).cell 1
       go_simp
       refine hK.out _ _ (by exact Cw.below a7.out hb1 aH.out) (λhHeld=>?_)
       clear hK K
       try simp only[Act.put,sq]
       refine DV (rs:=[1,9]) (by kernel_rfl) (by simp) ?_
       refine Cb rfl (λK hK=>?_) (Cb rfl (λK hK=>?_) DW)
       ·go_simp
        refine hK.out _ _ (by exact hHeld) (λhHeld=>?_)
        clear hK K
        try simp only[Act.put,sq]
        refine rdq 9 rfl λK hK=>?_
        ·go_simp
         refine hK.out _ _ (by exact hHeld.alloc _) (λhHeld=>?_)
         clear hK K
         try simp only[Act.put,sq]
         refine rdq 10 rfl λK hK=>?_
         ·refine step_append_lies _ rfl _ _ 27 rfl (O+1) 29 i0 _ 2 40 Tryz.underlying27 a8 hz0 hz1 hz2 rfl (by decide) u9 (Am ls (l.take k)).length xs rfl (by exact(XW.out.below hb1).own.alloc _) ⟨w1.heap.size,0,none⟩ 1 1 [.string (Ag ls l[k]).name,.slice a1 (Ag ls l[k]).args.length c1] rfl rfl (cell_two_new _ _ _ _) (a6.out a1 c1) (by decide) ak.out.1 ak.out.2 (by have:=hb1.size; simp; omega) _ rfl ?_
          intro g cap w3 ae aa af ag
          have ah:=Aa (((XO.out.below hb1 aj).alloc _).grown aa (XW.out.ne (EM _)))
          have ao:w3.cell? ⟨O,1,none⟩=some u9:=ah.out.cell 1
          have aq:=ah.out.frozen 1
          have ai:=Aa (Ix (c:=c) (n:=l.length) (a:=some ⟨b,o,none⟩) hO hY XW.out XE.out XT.out XR.out XO.out hb1 ⟨a1,c1,rfl,hs1⟩ ae aa af)
          refine hK.out _ _ (by exact Cw.grown hHeld aa (λj hj=>XW.out.ne (by omega)) aw trivial) (λhHeld=>?_)
          clear hK K
          try simp only[Act.put,sq]
          refine tkz 11 ?_
          refine rdq 12 rfl λK hK=>?_
          ·go_simp
           refine hK.out _ _ (by exact Cw.set hHeld _ trivial (by omega) (by omega)) (λhHeld=>?_)
           clear hK K
           try simp only[Act.put,sq]
           refine dnq ?_
           clear hc3 av ao aq ae aa af ag ah hHeld
           go_wp2_with fail
           go_roundw
           case rel=>
            refine⟨k+1,.slice (some ⟨g,0,none⟩) ((Am ls (l.take k)).length+1) cap,by omega,by go_num,?_⟩
            rw[GL ls l k hlt]
            exact ai.out
           case measure=>simp[intOf]; omega
       ·go_simp
        refine hK.out _ _ (by exact hHeld.alloc _) (λhHeld=>?_)
        clear hK K
        try simp only[Act.put,sq]
        refine rdq 1 rfl λK hK=>?_
        ·go_simp
         refine hK.out _ _ (by exact hHeld) (λhHeld=>?_)
         clear hK K
         try simp only[Act.put,sq]
         refine rdq 10 rfl λK hK=>?_
         ·refine step_append_lies _ rfl _ _ 27 rfl (O+1) 29 i0 _ 2 40 Tryz.underlying27 a8 hz0 hz1 hz2 rfl (by decide) u9 (Am ls (l.take k)).length xs rfl (by exact(XW.out.below hb1).own.alloc _) ⟨w1.heap.size,0,none⟩ 1 1 [.string (Ag ls l[k]).name,.slice a1 (Ag ls l[k]).args.length c1] rfl rfl (cell_two_new _ _ _ _) (a6.out a1 c1) (by decide) ak.out.1 ak.out.2 (by have:=hb1.size; simp; omega) _ rfl ?_
          intro g cap w3 ae aa af ag
          have ah:=Aa (((XO.out.below hb1 aj).alloc _).grown aa (XW.out.ne (EM _)))
          have ao:w3.cell? ⟨O,1,none⟩=some u9:=ah.out.cell 1
          have aq:=ah.out.frozen 1
          have ai:=Aa (Ix (c:=c) (n:=l.length) (a:=some ⟨b,o,none⟩) hO hY XW.out XE.out XT.out XR.out XO.out hb1 ⟨a1,c1,rfl,hs1⟩ ae aa af)
          refine hK.out _ _ (by exact Cw.grown hHeld aa (λj hj=>XW.out.ne (by omega)) aw trivial) (λhHeld=>?_)
          clear hK K
          try simp only[Act.put,sq]
          refine tkz 11 ?_
          refine rdq 12 rfl λK hK=>?_
          ·go_simp
           refine hK.out _ _ (by exact Cw.set hHeld _ trivial (by omega) (by omega)) (λhHeld=>?_)
           clear hK K
           try simp only[Act.put,sq]
           refine dnq ?_
           clear hc3 av ao aq ae aa af ag ah hHeld
           go_wp2_with fail
           go_roundw
           case rel=>
            refine⟨k+1,.slice (some ⟨g,0,none⟩) ((Am ls (l.take k)).length+1) cap,by omega,by go_num,?_⟩
            rw[GL ls l k hlt]
            exact ai.out
           case measure=>simp[intOf]; omega
     ·have aI:l.take k=l:=AW (by omega)
      rw[aI]at XW
      obtain⟨a9,c9,aL,ar⟩:=XW.out.sl
      subst aL
      have S9:=Aa ar
      have r0:=XR.out.c0
      have r1:=XR.out.c1
      have rf:=XR.out.frozen
      clear ar aI
      go_wp2_with fail
      refine Ap (v:=.agg #[.string s,.slice a9 (Am ls l).length c9]) (by simp[results,Tryz.results43,go_sem,AU,AG,r0,r1]) rfl ?_
      rw[HD.out]
      refine⟨a9,c9,rfl,(S9.out.kept λb hb=>?_).mono λb hb _=>hb.imp id (λh=>by omega),(XE.out.setCell (by simp) _).setCell (by simp) _⟩
      have au:b≠w.heap.size+1:=by
       rcases hb with h|h
       ·have:=h.2; omega
       ·omega
      rw[Aq _ _ _ _ (by simpa using au),Aq _ _ _ _ (by simpa using au)]
  ·have HD:Hid (Ag ls ⟨s,l⟩=⟨s,Am ls l⟩):=Fv (Ae hf)
   clear hf
   go_wp2_with fail
   have T3:=Aa ((T1.out.alloc (.cells #[.string ⟨#[]⟩,.slice none 0 0] 29)).alloc (.cells #[.string s,.slice none 0 0] 29))
   have R3:=Aa ((R1.out.alloc (.cells #[.string ⟨#[]⟩,.slice none 0 0] 29)).alloc (.cells #[.string s,.slice none 0 0] 29))
   have O3:=Aa (Ac.new (w1.alloc (.cells #[.string ⟨#[]⟩,.slice none 0 0] 29)) #[.string s,.slice none 0 0] 29)
   have B3:=Aa ((B1.out.alloc B1.out.size (.cells #[.string ⟨#[]⟩,.slice none 0 0] 29)).alloc (by have:=B1.out.size; simp; omega) (.cells #[.string s,.slice none 0 0] 29))
   have aC:=Aa (O3.out.lt)
   have hO:w.heap.size+2<=(w1.alloc (.cells #[.string ⟨#[]⟩,.slice none 0 0] 29)).heap.size:=by have:=R1.out.lt; simp; omega
   have eO:(w1.alloc (.cells #[.string ⟨#[]⟩,.slice none 0 0] 29)).heap.size=w1.heap.size+1:=by simp
   rw[eO]at O3 aC hO
   clear eO
   generalize (w1.alloc (.cells #[.string ⟨#[]⟩,.slice none 0 0] 29)).alloc (.cells #[.string s,.slice none 0 0] 29)=w3 at *
   generalize w1.heap.size+1=O at *
   clear t0 t1
   have hY:∀b,(Z b/\b<w.heap.size)->b<w.heap.size:=λb h=>h.2
   go_loopw [8] (λi wr=>PE w (λb=>Z b/\b<w.heap.size) O s a c ls l i wr) (λi wr=>l.length-(intOf i).toNat)
   case atStart=>exact⟨0,.slice none 0 0,AE _,rfl,[],by have h:=AN.start w3 (O+1) 29 (λb=>Z b/\b<w.heap.size); simpa [Am] using h,B3.out,T3.out,R3.out,O3.out,aC.out⟩
   case round=>
    obtain⟨k,u9,hk,rfl,xs,hrow,aD,hT,hR,aF,aj⟩:=hrel
    have XW:=Aa hrow
    have XE:=Aa aD
    have XT:=Aa hT
    have XR:=Aa hR
    have XO:=Aa aF
    clear hrow aD hT hR aF
    have c0:=XT.out.c0
    have c1:=XT.out.c1
    have o0:=XO.out.c0
    have o1:wr.cell? ⟨O,1,none⟩=some u9:=XO.out.cell 1
    by_cases hlt:k<l.length
    ·obtain⟨b,o,a',c',rfl,d0,d1,hx⟩:=(HS.out.mono (Y:=λb=>X b/\b<w.heap.size) λb h1 h2=>⟨h1,h2⟩).get XE.out (λb h _=>h.2) k hlt
     have HX:=Aa hx
     have aw:b<w.heap.size:=Gr HS.out (Nat.lt_of_le_of_lt (AE k) hlt)
     have ay:Ab [l[k]]<=1000000:=by
      have:=C4 l k hlt
      have:=C5 l (k+1)
      omega
     have az:(Am ls (l.take k)).length=k:=by rw[J1]; simp; omega
     have aG:Hid (Calls Tryz.prog 43 #[u,.agg #[.string l[k].name,.slice a' l[k].args.length c']] wr.drew λe w''=>∃a1 c1,e=.returned (.agg #[.string (Ag ls l[k]).name,.slice a1 (Ag ls l[k]).args.length c1])/\Sl w'' (λb=>(Z b/\b<w.heap.size)∨wr.heap.size<=b) a1 (Ag ls l[k]).args/\Below wr.heap.size wr w''):=(IH.out l[k] (AV hlt) u _ wr.drew (λb=>X b/\b<w.heap.size) (λb=>Z b/\b<w.heap.size) ((HU.out.mono λb h1 h2=>⟨h1,h2⟩).later (XE.out.drew)) (HX.out.later ((Af wr.heap.size wr).drew)) ay).mono λe w'' hp=>by
      obtain⟨a1,c1,h1,h2,h3⟩:=hp
      exact⟨a1,c1,h1,h2.mono (λb hb _=>hb.imp (λh=>h.1) id),((Af wr.heap.size wr).drew).trans h3⟩
     have a6:Hid (∀a1 c1,∀x∈[Value.string (Ag ls l[k]).name,Value.slice a1 (Ag ls l[k]).args.length c1],x.oneCell'=true):=λa1 c1 x hx=>by simp at hx; rcases hx with rfl|rfl<;>rfl
     have ak:Hid ((Am ls (l.take k)).length+1<=maxLen/\((Am ls (l.take k)).length+1)*40<=140737488355328):=⟨by rw[az]; unfold maxLen; omega,by rw[az]; omega⟩
     clear az
     have aH:Hid (w.heap.size<wr.heap.size/\b<wr.heap.size):=⟨XT.out.lt,by have:=XT.out.lt; omega⟩
     have a7:Hid (Cw w b (o+k*2) s (some ⟨b,o,none⟩) l.length c l[k].name (.slice a' l[k].args.length c') wr):=⟨XT.out,d0,d1⟩
     go_wp2_with fail
     refine CU (S:=Cw w b (o+k*2) s (some ⟨b,o,none⟩) l.length c l[k].name (.slice a' l[k].args.length c')) (by kernel_rfl) (by exact a7.out) (λhHeld=>?_)
     refine tkz 0 ?_
     refine tkz 2 ?_
     refine tkz 3 ?_
     refine tkz 5 ?_
     refine tkz 4 ?_ (hy:=by intro w' hSw;have k1:w'.cell? ⟨w.heap.size,1,none⟩=some (.slice (some ⟨b,o,none⟩) l.length c):=hSw.1.cell 1;go_simp<;>with_reducible rfl)
     refine tkz 6 ?_
     refine tkz 7 ?_ (hy:=by intro w' hSw;have k2:=hSw.2.1;have k3:=hSw.2.2;go_simp<;>with_reducible rfl)
     refine DV (rs:=[1,8]) (by kernel_rfl) (by simp) ?_
     refine Cb rfl (λK hK=>?_) (Cb rfl (λK hK=>?_) DW)
     ·go_simp
      refine hK.out _ _ (by exact hHeld) (λhHeld=>?_)
      clear hK K
      try simp only[Act.put,sq]
      refine rdq 8 rfl λK hK=>?_
      ·go_simp
       go_at_call 43
       refine aG.out.mono ?_
       rintro e w1 ⟨a1,c1,rfl,hs1,hb1⟩
       have hc3:∀o,(w1.alloc o).cell? ⟨O,1,none⟩=some u9:=λo=>((XO.out.below hb1 aj).alloc o).cell 1
       have av:w1.cell? ⟨O,1,none⟩=some u9:=(XO.out.below hb1 aj).cell 1
       go_simp
       refine hK.out _ _ (by exact Cw.below a7.out hb1 aH.out) (λhHeld=>?_)
       clear hK K
       try simp only[Act.put,sq]
       refine rdq 9 rfl λK hK=>?_
       ·go_simp
        refine hK.out _ _ (by exact hHeld.alloc _) (λhHeld=>?_)
        clear hK K
        try simp only[Act.put,sq]
        refine rdq 10 rfl λK hK=>?_
        ·refine step_append_lies _ rfl _ _ 27 rfl (O+1) 29 i0 _ 2 40 Tryz.underlying27 a8 hz0 hz1 hz2 rfl (by decide) u9 (Am ls (l.take k)).length xs rfl (by exact(XW.out.below hb1).own.alloc _) ⟨w1.heap.size,0,none⟩ 1 1 [.string (Ag ls l[k]).name,.slice a1 (Ag ls l[k]).args.length c1] rfl rfl (cell_two_new _ _ _ _) (a6.out a1 c1) (by decide) ak.out.1 ak.out.2 (by have:=hb1.size; simp; omega) _ rfl ?_
         intro g cap w3 ae aa af ag
         have ah:=Aa (((XO.out.below hb1 aj).alloc _).grown aa (XW.out.ne (EM _)))
         have ao:w3.cell? ⟨O,1,none⟩=some u9:=ah.out.cell 1
         have aq:=ah.out.frozen 1
         have ai:=Aa (Ix (c:=c) (n:=l.length) (a:=some ⟨b,o,none⟩) hO hY XW.out XE.out XT.out XR.out XO.out hb1 ⟨a1,c1,rfl,hs1⟩ ae aa af)
         refine hK.out _ _ (by exact Cw.grown hHeld aa (λj hj=>XW.out.ne (by omega)) aw trivial) (λhHeld=>?_)
         clear hK K
         try simp only[Act.put,sq]
         refine tkz 11 ?_
         refine rdq 12 rfl λK hK=>?_
         ·go_simp
          refine hK.out _ _ (by exact Cw.set hHeld _ trivial (by omega) (by omega)) (λhHeld=>?_)
          clear hK K
          try simp only[Act.put,sq]
          refine dnq ?_
          clear hc3 av ao aq ae aa af ag ah hHeld
          go_wp2_with fail
          go_roundw
          case rel=>
           refine⟨k+1,.slice (some ⟨g,0,none⟩) ((Am ls (l.take k)).length+1) cap,by omega,by go_num,?_⟩
           rw[GL ls l k hlt]
           exact ai.out
          case measure=>simp[intOf]; omega
     ·go_simp
      go_at_call 43
      refine aG.out.mono ?_
      rintro e w1 ⟨a1,c1,rfl,hs1,hb1⟩
      have hc3:∀o,(w1.alloc o).cell? ⟨O,1,none⟩=some u9:=λo=>((XO.out.below hb1 aj).alloc o).cell 1
      have av:w1.cell? ⟨O,1,none⟩=some u9:=(XO.out.below hb1 aj).cell 1
      go_simp
      refine hK.out _ _ (by exact Cw.below a7.out hb1 aH.out) (λhHeld=>?_)
      clear hK K
      try simp only[Act.put,sq]
      refine DV (rs:=[1,9]) (by kernel_rfl) (by simp) ?_
      refine Cb rfl (λK hK=>?_) (Cb rfl (λK hK=>?_) DW)
      ·go_simp
       refine hK.out _ _ (by exact hHeld) (λhHeld=>?_)
       clear hK K
       try simp only[Act.put,sq]
       refine rdq 9 rfl λK hK=>?_
       ·go_simp
        refine hK.out _ _ (by exact hHeld.alloc _) (λhHeld=>?_)
        clear hK K
        try simp only[Act.put,sq]
        refine rdq 10 rfl λK hK=>?_
        ·refine step_append_lies _ rfl _ _ 27 rfl (O+1) 29 i0 _ 2 40 Tryz.underlying27 a8 hz0 hz1 hz2 rfl (by decide) u9 (Am ls (l.take k)).length xs rfl (by exact(XW.out.below hb1).own.alloc _) ⟨w1.heap.size,0,none⟩ 1 1 [.string (Ag ls l[k]).name,.slice a1 (Ag ls l[k]).args.length c1] rfl rfl (cell_two_new _ _ _ _) (a6.out a1 c1) (by decide) ak.out.1 ak.out.2 (by have:=hb1.size; simp; omega) _ rfl ?_
         intro g cap w3 ae aa af ag
         have ah:=Aa (((XO.out.below hb1 aj).alloc _).grown aa (XW.out.ne (EM _)))
         have ao:w3.cell? ⟨O,1,none⟩=some u9:=ah.out.cell 1
         have aq:=ah.out.frozen 1
         have ai:=Aa (Ix (c:=c) (n:=l.length) (a:=some ⟨b,o,none⟩) hO hY XW.out XE.out XT.out XR.out XO.out hb1 ⟨a1,c1,rfl,hs1⟩ ae aa af)
         refine hK.out _ _ (by exact Cw.grown hHeld aa (λj hj=>XW.out.ne (by omega)) aw trivial) (λhHeld=>?_)
         clear hK K
         try simp only[Act.put,sq]
         refine tkz 11 ?_
         refine rdq 12 rfl λK hK=>?_
         ·go_simp
          refine hK.out _ _ (by exact Cw.set hHeld _ trivial (by omega) (by omega)) (λhHeld=>?_)
          clear hK K
          try simp only[Act.put,sq]
          refine dnq ?_
          clear hc3 av ao aq ae aa af ag ah hHeld
          go_wp2_with fail
          go_roundw
          case rel=>
           refine⟨k+1,.slice (some ⟨g,0,none⟩) ((Am ls (l.take k)).length+1) cap,by omega,by go_num,?_⟩
           rw[GL ls l k hlt]
           exact ai.out
          case measure=>simp[intOf]; omega
      ·go_simp
       refine hK.out _ _ (by exact hHeld.alloc _) (λhHeld=>?_)
       clear hK K
       try simp only[Act.put,sq]
       refine rdq 1 rfl λK hK=>?_
       ·go_simp
        refine hK.out _ _ (by exact hHeld) (λhHeld=>?_)
        clear hK K
        try simp only[Act.put,sq]
        refine rdq 10 rfl λK hK=>?_
        ·refine step_append_lies _ rfl _ _ 27 rfl (O+1) 29 i0 _ 2 40 Tryz.underlying27 a8 hz0 hz1 hz2 rfl (by decide) u9 (Am ls (l.take k)).length xs rfl (by exact(XW.out.below hb1).own.alloc _) ⟨w1.heap.size,0,none⟩ 1 1 [.string (Ag ls l[k]).name,.slice a1 (Ag ls l[k]).args.length c1] rfl rfl (cell_two_new _ _ _ _) (a6.out a1 c1) (by decide) ak.out.1 ak.out.2 (by have:=hb1.size; simp; omega) _ rfl ?_
         intro g cap w3 ae aa af ag
         have ah:=Aa (((XO.out.below hb1 aj).alloc _).grown aa (XW.out.ne (EM _)))
         have ao:w3.cell? ⟨O,1,none⟩=some u9:=ah.out.cell 1
         have aq:=ah.out.frozen 1
         have ai:=Aa (Ix (c:=c) (n:=l.length) (a:=some ⟨b,o,none⟩) hO hY XW.out XE.out XT.out XR.out XO.out hb1 ⟨a1,c1,rfl,hs1⟩ ae aa af)
         refine hK.out _ _ (by exact Cw.grown hHeld aa (λj hj=>XW.out.ne (by omega)) aw trivial) (λhHeld=>?_)
         clear hK K
         try simp only[Act.put,sq]
         refine tkz 11 ?_
         refine rdq 12 rfl λK hK=>?_
         ·go_simp
          refine hK.out _ _ (by exact Cw.set hHeld _ trivial (by omega) (by omega)) (λhHeld=>?_)
          clear hK K
          try simp only[Act.put,sq]
          refine dnq ?_
          clear hc3 av ao aq ae aa af ag ah hHeld
          go_wp2_with fail
          go_roundw
          case rel=>
           refine⟨k+1,.slice (some ⟨g,0,none⟩) ((Am ls (l.take k)).length+1) cap,by omega,by go_num,?_⟩
           rw[GL ls l k hlt]
           exact ai.out
          case measure=>simp[intOf]; omega
    ·have aI:l.take k=l:=AW (by omega)
     rw[aI]at XW
     obtain⟨a9,c9,aL,ar⟩:=XW.out.sl
     subst aL
     have S9:=Aa ar
     have r0:=XR.out.c0
     have r1:=XR.out.c1
     have rf:=XR.out.frozen
     clear ar aI
     go_wp2_with fail
     refine Ap (v:=.agg #[.string s,.slice a9 (Am ls l).length c9]) (by simp[results,Tryz.results43,go_sem,AU,AG,r0,r1]) rfl ?_
     rw[HD.out]
     refine⟨a9,c9,rfl,(S9.out.kept λb hb=>?_).mono λb hb _=>hb.imp id (λh=>by omega),(XE.out.setCell (by simp) _).setCell (by simp) _⟩
     have au:b≠w.heap.size+1:=by
      rcases hb with h|h
      ·have:=h.2; omega
      ·omega
     rw[Aq _ _ _ _ (by simpa using au),Aq _ _ _ _ (by simpa using au)]
theorem Mq (ls:List Bd) (t:Tm) (u v:Value) (w:World) (X:Nat->Prop) (hu:BV w X u ls) (hv:TV w X v t) (hsm:Ab [t]<=1000000):
  Calls Tryz.prog 43 #[u,v] w λe w'=>PC w X (Ag ls t) e w':=PF ls t u v w X X hu hv hsm
end Go.Proofs.YtlkeafenklamjaaGreatDoor
