import Derived.Test.YtlkeafenklamjaaGreatDoorOv1
import Derived.Deep.RegionHeld3
namespace Go.Proofs.YtlkeafenklamjaaGreatDoor
set_option linter.all false
set_option maxRecDepth 20000
set_option maxHeartbeats 8000000
open Go.RowKit
structure FG (w:World) (B Bn Bi i:Nat):Prop where
 bn:Ac w Bn #[.func (.func 80) #[] #[.pointer (some ⟨B,0,none⟩)]] 89
 bi:Ac w Bi #[.int .i64 (i:Int)] 3
theorem FG.later {w w':World} {B Bn Bi i:Nat} (h:FG w B Bn Bi i) (hb:Below w.heap.size w w'):FG w' B Bn Bi i:=⟨h.bn.below hb h.bn.lt,h.bi.below hb h.bi.lt⟩
theorem FG.exq {w w':World} {B Bn Bi i r:Nat} (h:FG w B Bn Bi i) (he:Al (λb=>b=r) w w') (h1:Bn≠r) (h2:Bi≠r):FG w' B Bn Bi i:=⟨h.bn.exq he h1,h.bi.exq he h2⟩
theorem Zl {s:ByteArray} (h:Be s=true):s.size<=8:=by
 unfold Be at h
 simp at h
 omega
theorem Zm:∀ {i:Nat},i<=9->(Lib.decDigits i).length<=1:=by decide +kernel
theorem Zn (BT:Nat) (s:ByteArray) (ns:List ByteArray) (B r Bn Bi i:Nat) (w:World) (h:CW w B r ns) (ho:FG w B Bn Bi i) (hT:Tb BT w) (aj:BT<=r) (ak:BT<=w.heap.size) (hl:ns.length<=100000) (hi:i<=9) (hs:s.size<=8) (ao:Bn≠r) (aq:Bi≠r):
  Calls Tryz.prog 55 #[.string s,.pointer (some ⟨Bn,0,none⟩),.pointer (some ⟨Bi,0,none⟩)] w λe w'=>e=.returned (.string (BR (Az (AA i s) ns+1)))/\CW w' B r (Cc ns (AA i s))/\Al (λb=>b=r) w w':=by
 have HN:=Aa h
 have HO:=Aa ho
 have ar:=Aa hT
 have hd:=Zm hi
 have aa:(⟨(Lib.decDigits i).toArray⟩:ByteArray)++s=AA i s:=rfl
 have HC:=Aa aa
 have hsz:(⟨(Lib.decDigits i).toArray⟩:ByteArray).size<=1:=by simpa [ByteArray.size] using hd
 clear h ho hT aa
 go_enter Tryz.func55,Tryz.ntmps55
 go_wp2_with fail
 have ae:Hid (FG w.drew B Bn Bi i):=⟨HO.out.bn.drewN 1,HO.out.bi.drewN 1⟩
 have au:Hid (CW w.drew B r ns):=HN.out.later ((Af _ _).drew)
 have af:Hid (Tb BT w.drew):=ar.out.on ((Af BT w).drew)
 have av:Hid (Al (λb=>b=r) w w.drew):=(Al.refl _ w).drew
 have ag:BT<=w.drew.heap.size:=ak
 refine CU (S:=λw'=>FG w' B Bn Bi i) (by kernel_rfl) ae.out (λhHeld=>?_)
 generalize w.drew=wd at *
 refine tkz 0 ?_ (hy:=by intro w' hSw;have c0:=hSw.bn.cell 0;go_simp<;>with_reducible rfl)
 refine tkz 1 ?_ (hy:=by intro w' hSw;have c0:=hSw.bi.cell 0;go_simp<;>with_reducible rfl)
 refine tkz 3 ?_
 refine rdq 2 rfl λK hK=>?_
 go_simp
 go_at_call 56
 refine(LS i BT (by omega) _ af.out).mono ?_
 rintro e w1 ⟨rfl,hb1⟩
 have ah:=Aa (ae.out.later hb1)
 have aw:=Aa (au.out.later hb1)
 have ax:=Aa (af.out.on (hb1.mono ag))
 have ay:=Aa (av.out.trans (Al.ofBelow hb1))
 have az:BT<=w1.heap.size:=AX ag hb1.size
 clear hb1
 go_simp
 refine hK.out _ _ (by exact ah.out) (λhHeld=>?_)
 clear hK K
 try simp only[Act.put,sq]
 refine tkz 4 ?_ (hy:=by intro w' hSw;have aA:¬9223372036854775807<(Lib.decDigits i).length+s.size:=(by omega);go_simp<;>with_reducible rfl)
 try rw[HC.out]
 refine rdq 5 rfl λK hK=>?_
 go_simp
 try rw[HC.out]
 refine(Om BT (AA i s) ns B r _ aw.out ax.out aj az hl).mono ?_
 rintro e w2 ⟨rfl,ai,hx2⟩
 have a6:=Aa (ah.out.exq hx2 ao aq)
 have a7:=Aa ai
 have a8:=Aa (ay.out.trans hx2)
 clear ai hx2
 go_simp
 refine hK.out _ _ (by exact a6.out) (λhHeld=>?_)
 clear hK K
 try simp only[Act.put,sq]
 refine tkz 6 ?_
 refine dnq ?_
 go_wp2_with fail
 go_ret
 exact⟨rfl,a7.out,a8.out⟩
theorem RC (BT B r Bn Bi i:Nat) (aJ:BT<=r) (aK:i<=9) (a8:Bn≠r) (aA:Bi≠r) (t:Tm):∀(v:Value) (ns:List ByteArray) (w:World) (X:Nat->Prop),TV w X v t->(∀b,X b->b≠r)->CW w B r ns->FG w B Bn Bi i->Tb BT w->ns.length+Ab [t]<=100000->Ah [t]=0->
  Calls Tryz.prog 82 #[v,.func (.func 55) #[] #[.pointer (some ⟨Bn,0,none⟩),.pointer (some ⟨Bi,0,none⟩)]] w λe w'=>Ma B r (AO (AA i) ns t) w e w':=by
 induction t using Tm.ind with
 |h s l ih=>
  intro v ns w X hv hX hN hO hT hsz hE
  obtain⟨a,c,rfl,hs⟩:=hv
  have IH:=Aa ih
  have HS:=Aa hs
  have HX:=Aa hX
  have HN:=Aa hN
  have HO:=Aa hO
  have HE:=Aa hE
  have aL:=Zl (Jo hE)
  have HT:=Aa hT
  have hl:=hs.1
  have hz:Ab [(⟨s,l⟩:Tm)]=1+Ab l:=by simp[Ab]
  rw[hz]at hsz
  have hlen:=Ez l
  have aM:r<w.heap.size:=hN.map.lt
  have hBl:B<w.heap.size:=hN.box.lt
  have aj:Hid (r<w.heap.size/\B<w.heap.size):=⟨aM,hBl⟩
  have ax:BT<=w.heap.size:=by omega
  clear ih hs hz hX hN hT hO hE
  have T2:Hid (Ac ((w.alloc (.cells #[.string s,.slice a l.length c] 29)).alloc (.cells #[.string ⟨#[]⟩,.slice none 0 0] 29)) w.heap.size #[.string s,.slice a l.length c] 29):=(Ac.new w _ _).alloc _
  have R2:Hid (Ac ((w.alloc (.cells #[.string s,.slice a l.length c] 29)).alloc (.cells #[.string ⟨#[]⟩,.slice none 0 0] 29)) (w.heap.size+1) #[.string ⟨#[]⟩,.slice none 0 0] 29):=by
   have h:=Ac.new (w.alloc (.cells #[.string s,.slice a l.length c] 29)) #[.string ⟨#[]⟩,.slice none 0 0] 29
   rw[CN]at h
   exact h
  have B2:Hid (Below w.heap.size w ((w.alloc (.cells #[.string s,.slice a l.length c] 29)).alloc (.cells #[.string ⟨#[]⟩,.slice none 0 0] 29))):=((Af _ _).alloc (Aj _) _).alloc (by simp) _
  have c0:=T2.out.cell 0
  have c1:=T2.out.cell 1
  cases ai:Ak s with
  |true=>
   have HR:Hid (AO (AA i) ns ⟨s,l⟩=(⟨BR (Az (AA i s) ns+1),[]⟩,Cc ns (AA i s))):=by unfold Hid AO; simp[ai]
   have NM:=Aa (Zn BT s ns B r Bn Bi i _ (HN.out.later B2.out) (HO.out.later B2.out) (HT.out.on (B2.out.mono ax)) aJ (AX ax B2.out.size) (by omega) aK aL a8 aA)
   have HV:=Aa ai
   clear ai
   go_enter Tryz.func82,Tryz.ntmps82
   go_wp2_with fail
   refine(Cz s _).mono ?_
   rintro e w2 ⟨rfl,rfl⟩
   rw[HV.out]
   go_wp2_with fail
   refine NM.out.mono ?_
   rintro e w3 ⟨rfl,aB,hx3⟩
   have R3:=Aa (R2.out.exq hx3 (by omega))
   have ay:=Aa aB
   have aN:=Aa ((Al.ofBelow (Q:=λb=>b=r) B2.out).transN hx3 (λi h _=>h))
   clear aB hx3 c0 c1 NM
   have r0:=R3.out.c0
   have r1:=R3.out.c1
   have rf:=R3.out.frozen
   have az:w.heap.size+1<w3.heap.size:=R3.out.lt
   generalize BR (Az (AA i s) ns+1)=nm at *
   go_wp2_with fail
   refine Ap (v:=.agg #[.string nm,.slice none 0 0]) (by simp[results,Tryz.results82,go_sem,AU,AG,r0,r1,az]) rfl ?_
   rw[HR.out]
   refine⟨none,0,rfl,⟨by simp,Ad rfl⟩,⟨(ay.out.box.setOther _ _ (by omega)).setOther _ _ (by omega),?_,ay.out.ne⟩,(aN.out.setNew (by omega) _ _).setNew (by omega) _ _⟩
   refine ay.out.map.kept ?_
   rw[Aq _ _ _ _ (by simp; omega),Aq _ _ _ _ (by simp; omega)]
  |false=>
   have HR:Hid (AO (AA i) ns ⟨s,l⟩=(⟨s,(AK (AA i) ns l).1⟩,(AK (AA i) ns l).2)):=by unfold Hid AO; simp[ai]
   have HV:=Aa ai
   clear ai
   go_enter Tryz.func82,Tryz.ntmps82
   go_wp2_with fail
   refine(Cz s _).mono ?_
   rintro e w2 ⟨rfl,rfl⟩
   rw[HV.out]
   go_wp2_with fail
   have O3:Hid (Ac (((w.alloc (.cells #[.string s,.slice a l.length c] 29)).alloc (.cells #[.string ⟨#[]⟩,.slice none 0 0] 29)).alloc (.cells #[.string s,.slice none 0 0] 29)) (w.heap.size+2) #[.string s,.slice none 0 0] 29):=by
    have h:=Ac.new ((w.alloc (.cells #[.string s,.slice a l.length c] 29)).alloc (.cells #[.string ⟨#[]⟩,.slice none 0 0] 29)) #[.string s,.slice none 0 0] 29
    have e:((w.alloc (.cells #[.string s,.slice a l.length c] 29)).alloc (.cells #[.string ⟨#[]⟩,.slice none 0 0] 29)).heap.size=w.heap.size+2:=by simp
    rw[e]at h
    exact h
   have R3:=Aa (R2.out.alloc (.cells #[.string s,.slice none 0 0] 29))
   have B3:=Aa (B2.out.alloc B2.out.size (.cells #[.string s,.slice none 0 0] 29))
   have aO:Hid (w.heap.size+3<=(((w.alloc (.cells #[.string s,.slice a l.length c] 29)).alloc (.cells #[.string ⟨#[]⟩,.slice none 0 0] 29)).alloc (.cells #[.string s,.slice none 0 0] 29)).heap.size):=by unfold Hid; simp
   clear c0 c1 B2 T2 R2
   generalize (((w.alloc (.cells #[.string s,.slice a l.length c] 29)).alloc (.cells #[.string ⟨#[]⟩,.slice none 0 0] 29)).alloc (.cells #[.string s,.slice none 0 0] 29))=w3 at *
   go_loopw [22] (λiv wr=>∃(k:Nat) (u:Value) (xs:List Value),k<=l.length/\iv=.int .i64 (k:Int)/\It w B r s #[] u (AK (AA i) ns (l.take k)).1 xs (AK (AA i) ns (l.take k)).2 wr) (λiv wr=>l.length-(intOf iv).toNat)
   case atStart=>exact⟨0,.slice none 0 0,[],AE _,rfl,⟨by have h:=AN.start w3 (w.heap.size+3) 29 (λ_=>False); simpa [E6] using h,Al.ofBelow B3.out,R3.out,O3.out,aO.out,by simpa [E6] using HN.out.later B3.out⟩⟩
   case round=>
    obtain⟨k,u9,xs,hk,rfl,aC⟩:=hrel
    have aa:=Aa aC
    clear aC
    have o0:=aa.out.out.c0
    have o1:wr.cell? ⟨w.heap.size+2,1,none⟩=some u9:=aa.out.out.cell 1
    by_cases hlt:k<l.length
    ·obtain⟨b,o,a',c',rfl,d0,d1,hx⟩:=(((HS.out.mono (Y:=λb=>X b/\b<w.heap.size) λb h1 h2=>⟨h1,h2⟩).exq aa.out.ex (λb h=>HX.out b h.1)).mono (Y:=λb=>(X b/\b<w.heap.size)/\b<wr.heap.size) λb h1 h2=>⟨h1,h2⟩).get (Af wr.heap.size wr) (λb h _=>h.2) k hlt
     have aP:(k:Int)<(l.length:Int):=by omega
     have aQ:Ab [l[k]]<=Ab l-Ab (l.take k):=by
      have h1:=C4 l k hlt
      have h2:=C5 l (k+1)
      omega
     have aD:Ab (l.take k)<=Ab l:=C5 l k
     have aF:Hid ((AK (AA i) ns (l.take k)).1.length<=1000000):=by unfold Hid; rw[Qk]; simp; omega
     have aV:=MG (AA i) (l.take k) ns
     have a6:=Aa (Xy (AA i) ns l k hlt)
     have BQ:Below wr.heap.size wr (wr.alloc (.cells #[.string l[k].name,.slice a' l[k].args.length c'] 29)):=(Af _ _).alloc (Aj _) _
     have aR:=Aa (hx.later BQ)
     have ar:Hid (w.heap.size+3<=wr.heap.size/\some wr.heap.size≠u9.ownBlock):=⟨aa.out.sz,λe=>by have:=(aa.out.row.own.lt _ e.symm).2; omega⟩
     have SQ:Hid (It w B r s #[] u9 (AK (AA i) ns (l.take k)).1 xs (AK (AA i) ns (l.take k)).2 (wr.alloc (.cells #[.string l[k].name,.slice a' l[k].args.length c'] 29))):=⟨aa.out.row.below BQ,aa.out.ex.alloc _,aa.out.res.alloc _,aa.out.out.alloc _,by have:=aa.out.sz; simp; omega,aa.out.nm.alloc _⟩
     have a7:Hid (Ea wr.heap.size l[k].name (.slice a' l[k].args.length c') (wr.alloc (.cells #[.string l[k].name,.slice a' l[k].args.length c'] 29))):=⟨(Ac.new wr _ _).cell 0,(Ac.new wr _ _).cell 1⟩
     have aS:Hid (Tb BT (wr.alloc (.cells #[.string l[k].name,.slice a' l[k].args.length c'] 29))):=HT.out.on (SQ.out.ex.below ax (λb hb=>by omega))
     clear hx BQ o0
     go_upto_region 7 with fail
     clear d0 d1 aa o1
     generalize (wr.alloc (.cells #[.string l[k].name,.slice a' l[k].args.length c'] 29))=wq at *
     generalize wr.heap.size=Q at *
     have aG:Hid (Calls Tryz.prog 82 #[.agg #[.string l[k].name,.slice a' l[k].args.length c'],.func (.func 55) #[] #[.pointer (some ⟨Bn,0,none⟩),.pointer (some ⟨Bi,0,none⟩)]] wq.drew λe w''=>∃a1 c1,e=.returned (.agg #[.string (AO (AA i) (AK (AA i) ns (l.take k)).2 l[k]).1.name,.slice a1 (AO (AA i) (AK (AA i) ns (l.take k)).2 l[k]).1.args.length c1])/\Sl w'' (λb=>wq.heap.size<=b) a1 (AO (AA i) (AK (AA i) ns (l.take k)).2 l[k]).1.args/\CW w'' B r (AO (AA i) (AK (AA i) ns (l.take k)).2 l[k]).2/\Al (λb=>b=r) wq w''):=(IH.out l[k] (AV hlt) _ _ wq.drew _ (aR.out.later ((Af wq.heap.size wq).drew)) (λb h=>HX.out b h.1.1) (SQ.out.nm.later ((Af wq.heap.size wq).drew)) ((HO.out.exq SQ.out.ex a8 aA).later ((Af wq.heap.size wq).drew)) (aS.out.on ((Af BT wq).drew)) (by omega) (Qh HE.out _ (AV hlt))).mono λe w'' hp=>by
       obtain⟨a1,c1,h1,h2,h3,h4⟩:=hp
       exact⟨a1,c1,h1,h2,h3,((Al.refl _ wq).drew).trans h4⟩
     generalize AO (AA i) (AK (AA i) ns (l.take k)).2 l[k]=y at *
     have aH:Hid (Ea Q l[k].name (.slice a' l[k].args.length c') wq.drew):=a7.out
     refine CU (S:=Ea Q l[k].name (.slice a' l[k].args.length c')) (by kernel_rfl) aH.out (λhHeld=>?_)
     refine tkz 0 ?_
     refine tkz 2 ?_ (hy:=by intro w' hSw;have e0:=hSw.1;have e1:=hSw.2;go_simp<;>with_reducible rfl)
     refine tkz 3 ?_
     have aW:wq.drew.cell? ⟨w.heap.size+2,1,none⟩=some u9:=SQ.out.out.cell 1
     refine DV (rs:=[1,4]) (by kernel_rfl) (by simp) ?_
     refine Cb rfl (λK hK=>?_) (Cb rfl (λK hK=>?_) DW)
     ·go_simp
      refine hK.out _ _ (by exact aH.out) (λhHeld=>?_)
      clear hK K
      try simp only[Act.put,sq]
      refine rdq 4 rfl λK hK=>?_
      go_simp
      go_at_call 82
      refine aG.out.mono ?_
      rintro e w5 ⟨a5,c5,rfl,hs5,ak,ao⟩
      obtain⟨g,cap,w3,hrun,S1,S2,S3,p5,p6,o3,of,ol,S4,af⟩:=Kg (t:=y.1) (c5:=c5) aj.out.1 aj.out.2 SQ.out ⟨ar.out.1,ar.out.2⟩ a7.out aF.out ao hs5 ak
      have ag:=Aa hrun
      have ah:=Aa af
      have au:=Aa S1
      have aq:=Aa S2
      have av:=Aa S3
      have aw:=Aa S4
      have O5:=Aa (And.intro p5 (And.intro o3 (And.intro of ol)))
      clear hrun af S1 S2 S3 S4 hs5 ak ao
      go_simp
      refine hK.out _ _ (by exact au.out) (λhHeld=>?_)
      clear hK K
      try simp only[Act.put,sq]
      refine rdq 5 rfl λK hK=>?_
      go_simp
      refine hK.out _ _ (by exact aq.out) (λhHeld=>?_)
      clear hK K
      try simp only[Act.put,sq]
      refine rdq 6 rfl λK hK=>?_
      refine FV rfl _ _ _ _ rfl rfl rfl ag.out ?_
      refine hK.out _ _ (by exact av.out) (λhHeld=>?_)
      clear hK K
      try simp only[Act.put,sq]
      refine tkz 7 ?_
      refine rdq 8 rfl λK hK=>?_
      go_simp
      refine hK.out _ _ (by exact aw.out) (λhHeld=>?_)
      clear hK K
      try simp only[Act.put,sq]
      refine dnq ?_
      clear o3 of ol p5 p6
      go_wp2_with fail
      go_roundw
      case rel=>exact⟨k+1,_,_,by omega,by go_num,by rw[a6.out]; exact ah.out⟩
      case measure=>simp[intOf]; omega
     ·go_simp
      go_at_call 82
      refine aG.out.mono ?_
      rintro e w5 ⟨a5,c5,rfl,hs5,ak,ao⟩
      obtain⟨g,cap,w3,hrun,S1,S2,S3,p5,p6,o3,of,ol,S4,af⟩:=Kg (t:=y.1) (c5:=c5) aj.out.1 aj.out.2 SQ.out ⟨ar.out.1,ar.out.2⟩ a7.out aF.out ao hs5 ak
      have ag:=Aa hrun
      have ah:=Aa af
      have au:=Aa S1
      have aq:=Aa S2
      have av:=Aa S3
      have aw:=Aa S4
      have O5:=Aa (And.intro p5 (And.intro o3 (And.intro of ol)))
      clear hrun af S1 S2 S3 S4 hs5 ak ao
      go_simp
      refine hK.out _ _ (by exact au.out) (λhHeld=>?_)
      clear hK K
      try simp only[Act.put,sq]
      refine DV (rs:=[1,5]) (by kernel_rfl) (by simp) ?_
      refine Cb rfl (λK hK=>?_) (Cb rfl (λK hK=>?_) DW)
      ·go_simp
       refine hK.out _ _ (by exact au.out) (λhHeld=>?_)
       clear hK K
       try simp only[Act.put,sq]
       refine rdq 5 rfl λK hK=>?_
       go_simp
       refine hK.out _ _ (by exact aq.out) (λhHeld=>?_)
       clear hK K
       try simp only[Act.put,sq]
       refine rdq 6 rfl λK hK=>?_
       refine FV rfl _ _ _ _ rfl rfl rfl ag.out ?_
       refine hK.out _ _ (by exact av.out) (λhHeld=>?_)
       clear hK K
       try simp only[Act.put,sq]
       refine tkz 7 ?_
       refine rdq 8 rfl λK hK=>?_
       go_simp
       refine hK.out _ _ (by exact aw.out) (λhHeld=>?_)
       clear hK K
       try simp only[Act.put,sq]
       refine dnq ?_
       clear o3 of ol p5 p6
       go_wp2_with fail
       go_roundw
       case rel=>exact⟨k+1,_,_,by omega,by go_num,by rw[a6.out]; exact ah.out⟩
       case measure=>simp[intOf]; omega
      ·go_simp
       refine hK.out _ _ (by exact aq.out) (λhHeld=>?_)
       clear hK K
       try simp only[Act.put,sq]
       refine rdq 1 rfl λK hK=>?_
       go_simp
       refine hK.out _ _ (by exact aq.out) (λhHeld=>?_)
       clear hK K
       try simp only[Act.put,sq]
       refine rdq 6 rfl λK hK=>?_
       refine FV rfl _ _ _ _ rfl rfl rfl ag.out ?_
       refine hK.out _ _ (by exact av.out) (λhHeld=>?_)
       clear hK K
       try simp only[Act.put,sq]
       refine tkz 7 ?_
       refine rdq 8 rfl λK hK=>?_
       go_simp
       refine hK.out _ _ (by exact aw.out) (λhHeld=>?_)
       clear hK K
       try simp only[Act.put,sq]
       refine dnq ?_
       clear o3 of ol p5 p6
       go_wp2_with fail
       go_roundw
       case rel=>exact⟨k+1,_,_,by omega,by go_num,by rw[a6.out]; exact ah.out⟩
       case measure=>simp[intOf]; omega
    ·have aX:¬((k:Int)<(l.length:Int)):=by omega
     have aT:l.take k=l:=AW (by omega)
     rw[aT]at aa
     obtain⟨ae,ce,rfl,hse⟩:=aa.out.row.sl
     have aU:=Aa hse
     clear hse
     have r0:=aa.out.res.c0
     have r1:=aa.out.res.c1
     have rf:=aa.out.res.frozen
     have az:w.heap.size+1<wr.heap.size:=aa.out.res.lt
     go_wp2_with fail
     refine Ap (v:=.agg #[.string s,.slice ae (AK (AA i) ns l).1.length ce]) (by simp[results,Tryz.results82,go_sem,AU,AG,r0,r1,az]) rfl ?_
     rw[HR.out]
     have aY:=aa.out.sz
     have aZ:=aj.out
     refine⟨ae,ce,rfl,(aU.out.kept λb hb=>?_).mono λb hb _=>?_,⟨(aa.out.nm.box.setOther _ _ (by omega)).setOther _ _ (by omega),?_,aa.out.nm.ne⟩,(aa.out.ex.setNew (by omega) _ _).setNew (by omega) _ _⟩
     ·have aI:b≠w.heap.size+1:=by
       rcases hb with h|h
       ·exact h.elim
       ·omega
      rw[Aq _ _ _ _ (by simpa using aI),Aq _ _ _ _ (by simpa using aI)]
     ·rcases hb with h|h
      ·exact h.elim
      ·omega
     ·refine aa.out.nm.map.kept ?_
      rw[Aq _ _ _ _ (by simp; omega),Aq _ _ _ _ (by simp; omega)]
end Go.Proofs.YtlkeafenklamjaaGreatDoor
