import Derived.Test.YtlkeafenklamjaaGreatDoorZCriticalSaysOwn
namespace Go.Proofs.YtlkeafenklamjaaGreatDoor
set_option linter.all false
set_option maxRecDepth 20000
set_option maxHeartbeats 8000000
open Go.RowKit
def fN (ls:List Bd) (s:ByteArray) (bs:List Tm):Tm:=if Ak s=true then (match Ar ls s with|some x=>x|none=>⟨s,bs⟩) else ⟨s,bs⟩
def fL (ls:List Bd):List Tm->List Tm
 | []=>[]
 | ⟨s,a⟩::r=>fN ls s (fL ls a)::fL ls r
def fT (ls:List Bd) (t:Tm):Tm:=fN ls t.name (fL ls t.args)
def EE (w:World) (B r:Nat) (X:Nat->Prop) (ls:List Bd) (L:List (ByteArray×Value)):Prop:=Ac w B #[.map (some r)] 96/\Bl w r L/\DF w X ls L
theorem EE.ex {w w':World} {B r F:Nat} {X:Nat->Prop} {ls:List Bd} {L:List (ByteArray×Value)} (h:EE w B r X ls L) (he:Ex F w w') (hB:B≠F) (hr:r≠F) (hX:∀b,X b->b≠F):EE w' B r X ls L:=
 ⟨h.1.ex he hB,h.2.1.kept (he.block r h.2.1.lt hr),h.2.2.imp λa l hs=>hs.ex he hX⟩
theorem EE.later {w w':World} {B r:Nat} {X:Nat->Prop} {ls:List Bd} {L:List (ByteArray×Value)} (h:EE w B r X ls L) (hb:Below w.heap.size w w'):EE w' B r X ls L:=
 ⟨h.1.below hb h.1.lt,h.2.1.below hb h.2.1.lt,h.2.2.imp λa l hs=>hs.later hb⟩
theorem OZ {w0 w1:World} (h:Below w0.drew.heap.size w0.drew w1):Below w0.heap.size w0 w1:=((Af w0.heap.size w0).drew).trans h
theorem O0 {w0 w1:World} {o:Obj} (h:Below (w0.alloc o).drew.heap.size (w0.alloc o).drew w1):Below w0.heap.size w0 w1:=(((Af w0.heap.size w0).alloc (Aj _) o).drew).trans (h.mono (by simp))
theorem O4 {w0 w1:World} {cs:Array Value} {T:Nat} (h:Below (w0.alloc (.cells cs T)).drew.heap.size (w0.alloc (.cells cs T)).drew w1):Ac w1 w0.heap.size cs T:=((Ac.new w0 cs T).drewN 1).below h (by simp)
theorem Jj {w W w9:World} {F:Nat} {sv:Value} {t:Tm} {n:Nat} {s':ByteArray} {a':Option Addr} {l' c':Nat} {m:Int} {v0 v1:Value} (hF:F<w.heap.size) (hW:w.heap.size+2<=W.heap.size) (h1:Ac w9 F #[.int .i64 m,sv] 120) (hx:Ex F w w9) (hy:Ab [t]<=n->m=(n:Int)-Ab [t]/\s'=t.name/\l'=t.args.length/\Sl w9 (λb=>W.heap.size<=b) a' t.args) (hn:n<Ab [t]->m=-1):
  FU w F sv t n (.returned (.agg #[.string s',.slice a' l' c'])) ((w9.setCell ⟨w.heap.size+1,0,none⟩ v0).setCell ⟨w.heap.size+1,1,none⟩ v1):=by
 refine⟨s',a',l',c',m,rfl,(h1.setOther _ _ (by omega)).setOther _ _ (by omega),(hx.setNew (by omega) _ _).setNew (by omega) _ _,λh=>?_,hn⟩
 obtain⟨e1,e2,e3,e4⟩:=hy h
 refine⟨e1,e2,e3,(e4.kept λb hb=>?_).mono λb hb _=>by omega⟩
 rw[Aq _ _ _ _ (by simp; omega),Aq _ _ _ _ (by simp; omega)]
theorem Ex.ofBelow {B:Nat} {w w':World} (h:Below w.heap.size w w'):Ex B w w':=⟨h.os,h.tape,h.output,h.size,λk hk _=>h.block k hk⟩
theorem Gq {w:World} {F T b:Nat} {u v x:Value} {i j k:Nat} (h:w.cell? ⟨F,i,none⟩=some u/\w.cell? ⟨T,j,none⟩=some v) (h1:b≠F) (h2:b≠T):(w.setCell ⟨b,k,none⟩ x).cell? ⟨F,i,none⟩=some u/\(w.setCell ⟨b,k,none⟩ x).cell? ⟨T,j,none⟩=some v:=
 ⟨(AG _ _ _ _ (λe=>h1 (by injection e))).trans h.1,(AG _ _ _ _ (λe=>h2 (by injection e))).trans h.2⟩
theorem O6 (F B r:Nat) (ls:List Bd) (L:List (ByteArray×Value)) (t:Tm) (n:Nat) (a:Option Addr) (c:Nat) (w:World) (X:Nat->Prop) (hn:n<=1000000) (az:∀b,X b->b≠F) (aA:B≠F) (aB:r≠F) (hs:Sl w X a t.args) (hF:Ac w F #[.int .i64 (n:Int),.func (.func 86) #[] #[.pointer (some ⟨B,0,none⟩)]] 120) (hE:EE w B r X ls L)
  (h:∀w',Sl w' X a t.args->Ac w' F #[.int .i64 (n:Int),.func (.func 86) #[] #[.pointer (some ⟨B,0,none⟩)]] 120->EE w' B r X ls L->Calls Tryz.prog 102 #[.pointer (some ⟨F,0,none⟩),.agg #[.string t.name,.slice a t.args.length c],.func (.func 87) #[.pointer (some ⟨F,0,none⟩)] #[]] w' λe w''=>FU w' F (.func (.func 86) #[] #[.pointer (some ⟨B,0,none⟩)]) ⟨t.name,fL ls t.args⟩ n e w''):
  Calls Tryz.prog 87 #[.pointer (some ⟨F,0,none⟩),.agg #[.string t.name,.slice a t.args.length c]] w λe w'=>FU w F (.func (.func 86) #[] #[.pointer (some ⟨B,0,none⟩)]) (fT ls t) n e w':=by
 have aC:=@hmq Tryz.prog
 have H:=Aa h
 have HS:=Aa hs
 have HF:=Aa hF
 have HE:=Aa hE
 have aD:F<w.heap.size:=hF.lt
 clear h hs hF hE
 have ar:=Aa (((Af w.heap.size w).alloc (Aj _) (.cells #[.string t.name,.slice a t.args.length c] 29)).alloc (by simp) (.cells #[.string ⟨#[]⟩,.slice none 0 0] 29))
 have f1:∀o o',((w.alloc o).alloc o').cell? ⟨F,1,none⟩=some (.func (.func 86) #[] #[.pointer (some ⟨B,0,none⟩)]):=λo o'=>((HF.out.alloc o).alloc o').cell 1
 cases hv:Ak t.name with
 |false=>
  have HV:=Aa hv
  have HT:Hid (fT ls t=⟨t.name,fL ls t.args⟩):=by unfold Hid fT fN; rw[hv]; rfl
  clear hv
  go_enter Tryz.func87,Tryz.ntmps87
  go_wp2_with (go_at_call 49; refine(Cz _ _).mono ?_; rintro e w' ⟨rfl,rfl⟩; rw[HV.out])
  have RW:Hid (Ac ((w.alloc (.cells #[.string t.name,.slice a t.args.length c] 29)).alloc (.cells #[.string ⟨#[]⟩,.slice none 0 0] 29)) (w.heap.size+1) #[.string ⟨#[]⟩,.slice none 0 0] 29):=by
   have h:=Ac.new (w.alloc (.cells #[.string t.name,.slice a t.args.length c] 29)) #[.string ⟨#[]⟩,.slice none 0 0] 29
   unfold Hid
   simpa using h
  have ao:=Aa (((Ex.refl F w).alloc (.cells #[.string t.name,.slice a t.args.length c] 29)).alloc (.cells #[.string ⟨#[]⟩,.slice none 0 0] 29))
  have hW2:Hid (w.heap.size+2<=((w.alloc (.cells #[.string t.name,.slice a t.args.length c] 29)).alloc (.cells #[.string ⟨#[]⟩,.slice none 0 0] 29)).heap.size):=by unfold Hid; simp
  refine(H.out _ (HS.out.later ar.out) (by exact(HF.out.alloc _).alloc _) (HE.out.later ar.out)).mono ?_
  rintro e w9 ⟨s',a',l',c',m,rfl,af,hx1,ag,ah⟩
  have R9:=Aa (RW.out.ex hx1 (by omega))
  have aj:=Aa (ao.out.trans hx1)
  have ak:=Aa af
  have HY:=Aa ag
  have HN:=Aa ah
  have av:=Aa (ao.out.size)
  clear af hx1 ag ah
  have r0:=R9.out.c0
  have r1:=R9.out.c1
  have rf:=R9.out.frozen
  go_wp2_with fail
  refine Ap (v:=.agg #[.string s',.slice a' l' c']) (by simp[results,Tryz.results87,go_sem,AU,AG,r0,r1]) rfl ?_
  rw[HT.out]
  exact Jj (by omega) hW2.out ak.out aj.out HY.out HN.out
 |true=>
  have HV:=Aa hv
  clear hv
  have RW:Hid (Ac ((w.alloc (.cells #[.string t.name,.slice a t.args.length c] 29)).alloc (.cells #[.string ⟨#[]⟩,.slice none 0 0] 29)) (w.heap.size+1) #[.string ⟨#[]⟩,.slice none 0 0] 29):=by
   have h:=Ac.new (w.alloc (.cells #[.string t.name,.slice a t.args.length c] 29)) #[.string ⟨#[]⟩,.slice none 0 0] 29
   unfold Hid
   simpa using h
  have ao:=Aa (((Ex.refl F w).alloc (.cells #[.string t.name,.slice a t.args.length c] 29)).alloc (.cells #[.string ⟨#[]⟩,.slice none 0 0] 29))
  have hW2:Hid (w.heap.size+2<=((w.alloc (.cells #[.string t.name,.slice a t.args.length c] 29)).alloc (.cells #[.string ⟨#[]⟩,.slice none 0 0] 29)).heap.size):=by unfold Hid; simp
  have E0:=Aa (HE.out.later ar.out)
  have F0:=Aa ((HF.out.alloc (.cells #[.string t.name,.slice a t.args.length c] 29)).alloc (.cells #[.string ⟨#[]⟩,.slice none 0 0] 29))
  have S0:=Aa (HS.out.later ar.out)
  have T0:=Aa ((Ac.new w #[.string t.name,.slice a t.args.length c] 29).alloc (.cells #[.string ⟨#[]⟩,.slice none 0 0] 29))
  have g1:=F0.out.cell 1
  have g0:=T0.out.cell 0
  simp only[JQ,Lt,JR] at g1 g0
  cases hf:Ar ls t.name with
  |some x=>
   have HT:Hid (fT ls t=x):=by unfold Hid fT fN; rw[HV.out,hf]; rfl
   have aw:Hid (∀w',Below ((w.alloc (.cells #[.string t.name,.slice a t.args.length c] 29)).alloc (.cells #[.string ⟨#[]⟩,.slice none 0 0] 29)).heap.size ((w.alloc (.cells #[.string t.name,.slice a t.args.length c] 29)).alloc (.cells #[.string ⟨#[]⟩,.slice none 0 0] 29)) w'->Calls Tryz.prog 86 #[.string t.name,.pointer (some ⟨B,0,none⟩)] w' λe w''=>∃ax cx,e=.returned (.tuple #[.agg #[.string x.name,.slice ax x.args.length cx],.bool true])/\Below w'.heap.size w' w''/\Sl w'' (λb=>X b/\b<w.heap.size) ax x.args):=λw' hb=>by
    have E1:EE w B r (λb=>X b/\b<w.heap.size) ls L:=⟨HE.out.1,HE.out.2.1,HE.out.2.2.imp λa l hs=>hs.mono λb h1 h2=>⟨h1,h2⟩⟩
    obtain⟨h1,h2,h3⟩:=(E1.later ar.out).later hb
    refine(N9 ls t.name B r L w' _ h1 h2 h3).mono λe w'' hp=>?_
    obtain⟨hb2,hc⟩:=hp
    rcases hc with ⟨y,ay,cy,hy,he,a8⟩|⟨hy,_⟩
    ·rw[hf]at hy; cases hy; exact⟨ay,cy,he,hb2,a8.later hb2⟩
    ·rw[hf]at hy; cases hy
   have au:Hid (∀w',Below ((w.alloc (.cells #[.string t.name,.slice a t.args.length c] 29)).alloc (.cells #[.string ⟨#[]⟩,.slice none 0 0] 29)).heap.size ((w.alloc (.cells #[.string t.name,.slice a t.args.length c] 29)).alloc (.cells #[.string ⟨#[]⟩,.slice none 0 0] 29)) w'->w'.cell? ⟨F,1,none⟩=some (.func (.func 86) #[] #[.pointer (some ⟨B,0,none⟩)])/\w'.cell? ⟨w.heap.size,0,none⟩=some (.string t.name)):=λw' hb=>⟨(F0.out.below hb F0.out.lt).cell 1,(T0.out.below hb T0.out.lt).cell 0⟩
   have nF:((w.alloc (.cells #[.string t.name,.slice a t.args.length c] 29)).alloc (.cells #[.string ⟨#[]⟩,.slice none 0 0] 29)).heap.size≠F:=by have:=hW2.out; omega
   have nT:((w.alloc (.cells #[.string t.name,.slice a t.args.length c] 29)).alloc (.cells #[.string ⟨#[]⟩,.slice none 0 0] 29)).heap.size≠w.heap.size:=by have:=hW2.out; omega
   clear hf f1
   go_enter Tryz.func87,Tryz.ntmps87
   go_wp2_with (go_at_call 49; refine(Cz _ _).mono ?_; rintro e w' ⟨rfl,rfl⟩; rw[HV.out])
   generalize ((w.alloc (.cells #[.string t.name,.slice a t.args.length c] 29)).alloc (.cells #[.string ⟨#[]⟩,.slice none 0 0] 29))=w0 at *
   go_region_held3 (λw'=>w'.cell? ⟨F,1,none⟩=some (.func (.func 86) #[] #[.pointer (some ⟨B,0,none⟩)])/\w'.cell? ⟨w.heap.size,0,none⟩=some (.string t.name)) (first|exact hS|exact⟨g1,g0⟩|exact Gq hS nF nT|exact Gq (Gq hS nF nT) nF nT|go_keep)
    ((go_at_call 86; refine(aw.out _ (by first|exact(Af _ _).drew|exact((Af _ _).alloc (Aj _) _).drew)).mono ?_; rintro e w1 ⟨ax,cx,rfl,hb1,a6⟩; have a7:=Aa a6; clear a6; (first|(have ai:=OZ hb1; have hS:=au.out _ ai)|(have ai:=O0 hb1; have xb:=Aa (O4 hb1); have x0:=xb.out.cell 0; have x1:=xb.out.cell 1; have xf:=xb.out.frozen; have hS:=au.out _ ai))))
   ·generalize hz:(w1.alloc (Obj.cells #[Value.string x.name,Value.slice ax x.args.length cx] 29))=wz at *
    have aa:Below w0.heap.size w0 wz:=by rw[<-hz]; exact ai.alloc ai.size _
    have av:Hid (Sl wz (λb=>X b/\b<w.heap.size) ax x.args):=by rw[<-hz]; exact a7.out.later ((Af _ _).alloc (Aj _) _)
    have q0:wz.cell? ⟨w1.heap.size,0,none⟩=some (.string x.name):=by rw[<-hz]; exact(Ac.new w1 _ _).cell 0
    have q1:wz.cell? ⟨w1.heap.size,1,none⟩=some (.slice ax x.args.length cx):=by rw[<-hz]; exact(Ac.new w1 _ _).cell 1
    have aq:Hid (w.heap.size+2<=wz.heap.size):=AX hW2.out aa.size
    have ae:=Aa aa
    clear aa hz
    go_wp2_with fail
    refine(J8 F _ x n _ wz (λb=>X b/\b<w.heap.size) ⟨ax,cx,rfl,av.out⟩ (λb hb=>az b hb.1) hn (F0.out.below ae.out F0.out.lt)).mono ?_
    rintro e w9 ⟨s',a',l',c',m,rfl,af,hx1,ag,ah⟩
    have R9:=Aa ((RW.out.below ae.out RW.out.lt).ex hx1 (by omega))
    have aj:=Aa ((ao.out.trans (Ex.ofBelow ae.out)).trans hx1)
    have ak:=Aa af
    have HY:=Aa ag
    have HN:=Aa ah
    clear af hx1 ag ah
    have r0:=R9.out.c0
    have r1:=R9.out.c1
    have rf:=R9.out.frozen
    go_wp2_with fail
    refine Ap (v:=.agg #[.string s',.slice a' l' c']) (by simp[results,Tryz.results87,go_sem,AU,AG,r0,r1]) rfl ?_
    rw[HT.out]
    exact Jj (by omega) aq.out ak.out aj.out HY.out HN.out
   ·generalize hz:((w1.setCell { block:=w0.heap.size,off:=0} (Value.string x.name)).setCell { block:=w0.heap.size,off:=1} (Value.slice ax x.args.length cx))=wz at *
    have aa:Below w0.heap.size w0 wz:=by rw[<-hz]; exact(ai.setCell (Aj _) _).setCell (Aj _) _
    have av:Hid (Sl wz (λb=>X b/\b<w.heap.size) ax x.args):=by
     rw[<-hz]
     refine a7.out.kept λb hb=>?_
     have hb2:=hb.2
     have hb3:=hW2.out
     rw[Aq _ _ _ _ (by simp; omega),Aq _ _ _ _ (by simp; omega)]
    have q0:wz.cell? ⟨w0.heap.size,0,none⟩=some (.string x.name):=by rw[<-hz]; simp[AU,AG,x0,x1]
    have q1:wz.cell? ⟨w0.heap.size,1,none⟩=some (.slice ax x.args.length cx):=by rw[<-hz]; simp[AU,AG,x0,x1]
    have aq:Hid (w.heap.size+2<=wz.heap.size):=AX hW2.out aa.size
    have ae:=Aa aa
    clear aa hz
    go_wp2_with fail
    refine(J8 F _ x n _ wz (λb=>X b/\b<w.heap.size) ⟨ax,cx,rfl,av.out⟩ (λb hb=>az b hb.1) hn (F0.out.below ae.out F0.out.lt)).mono ?_
    rintro e w9 ⟨s',a',l',c',m,rfl,af,hx1,ag,ah⟩
    have R9:=Aa ((RW.out.below ae.out RW.out.lt).ex hx1 (by omega))
    have aj:=Aa ((ao.out.trans (Ex.ofBelow ae.out)).trans hx1)
    have ak:=Aa af
    have HY:=Aa ag
    have HN:=Aa ah
    clear af hx1 ag ah
    have r0:=R9.out.c0
    have r1:=R9.out.c1
    have rf:=R9.out.frozen
    go_wp2_with fail
    refine Ap (v:=.agg #[.string s',.slice a' l' c']) (by simp[results,Tryz.results87,go_sem,AU,AG,r0,r1]) rfl ?_
    rw[HT.out]
    exact Jj (by omega) aq.out ak.out aj.out HY.out HN.out
  |none=>
   have HT:Hid (fT ls t=⟨t.name,fL ls t.args⟩):=by unfold Hid fT fN; rw[HV.out,hf]; rfl
   have aw:Hid (∀w',Below ((w.alloc (.cells #[.string t.name,.slice a t.args.length c] 29)).alloc (.cells #[.string ⟨#[]⟩,.slice none 0 0] 29)).heap.size ((w.alloc (.cells #[.string t.name,.slice a t.args.length c] 29)).alloc (.cells #[.string ⟨#[]⟩,.slice none 0 0] 29)) w'->Calls Tryz.prog 86 #[.string t.name,.pointer (some ⟨B,0,none⟩)] w' λe w''=>e=.returned (.tuple #[.agg #[.string ⟨#[]⟩,.slice none 0 0],.bool false])/\Below w'.heap.size w' w''):=λw' hb=>by
    obtain⟨h1,h2,h3⟩:=E0.out.later hb
    refine(N9 ls t.name B r L w' X h1 h2 h3).mono λe w'' hp=>?_
    obtain⟨hb2,hc⟩:=hp
    rcases hc with ⟨x,_,_,hx,_⟩|⟨_,he⟩
    ·rw[hf]at hx; cases hx
    ·exact⟨he,hb2⟩
   have au:Hid (∀w',Below ((w.alloc (.cells #[.string t.name,.slice a t.args.length c] 29)).alloc (.cells #[.string ⟨#[]⟩,.slice none 0 0] 29)).heap.size ((w.alloc (.cells #[.string t.name,.slice a t.args.length c] 29)).alloc (.cells #[.string ⟨#[]⟩,.slice none 0 0] 29)) w'->w'.cell? ⟨F,1,none⟩=some (.func (.func 86) #[] #[.pointer (some ⟨B,0,none⟩)])/\w'.cell? ⟨w.heap.size,0,none⟩=some (.string t.name)):=λw' hb=>⟨(F0.out.below hb F0.out.lt).cell 1,(T0.out.below hb T0.out.lt).cell 0⟩
   have nF:((w.alloc (.cells #[.string t.name,.slice a t.args.length c] 29)).alloc (.cells #[.string ⟨#[]⟩,.slice none 0 0] 29)).heap.size≠F:=by have:=hW2.out; omega
   have nT:((w.alloc (.cells #[.string t.name,.slice a t.args.length c] 29)).alloc (.cells #[.string ⟨#[]⟩,.slice none 0 0] 29)).heap.size≠w.heap.size:=by have:=hW2.out; omega
   clear hf f1
   go_enter Tryz.func87,Tryz.ntmps87
   go_wp2_with (go_at_call 49; refine(Cz _ _).mono ?_; rintro e w' ⟨rfl,rfl⟩; rw[HV.out])
   generalize ((w.alloc (.cells #[.string t.name,.slice a t.args.length c] 29)).alloc (.cells #[.string ⟨#[]⟩,.slice none 0 0] 29))=w0 at *
   go_region_held3 (λw'=>w'.cell? ⟨F,1,none⟩=some (.func (.func 86) #[] #[.pointer (some ⟨B,0,none⟩)])/\w'.cell? ⟨w.heap.size,0,none⟩=some (.string t.name)) (first|exact hS|exact⟨g1,g0⟩|exact Gq hS nF nT|exact Gq (Gq hS nF nT) nF nT|go_keep)
    ((go_at_call 86; refine(aw.out _ (by first|exact(Af _ _).drew|exact((Af _ _).alloc (Aj _) _).drew)).mono ?_; rintro e w1 ⟨rfl,hb1⟩; (first|(have ai:=OZ hb1; have hS:=au.out _ ai)|(have ai:=O0 hb1; have xb:=Aa (O4 hb1); have x0:=xb.out.cell 0; have x1:=xb.out.cell 1; have xf:=xb.out.frozen; have hS:=au.out _ ai))))
   ·generalize hz:(w1.alloc (Obj.cells #[Value.string { data:=#[]},Value.slice none 0 0] 29))=wz at *
    have aa:Below w0.heap.size w0 wz:=by rw[<-hz]; exact ai.alloc ai.size _
    have t0:wz.cell? ⟨w.heap.size,0,none⟩=some (.string t.name):=(T0.out.below aa T0.out.lt).cell 0
    have t1:wz.cell? ⟨w.heap.size,1,none⟩=some (.slice a t.args.length c):=(T0.out.below aa T0.out.lt).cell 1
    have aq:Hid (w.heap.size+2<=wz.heap.size):=AX hW2.out aa.size
    have ae:=Aa aa
    clear aa
    go_wp2_with fail
    refine(H.out _ (S0.out.later ae.out) (F0.out.below ae.out F0.out.lt) (E0.out.later ae.out)).mono ?_
    rintro e w9 ⟨s',a',l',c',m,rfl,af,hx1,ag,ah⟩
    have R9:=Aa ((RW.out.below ae.out RW.out.lt).ex hx1 (by omega))
    have aj:=Aa ((ao.out.trans (Ex.ofBelow ae.out)).trans hx1)
    have ak:=Aa af
    have HY:=Aa ag
    have HN:=Aa ah
    clear af hx1 ag ah
    have r0:=R9.out.c0
    have r1:=R9.out.c1
    have rf:=R9.out.frozen
    go_wp2_with fail
    refine Ap (v:=.agg #[.string s',.slice a' l' c']) (by simp[results,Tryz.results87,go_sem,AU,AG,r0,r1]) rfl ?_
    rw[HT.out]
    exact Jj (by omega) aq.out ak.out aj.out HY.out HN.out
   ·generalize hz:((w1.setCell { block:=w0.heap.size,off:=0} (Value.string { data:=#[]})).setCell { block:=w0.heap.size,off:=1} (Value.slice none 0 0))=wz at *
    have aa:Below w0.heap.size w0 wz:=by rw[<-hz]; exact(ai.setCell (Aj _) _).setCell (Aj _) _
    have t0:wz.cell? ⟨w.heap.size,0,none⟩=some (.string t.name):=(T0.out.below aa T0.out.lt).cell 0
    have t1:wz.cell? ⟨w.heap.size,1,none⟩=some (.slice a t.args.length c):=(T0.out.below aa T0.out.lt).cell 1
    have aq:Hid (w.heap.size+2<=wz.heap.size):=AX hW2.out aa.size
    have ae:=Aa aa
    clear aa
    go_wp2_with fail
    refine(H.out _ (S0.out.later ae.out) (F0.out.below ae.out F0.out.lt) (E0.out.later ae.out)).mono ?_
    rintro e w9 ⟨s',a',l',c',m,rfl,af,hx1,ag,ah⟩
    have R9:=Aa ((RW.out.below ae.out RW.out.lt).ex hx1 (by omega))
    have aj:=Aa ((ao.out.trans (Ex.ofBelow ae.out)).trans hx1)
    have ak:=Aa af
    have HY:=Aa ag
    have HN:=Aa ah
    clear af hx1 ag ah
    have r0:=R9.out.c0
    have r1:=R9.out.c1
    have rf:=R9.out.frozen
    go_wp2_with fail
    refine Ap (v:=.agg #[.string s',.slice a' l' c']) (by simp[results,Tryz.results87,go_sem,AU,AG,r0,r1]) rfl ?_
    rw[HT.out]
    exact Jj (by omega) aq.out ak.out aj.out HY.out HN.out
end Go.Proofs.YtlkeafenklamjaaGreatDoor
