import Derived.Test.YtlkeafenklamjaaGreatDoorZECriticalSaysOwn
import Derived.Deep.LoopGhost
namespace Go.Proofs.YtlkeafenklamjaaGreatDoor
set_option linter.all false
set_option maxRecDepth 20000
set_option maxHeartbeats 8000000
open Go.RowKit
def RQ (X:Nat->Prop) (t:Tm) (s1:ByteArray) (a1:Option Addr) (n1 c1:Nat) (okb:Bool) (w w':World):Prop:=
 (okb=false/\2000<Ab [t])∨(okb=true/\Ab [t]<=2000/\s1=t.name/\n1=t.args.length/\Sl w' (λb=>(X b/\b<w.heap.size)∨w.heap.size<=b) a1 t.args)
theorem G2 (X:Nat->Prop) (ls:List Bd) (t:Tm) (u:Value) (a:Option Addr) (c:Nat) (w:World) (hu:BV w X u ls) (hs:Sl w X a t.args) (hsm:Ab [t]<=1000000):
  Calls Tryz.prog 29 #[u,.agg #[.string t.name,.slice a t.args.length c]] w λe w'=>∃s1 a1 n1 c1 aa,e=.returned (.tuple #[.agg #[.string s1,.slice a1 n1 c1],.bool aa])/\Below w.heap.size w w'/\RQ X (Ag ls t) s1 a1 n1 c1 aa w w':=by
 refine(PG ls t u _ w X hu ⟨a,c,rfl,hs⟩ hsm).mono ?_
 rintro e w1 ⟨hb1,⟨h1,rfl⟩|⟨h1,a1,c1,rfl,hs1⟩⟩
 ·exact⟨_,_,_,_,_,rfl,hb1,Ad ⟨rfl,h1⟩⟩
 ·exact⟨_,_,_,_,_,rfl,hb1,Ae ⟨rfl,h1,rfl,rfl,hs1⟩⟩
def Zw (w:World) (R:Int×List Bd) (e:Ending) (w':World):Prop:=
 Below w.heap.size w w'/\((R.1=0/\∃v,e=.returned (.tuple #[v,.int .i64 0])/\BV w' (λ_=>True) v R.2)∨(R.1≠0/\e=.returned (.tuple #[.slice none 0 0,.int .i64 R.1])))
def Zx (V:List ByteArray) (w:World) (R:Int×List Bd) (g:Nat) (sv lv:Value) (wr:World):Prop:=
 ∃(h:List (ByteArray×Tm)) (l:List Pr),UI V h l/\AD (Ai h)=false/\AQ true g (Ai h) l=some R/\BV wr (λ_=>True) sv (Ai h)/\QV wr (λ_=>True) lv l/\Below w.heap.size w wr
theorem Zy {lim:Bool} {g:Nat} {s:List Bd} {p:Pr} {l:List Pr} {R:Int×List Bd} (h:AQ lim g s (p::l)=some R):∃g',g=g'+1/\((∃e s',Bf lim s l (Ag s p.l) (Ag s p.r)=.stop e s'/\R=(e,s'))∨∃s' l',Bf lim s l (Ag s p.l) (Ag s p.r)=.go s' l'/\AQ lim g' s' l'=some R):=by
 cases g with
 |zero=>cases h
 |succ g=>
  refine⟨g,rfl,?_⟩
  rw[AQ,ES]at h
  cases hn:Bf lim s l (Ag s p.l) (Ag s p.r) with
  |stop e s'=>rw[hn] at h; cases h; exact Ad ⟨e,s',rfl,rfl⟩
  |go s' l'=>rw[hn] at h; exact Ae ⟨s',l',rfl,h⟩
theorem Zz {lim:Bool} {g:Nat} {s:List Bd} {p:Pr} {l:List Pr} {R:Int×List Bd} {a b:Tm} (h:AQ lim g s (p::l)=some R) (ha:Ag s p.l=a) (hb:Ag s p.r=b):∃g',g=g'+1/\((∃e s',Bf lim s l a b=.stop e s'/\R=(e,s'))∨∃s' l',Bf lim s l a b=.go s' l'/\AQ lim g' s' l'=some R):=by
 subst ha; subst hb; exact Zy h
theorem RR {s:List Bd} (h:AD s=false) {d:Bd} (hd:d∈s):Ab [d.t]<=2000:=by
 unfold AD at h
 rw[List.any_eq_false]at h
 have:=h d hd
 simp at this
 exact this
theorem M3:∀ {a b:List Tm},a.length=b.length->(Ax a b).length=a.length
 | [],[],_=>rfl
 | [],_::_,h=>by simp at h
 |_::_,[],h=>by simp at h
 |t::a,u::b,h=>by rw[Ax,Bs,M3 (by simpa using h),Bs]
theorem RT:∀ {a b:List Tm} (k:Nat) (h1:k<a.length) (h2:k<b.length) {h3:k<(Ax a b).length},(Ax a b)[k]=⟨a[k],b[k]⟩
 | [],_,k,h,_,_=>by simp at h
 |_::_,[],k,_,h,_=>by simp at h
 |t::a,u::b,0,_,_,_=>rfl
 |t::a,u::b,k+1,h1,h2,h3=>by
  have:=RT (a:=a) (b:=b) k (by simpa using h1) (by simpa using h2) (h3:=by simpa [Ax] using h3)
  simpa [Ax] using this
def KZ (A B b1 b2 p1 p2 o1 o2 n1 n2:Nat) (tA tB:Tm) (y1 y2:Option Addr) (k1 k2 d1 d2:Nat) (w':World):Prop:=
 w'.cell? ⟨A,1,none⟩=some (.slice (some ⟨b1,o1,none⟩) n1 k1)/\w'.cell? ⟨b1,p1,none⟩=some (.string tA.name)/\w'.cell? ⟨b1,p1+1,none⟩=some (.slice y1 tA.args.length d1)/\w'.cell? ⟨B,1,none⟩=some (.slice (some ⟨b2,o2,none⟩) n2 k2)/\w'.cell? ⟨b2,p2,none⟩=some (.string tB.name)/\w'.cell? ⟨b2,p2+1,none⟩=some (.slice y2 tB.args.length d2)
def ZA (w4:World) (lA lB:List Tm) (u i:Value) (wq:World):Prop:=
 ∃(k:Nat) (cs:List Pc),i=.int .i64 (k:Int)/\k<=lA.length/\Cx wq w4.heap.size (λb=>b<w4.heap.size) u cs/\cs.map (·.1)=(Ax lA lB).take k/\Below w4.heap.size w4 wq
theorem ZB {a b:Value} {l k:List Value} (h:a=b) (h2:l=k):a::l=b::k:=by rw[h,h2]
theorem RU:∀h:List (ByteArray×Tm),(Ai h).length=h.length:=λh=>by
 obtain⟨k,hk⟩:∃k:List (ByteArray×Tm),k.reverse=h:=⟨h.reverse,List.reverse_reverse h⟩
 subst hk
 induction k with
 |nil=>simp[Ai]
 |cons p r ih=>
  rw[List.reverse_cons,Fl]
  unfold Cv
  rw[(EC _).length_eq]
  simp[ih]
theorem RV {w:World} {B:Nat} {n:ByteArray} {t:Tm} {a:Option Addr} {c T:Nat} (h:Ac w B #[.string n,.string t.name,.slice a t.args.length c] T) (hs:Sl w (λ_=>True) a t.args):BV w (λ_=>True) (.slice (some ⟨B,0,none⟩) 1 1) [⟨n,t⟩]:=by
 refine⟨some ⟨B,0,none⟩,1,rfl,by simp,Ae ⟨B,0,rfl,trivial,λi hi=>?_⟩⟩
 have e:i=0:=by simp at hi; omega
 subst e
 exact⟨h.cell 0,h.cell 1,a,c,h.cell 2,hs⟩
def RX (w7:World) (s:List Bd) (x:ByteArray) (t:Tm) (u i:Value) (wq:World):Prop:=
 ∃(k:Nat) (cs:List Bc),i=.int .i64 (k:Int)/\k<=s.length/\Bh wq w7.heap.size (λb=>b<w7.heap.size) u cs/\cs.map (·.1)=(s.take k).map (Bo x t)/\(∀d∈s.take k,Ab [Ag [⟨x,t⟩] d.t]<=2000)/\Below w7.heap.size w7 wq
theorem ZC (V:List ByteArray) (hV:V.length<=400000) (R:Int×List Bd) (N:Nat) (l0:List Pr) (v:Value) (w:World) (X:Nat->Prop) (hv:QV w X v l0) (hU:UI V [] l0) (hR:AQ true N [] l0=some R):
  Calls Tryz.prog 28 #[v] w λe w'=>Zw w R e w':=by
 have HV:=Aa (hv.mono (Y:=λ_=>True) λ_ _ _=>trivial)
 have HR:=Aa hR
 have HU:=Aa hU
 clear hR hv hU
 go_enter Tryz.func28,Tryz.ntmps28
 go_wp2_with fail
 go_loopg [4,0] N (λg s l wr=>Zx V w R g s l wr)
 case atStart=>exact⟨[],l0,HU.out,by simp[Ai,AD],HR.out,⟨none,0,rfl,by simp[Ai],Ad rfl⟩,HV.out,Af _ _⟩
 case round=>
  obtain⟨h,l,hU,cH,hR,cI,cJ,hb⟩:=hrel
  clear HR HU HV
  have HU:=Aa hU
  have cc:=Aa cH
  have HR:=Aa hR
  have aX:=Aa cI
  have cK:=Aa cJ
  have HB:=Aa hb
  obtain⟨qa,qc,rfl,cL,cT⟩:=cJ
  clear hR cI hb cT hU cH
  cases l with
  |nil=>
   have ah:Hid (R=(0,Ai h)):=by
    have h1:=HR.out
    cases gk with
    |zero=>cases h1
    |succ gk=>rw[AQ] at h1; simp[Em] at h1; exact h1.symm
   go_wp2_with fail
   refine Ap (v:=.tuple #[u4,.int .i64 0]) (by simp[results,Tryz.results28,go_sem]) rfl ?_
   exact⟨HB.out,Ad ⟨by rw[ah.out],u4,rfl,by rw[ah.out]; exact aX.out⟩⟩
  |cons p l=>
   have hz:=HU.out.size p (by simp)
   obtain⟨b,o,a1,c1,a2,c2,rfl,d0,d1,d2,d3,hs1,hs2⟩:=cK.out.get 0 (by simp)
   simp only[Et,Nat.zero_mul,FL,Bs] at d0 d1 d2 d3 hs1 hs2 cL
   obtain⟨cU,cp⟩:=cL
   have dI:b<wr.heap.size:=D9 d0
   have cV:=Aa hs2
   obtain⟨ta,cd⟩:∃ta,Ag (Ai h) p.l=ta:=⟨_,rfl⟩
   obtain⟨tb,cq⟩:∃tb,Ag (Ai h) p.r=tb:=⟨_,rfl⟩
   have b6:=Aa cd
   have b4:=Aa cq
   have OA:=G2 (λ_=>True) (Ai h) p.l u4 a1 c1 wr aX.out hs1 (by omega)
   rw[cd]at OA
   obtain⟨g1,cM,hrun⟩:=Zz HR.out cd cq
   have cf:=Aa cM
   have ak:=Aa hrun
   have cW:Hid (Ab [p.r]<=1000000):=by unfold Hid; omega
   clear hs1 hs2 cd cq cM hrun HR hz
   go_wp2_with fail
   refine OA.mono ?_
   rintro e w1 ⟨s1,x1,n1,k1,dJ,rfl,hb1,cX⟩
   have b7:=Aa hb1
   have dK:wr.heap.size<=w1.heap.size:=hb1.size
   have cY:∀o',(w1.alloc o').cell? ⟨b,o+2,none⟩=some (.string p.r.name):=λo'=>cell_later (hb1.alloc hb1.size o') d2
   have cZ:∀o',(w1.alloc o').cell? ⟨b,o+2+1,none⟩=some (.slice a2 p.r.args.length c2):=λo'=>cell_later (hb1.alloc hb1.size o') d3
   clear hb1 d0 d1 d2 d3 OA
   rcases cX with ⟨rfl,hg⟩|⟨rfl,hg,rfl,rfl,hx1⟩
   ·have ah:Hid (R=(8,Ai h)):=by
     have e:Bf true (Ai h) l ta tb=.stop 8 (Ai h):=by unfold Bf; rw[As (Ad hg)]
     rcases ak.out with ⟨e1,s',e2,e3⟩|⟨s',l',e2,_⟩
     ·rw[e]at e2; cases e2; exact e3
     ·rw[e]at e2; cases e2
    clear hg
    go_wp2_with fail
    refine Ap (v:=.tuple #[.slice none 0 0,.int .i64 8]) (by simp[results,Tryz.results28,go_sem]) rfl ?_
    exact⟨(HB.out.trans (b7.out.mono HB.out.size)).alloc (AX HB.out.size b7.out.size) _,Ae ⟨by rw[ah.out]; exact(by decide:(8:Int)≠0),by rw[ah.out]⟩⟩
   ·have aY:=Aa hg
    have cN:=Aa (hx1.mono (Y:=λb=>b<w1.heap.size) λ_ _ h=>h)
    have BA:=Aa (Ac.new w1 #[.string ta.name,.slice x1 ta.args.length k1] 29)
    have aG:=Aa (b7.out.alloc b7.out.size (.cells #[.string ta.name,.slice x1 ta.args.length k1] 29))
    have b8:=Aa (cN.out.later ((Af _ _).alloc (Aj _) (.cells #[.string ta.name,.slice x1 ta.args.length k1] 29)))
    have dc:(w1.alloc (.cells #[.string ta.name,.slice x1 ta.args.length k1] 29)).heap.size=w1.heap.size+1:=by simp
    clear hg hx1
    go_wp2_with fail
    generalize (w1.alloc (.cells #[.string ta.name,.slice x1 ta.args.length k1] 29))=w2 at *
    have OB:=G2 (λ_=>True) (Ai h) p.r u4 a2 c2 w2 (aX.out.later aG.out) (cV.out.later aG.out) cW.out
    rw[b4.out]at OB
    refine OB.mono ?_
    clear OB
    rintro e w3 ⟨s2,x2,n2,k2,dL,rfl,hb3,hc2⟩
    have b9:=Aa (aG.out.trans (hb3.mono aG.out.size))
    have cO:=Aa (BA.out.below hb3 (by omega))
    have cP:=Aa (b8.out.later hb3)
    have hz3:w1.heap.size+1<=w3.heap.size:=by have:=hb3.size; omega
    clear hb3
    rcases hc2 with ⟨rfl,hg⟩|⟨rfl,hg,rfl,rfl,hx2⟩
    ·have ah:Hid (R=(8,Ai h)):=by
      have e:Bf true (Ai h) l ta tb=.stop 8 (Ai h):=by unfold Bf; rw[As (Ae hg)]
      rcases ak.out with ⟨e1,s',e2,e3⟩|⟨s',l',e2,_⟩
      ·rw[e]at e2; cases e2; exact e3
      ·rw[e]at e2; cases e2
     clear hg
     go_wp2_with fail
     refine Ap (v:=.tuple #[.slice none 0 0,.int .i64 8]) (by simp[results,Tryz.results28,go_sem]) rfl ?_
     exact⟨(HB.out.trans (b9.out.mono HB.out.size)).alloc (AX HB.out.size b9.out.size) _,Ae ⟨by rw[ah.out]; exact(by decide:(8:Int)≠0),by rw[ah.out]⟩⟩
    ·have bc:=Aa hg
     have cQ:=Aa (hx2.mono (Y:=λ_=>True) λ_ _ _=>trivial)
     have BB:=Aa (Ac.new w3 #[.string tb.name,.slice x2 tb.args.length k2] 29)
     have bf:=Aa (cO.out.alloc (.cells #[.string tb.name,.slice x2 tb.args.length k2] 29))
     have aj:=Aa (b9.out.alloc b9.out.size (.cells #[.string tb.name,.slice x2 tb.args.length k2] 29))
     have bA:=Aa (cP.out.later ((Af _ _).alloc (Aj _) (.cells #[.string tb.name,.slice x2 tb.args.length k2] 29)))
     have bB:=Aa (cQ.out.later ((Af _ _).alloc (Aj _) (.cells #[.string tb.name,.slice x2 tb.args.length k2] 29)))
     have cr:(w3.alloc (.cells #[.string tb.name,.slice x2 tb.args.length k2] 29)).heap.size=w3.heap.size+1:=by simp
     have bC:=Aa (cK.out.tail)
     obtain⟨sa,cg⟩:∃sa:Option Addr,Hid ((if qc=1 then some (⟨b,o,none⟩:Addr) else some ⟨b,o+4,none⟩)=sa):=⟨_,rfl⟩
     have df:∀w':World,Sem.run Tryz.prog (Instr.slice 22 (.slice (some ⟨b,o,none⟩) (l.length+1) qc) (some (.int .i64 1)) none none) w'=.ok (.slice sa l.length (qc-1)) w':=λw'=>by
      rw[Yz b o l.length qc cp w',cg.out]
     rw[cg.out]at bC
     have dh:(1:Int)<=(l.length:Int)+1:=by omega
     clear hg hx2 cP cO cQ cN b8 BA b7 aG b9 cY cZ dc
     have cR:(w3.alloc (.cells #[.string tb.name,.slice x2 tb.args.length k2] 29)).cell? ⟨w1.heap.size,0,none⟩=some (.string ta.name):=bf.out.cell 0
     cases hva:Ak ta.name with
     |true=>
      have aF:=Aa hva
      clear hva
      by_cases az:ta.name=tb.name
      ·have cj:=Hi az
       have bD:=Aa az
       clear az
       have aH:Hid (AQ true g1 (Ai h) l=some R):=by
        have e:Bf true (Ai h) l ta tb=.go (Ai h) l:=by unfold Bf; rw[An (by have:=aY.out; have:=bc.out; omega),As aF.out,As bD.out]
        rcases ak.out with ⟨e1,s',e2,e3⟩|⟨s',l',e2,e3⟩
        ·rw[e]at e2; cases e2
        ·rw[e]at e2; cases e2; exact e3
       go_wp2_with (go_at_call 14; refine(Du _ _).mono ?_; rintro e w' ⟨rfl,rfl⟩; rw[aF.out])
       go_roundg g1
       case rel=>exact⟨h,l,HU.out.drop,cc.out,aH.out,aX.out.later aj.out,bC.out.later aj.out,HB.out.trans (aj.out.mono HB.out.size)⟩
       case measure=>have:=cf.out; omega
      ·have cj:=I9 az
       have bD:=Aa az
       clear az
       go_wp2_with (go_at_call 14; refine(Du _ _).mono ?_; rintro e w' ⟨rfl,rfl⟩; rw[aF.out])
       have aW:Hid (Bf true (Ai h) l ta tb=CB true (Ai h) l ta.name tb):=by
        unfold Hid Bf
        rw[An (by have:=aY.out; have:=bc.out; omega),As aF.out,An bD.out]
       have bE:Hid (¬AF ta.name (At [] (Ao [tb]))=true->FD (Ai h) ta.name tb/\UI V (h++[(ta.name,tb)]) l):=λho=>HU.out.bindV aF.out (Ad ⟨by rw[b6.out],by rw[b4.out]⟩) ho
       have bl:=bB
       have bF:=bc
       have A4:=bf
       have B4:=BB
       have di:Hid (w1.heap.size<w3.heap.size):=by unfold Hid; omega
       generalize (w3.alloc (.cells #[.string tb.name,.slice x2 tb.args.length k2] 29))=w4 at *
       clear aY bc bA bB bf BB cR bD cj
       have a0:=A4.out.c0
       have b0:=B4.out.c0
       have b1:=B4.out.c1
       have VF:Hid (∀w',Below w4.heap.size w4 w'->Calls Tryz.prog 15 #[.agg #[.string tb.name,.slice x2 tb.args.length k2]] w' λe w''=>∃v',e=.returned v'/\LV Value.string w'' (λ_=>True) v' (At [] (Ao [tb]))/\Below w4.heap.size w4 w''/\(w''.cell? ⟨w1.heap.size,0,none⟩=some (.string ta.name)/\w''.cell? ⟨w3.heap.size,0,none⟩=some (.string tb.name)/\w''.cell? ⟨w3.heap.size,1,none⟩=some (.slice x2 tb.args.length k2))):=λw' hb=>by
        refine(Ip tb _ w' _ ⟨_,_,rfl,bl.out.later hb⟩ (by have:=bF.out; omega)).mono ?_
        rintro e w'' ⟨v',rfl,hl,hb2⟩
        have hb3:=hb.trans (hb2.mono hb.size)
        exact⟨v',rfl,hl.mono (λ_ _ _=>trivial),hb3,cell_later hb3 a0,cell_later hb3 b0,cell_later hb3 b1⟩
       have bG:=Aa (And.intro a0 (And.intro b0 b1))
       go_region_held3 (λw'=>w'.cell? ⟨w1.heap.size,0,none⟩=some (.string ta.name)/\w'.cell? ⟨w3.heap.size,0,none⟩=some (.string tb.name)/\w'.cell? ⟨w3.heap.size,1,none⟩=some (.slice x2 tb.args.length k2)) (first|exact hS|exact bG.out|go_keep)
        (first
         | (go_at_call 15; refine(VF.out _ (by first|exact Af _ _|exact(Af _ _).drew)).mono ?_; rintro e w5 ⟨v5,rfl,bm,bH,hS⟩)
         | (go_at_call 16; refine(Hl _ _ _ _ (λ_=>True) (by first|exact bm|exact bm.kept (λ_ _=>rfl))).mono ?_; rintro e w6 ⟨rfl,bn⟩; have hS:w6.cell? ⟨w1.heap.size,0,none⟩=some (.string ta.name)/\w6.cell? ⟨w3.heap.size,0,none⟩=some (.string tb.name)/\w6.cell? ⟨w3.heap.size,1,none⟩=some (.slice x2 tb.args.length k2):=(by rw[bn]; first|exact hS|go_keep)))
       rw[bn]at hS
       clear bn
       have aZ:=Aa bH
       have ct:=Aa hS
       obtain⟨e0,e1,e2⟩:=hS
       have aI:=Aa (bl.out.later aZ.out)
       clear bm bH VF bG a0 b0 b1 hS bl A4 B4
       cases aJ:AF ta.name (At [] (Ao [tb])) with
       |true=>
        have ah:Hid (R=(6,Ai h)):=by
         have e:Bf true (Ai h) l ta tb=.stop 6 (Ai h):=by rw[aW.out]; unfold CB; rw[As aJ]
         rcases ak.out with ⟨e1,s',e2,e3⟩|⟨s',l',e2,_⟩
         ·rw[e]at e2; cases e2; exact e3
         ·rw[e]at e2; cases e2
        clear aJ
        go_wp2_with fail
        refine Ap (v:=.tuple #[.slice none 0 0,.int .i64 6]) (by simp[results,Tryz.results28,go_sem]) rfl ?_
        exact⟨HB.out.trans ((aj.out.trans (aZ.out.mono aj.out.size)).mono HB.out.size),Ae ⟨by rw[ah.out]; exact(by decide:(6:Int)≠0),by rw[ah.out]⟩⟩
       |false=>
        have bI:=Aa aJ
        obtain⟨MAY,bJ⟩:=bE.out (by rw[aJ]; simp)
        have bo:=Aa MAY
        have cu:=Aa bJ
        clear aJ MAY bJ bE
        have a6:Hid (Below wr.heap.size wr w5):=aj.out.trans (aZ.out.mono aj.out.size)
        obtain⟨ua,uc,rfl,dm,cw⟩:=aX.out
        clear cw
        have dn:(Ai h).length<=400000:=by rw[RU]; have:=HU.out.hlen; omega
        have O7:=Aa (Ac.new w5 #[.string ta.name,.string tb.name,.slice x2 tb.args.length k2] 76)
        have ar:=Aa (a6.out.alloc a6.out.size (.cells #[.string ta.name,.string tb.name,.slice x2 tb.args.length k2] 76))
        have bK:=Aa (aI.out.later ((Af _ _).alloc (Aj _) (.cells #[.string ta.name,.string tb.name,.slice x2 tb.args.length k2] 76)))
        have dp:(w5.alloc (.cells #[.string ta.name,.string tb.name,.slice x2 tb.args.length k2] 76)).heap.size=w5.heap.size+1:=by simp
        go_wp2_with fail
        generalize (w5.alloc (.cells #[.string ta.name,.string tb.name,.slice x2 tb.args.length k2] 76))=w7 at *
        have bp:=Aa ((RV O7.out bK.out).mono (Y:=λb=>b<w7.heap.size) λ_ _ h=>h)
        have bq:=Aa ((aX.out.later ar.out).mono (Y:=λb=>b<w7.heap.size) λ_ _ h=>h)
        have cx:=Aa (bC.out.later ar.out)
        clear e0 e1 e2 ct aI aZ a6
        go_loopw [9,10] (λu i wq=>RX w7 (Ai h) ta.name tb u i wq) (λu i wq=>(Ai h).length-(intOf i).toNat)
        case atStart=>exact⟨0,[],rfl,AE _,Bh.start _ _ _,by simp,by simp,Af _ _⟩
        case round=>
         obtain⟨k,cs,rfl,hk,hrow,hcs,bL,hb⟩:=hrel
         have ag:=Aa hrow
         have aB:=Aa hcs
         have br:=Aa bL
         have ae:=Aa hb
         clear hrow hcs bL
         have ck:cs.length<=1000000:=by
          have h1:=Bu List.length aB.out
          simp at h1
          omega
         by_cases hlt:k<(Ai h).length
         ·obtain⟨b',o',a',c',rfl,d0,d1,d2,hs⟩:=(bq.out.later hb).get k hlt
          have bM:(k:Int)<((Ai h).length:Int):=by omega
          have HS:=Aa hs
          have cy:Hid (Ab [(Ai h)[k].t]<=1000000):=by have:=RR cc.out (AV hlt); unfold Hid; omega
          clear hb hs
          have OE:=G2 (λb=>b<w7.heap.size) [⟨ta.name,tb⟩] (Ai h)[k].t _ a' c' wr (bp.out.later ae.out) HS.out cy.out
          have bs:Hid (((Ai h).take (k+1)).map (Bo ta.name tb)=((Ai h).take k).map (Bo ta.name tb)++[Bo ta.name tb (Ai h)[k]]):=by
           unfold Hid
           rw[Bm hlt,Cr]; rfl
          have a7:Hid (Ab [Ag [⟨ta.name,tb⟩] (Ai h)[k].t]<=2000->∀d∈(Ai h).take (k+1),Ab [Ag [⟨ta.name,tb⟩] d.t]<=2000):=λhle d hd=>by
           rw[Bm hlt]at hd
           rcases Bg.1 hd with hd|hd
           ·exact br.out d hd
           ·have e:d=(Ai h)[k]:=by simpa using hd
            rw[e]; exact hle
          have a8:Hid (2000<Ab [Ag [⟨ta.name,tb⟩] (Ai h)[k].t]->AD ((Ai h).map (Bo ta.name tb))=true):=λhg=>by
           unfold AD
           rw[D7]
           exact⟨Bo ta.name tb (Ai h)[k],Cj.2 ⟨_,AV hlt,rfl⟩,decide_eq_true hg⟩
          have bN:(Bo ta.name tb (Ai h)[k]).nm=(Ai h)[k].nm:=rfl
          have bO:(Bo ta.name tb (Ai h)[k]).t=Ag [⟨ta.name,tb⟩] (Ai h)[k].t:=rfl
          rw[<-bO]at OE a7 a8
          rw[<-bN]at d0
          generalize Bo ta.name tb (Ai h)[k]=d8 at *
          generalize (Ai h)[k].t=dt at *
          go_wp2_with fail
          refine OE.mono ?_
          clear OE bN bO
          rintro e w8 ⟨s8,x8,n8,k8,dr,rfl,aC,cz⟩
          have ba:=Aa (ae.out.trans (aC.mono ae.out.size))
          have aK:=Aa (ag.out.below aC)
          have aL:=Aa aC
          have bP:=cell_later aC d0
          have dv:=aC.size
          clear aC d0 d1 d2
          rcases cz with ⟨rfl,bt⟩|⟨rfl,hle,rfl,rfl,aM⟩
          ·have ah:Hid (R=(8,Ai h)):=by
            have e:Bf true (Ai h) l ta tb=.stop 8 (Ai h):=by rw[aW.out]; unfold CB; rw[An (by rw[bI.out]; simp),As (by rw[a8.out bt]; rfl)]
            rcases ak.out with ⟨e1,s',e2,e3⟩|⟨s',l',e2,_⟩
            ·rw[e]at e2; cases e2; exact e3
            ·rw[e]at e2; cases e2
           go_wp2_with fail
           refine Ap (v:=.tuple #[.slice none 0 0,.int .i64 8]) (by simp[results,Tryz.results28,go_sem]) rfl ?_
           have hz:=ar.out.size
           exact⟨(HB.out.trans ((ar.out.trans (ba.out.mono ar.out.size)).mono HB.out.size)).alloc (AX HB.out.size (AX ar.out.size ba.out.size)) _,Ae ⟨by rw[ah.out]; exact(by decide:(8:Int)≠0),by rw[ah.out]⟩⟩
          ·have c4:=Aa aM
           have bu:=Aa (a7.out hle)
           clear aM a7 a8
           go_wp2_with fail
           have P9:=Aa (Ac.new w8 #[.string d8.t.name,.slice x8 d8.t.args.length k8] 29)
           have aD:Below w8.heap.size w8 (w8.alloc (.cells #[.string d8.t.name,.slice x8 d8.t.args.length k8] 29)):=(Af _ _).alloc (Aj _) _
           have bb:=Aa (ba.out.trans (aD.mono ba.out.size))
           have au:=Aa (aK.out.below aD)
           have bw:=Aa (aL.out.trans (aD.mono aL.out.size))
           have bx:=Aa (c4.out.later aD)
           have d3:=cell_later aD bP
           have q0:=P9.out.cell 0
           have q1:=P9.out.cell 1
           clear aD bP P9
           generalize w8.alloc (.cells #[.string d8.t.name,.slice x8 d8.t.args.length k8] 29)=w9 at *
           generalize w8.heap.size=P at *
           obtain⟨i0,hi,hz0,aN,aO⟩:=CT Tryz.infoBind
           go_region_law (refine step_append_lies _ rfl _ _ 57 rfl w7.heap.size 76 i0 _ 3 56 Tryz.underlying57 hi hz0 aN aO rfl (by decide) u9 cs.length (C6 cs) rfl (by exact(au.out.below (below_drewN (Af _ _) 1)).own.alloc _) ⟨w9.heap.size,0,none⟩ 1 1 (Di (d8,x8,k8)) rfl rfl (Iu _ _ _ _ _) (λx hx=>by simp[Di] at hx; rcases hx with rfl|rfl|rfl<;>rfl) (by decide) (by unfold maxLen; omega) (by omega) (by have:=bb.out.size; simp; omega) _ rfl ?_; intro g cap wA ai aa aw aP)
           all_goals
            have bQ:=Aa (ag.out.push (w1:=w9.drew) (x:=(d8,x8,k8)) ae.out.size (λb h=>h) (below_drewN bw.out 1) ((bx.out.later (below_drewN (Af _ _) 1)).mono λb hb _=>by rcases hb with hb|hb; exact Ad hb.1; exact Ae (by omega)) _ rfl ai aa aw)
            have b5:Hid (Below w7.heap.size w7 wA):=((below_drewN bb.out 1).alloc (by have:=bb.out.size; simp; omega) _).grown aa (by have:=bb.out.size; simp; omega) (λj hj=>by have:=(au.out.own.lt j hj).1; omega)
            clear ai aa aw aP
            go_wp2_with fail
            go_roundw
            case rel=>exact⟨k+1,cs++[(d8,x8,k8)],by go_num,by omega,bQ.out,by rw[bs.out,Cr,aB.out]; rfl,bu.out,b5.out⟩
            case measure=>simp[intOf]; omega
         ·have bg:(Ai h).take k=Ai h:=AW (by omega)
          rw[bg]at aB br
          have r0:wr.cell? ⟨w5.heap.size,0,none⟩=some (.string ta.name):=cell_later ae.out (O7.out.cell 0)
          have r1:wr.cell? ⟨w5.heap.size,1,none⟩=some (.string tb.name):=cell_later ae.out (O7.out.cell 1)
          have r2:wr.cell? ⟨w5.heap.size,2,none⟩=some (.slice x2 tb.args.length k2):=cell_later ae.out (O7.out.cell 2)
          obtain⟨v10,bh,af,aQ,ax⟩:=Md ag.out ae.out.size (λ_ h=>h) (Af _ _) (⟨ta.name,tb⟩,x2,k2) ((bK.out.mono (Y:=λb=>b<w7.heap.size) λ_ _ h=>h).later ae.out |>.mono λb hb _=>Ad hb) ck wr.heap.size rfl
          have ao:=Aa af
          have ay:Hid (Below w7.heap.size w7 bh):=(ae.out.alloc ae.out.size _).grown ax (by have:=ae.out.size; simp; omega) (λj hj=>(ag.out.own.lt j hj).1)
          have bR:((cs++[((⟨ta.name,tb⟩:Bd),x2,k2)]).map (·.1))=(Ai h).map (Bo ta.name tb)++[⟨ta.name,tb⟩]:=by rw[Cr,aB.out]; rfl
          have aq:=aQ.bv
          rw[bR]at aq
          have bS:=Me ((Ai h).map (Bo ta.name tb)++[⟨ta.name,tb⟩]) v10 bh _ aq (by simp; omega)
          have bT:Hid (AQ true g1 (Ai (h++[(ta.name,tb)])) l=some R/\AD (Ai (h++[(ta.name,tb)]))=false):=by
           have hg:AD ((Ai h).map (Bo ta.name tb))=false:=by
            unfold AD
            rw[List.any_eq_false]
            intro d hd
            obtain⟨d',c6,rfl⟩:=Cj.1 hd
            have:=br.out d' c6
            intro hc
            have h2:2000<Ab [Ag [⟨ta.name,tb⟩] d'.t]:=of_decide_eq_true hc
            omega
           have e:Bf true (Ai h) l ta tb=.go (Cv (Ai h) ta.name tb) l:=by rw[aW.out]; unfold CB; rw[An (by rw[bI.out]; simp),An (by rw[hg]; simp)]; rfl
           have hz:=bF.out
           refine⟨?_,?_⟩
           ·rw[Fl]
            rcases ak.out with ⟨e1,s',e2,e3⟩|⟨s',l',e2,e3⟩
            ·rw[e]at e2; cases e2
            ·rw[e]at e2; cases e2; exact e3
           ·rw[Fl]
            unfold Cv
            rw[Jd,hg]
            simpa using hz
          clear af aQ ax bR aq bg hb
          go_wp2_with (at_builtin; refine D1 rfl _ _ _ _ rfl rfl rfl ao.out ?_)
          refine bS.mono ?_
          clear bS
          rintro e c7 ⟨v11,bz,rfl,aR,aA,aS,aT⟩
          have aU:Hid (BV c7 (λ_=>True) v11 (Ai (h++[(ta.name,tb)]))):=by
           unfold Hid
           rw[Fl]
           have ap:=Jq (t:=tb) HU.out.good.all.1 bo.out.2.1
           have e:bz.map (·.1)=Cv (Ai h) ta.name tb:=LL (aA.trans (EC _).symm) (LM (ap.perm aA) (FP.2 aS)) (J3 _ ap)
           rw[<-e]
           exact aR.bv.mono λ_ _ _=>trivial
          have aV:=Aa (ay.out.trans (aT.mono ay.out.size))
          clear aR aA aS aT
          go_wp2_with fail
          go_roundg g1
          case rel=>exact⟨h++[(ta.name,tb)],l,cu.out,bT.out.2,bT.out.1,aU.out,cx.out.later aV.out,HB.out.trans ((ar.out.trans (aV.out.mono ar.out.size)).mono HB.out.size)⟩
          case measure=>have:=cf.out; omega
     |false=>
      have aF:=Aa hva
      clear hva
      have cm:w1.heap.size≠w3.heap.size:=by omega
      have a0:(w3.alloc (.cells #[.string tb.name,.slice x2 tb.args.length k2] 29)).cell? ⟨w1.heap.size,0,none⟩=some (.string ta.name):=bf.out.cell 0
      have c8:(w3.alloc (.cells #[.string tb.name,.slice x2 tb.args.length k2] 29)).cell? ⟨w1.heap.size,1,none⟩=some (.slice x1 ta.args.length k1):=bf.out.cell 1
      have b0:(w3.alloc (.cells #[.string tb.name,.slice x2 tb.args.length k2] 29)).cell? ⟨w3.heap.size,0,none⟩=some (.string tb.name):=BB.out.cell 0
      have c9:(w3.alloc (.cells #[.string tb.name,.slice x2 tb.args.length k2] 29)).cell? ⟨w3.heap.size,1,none⟩=some (.slice x2 tb.args.length k2):=BB.out.cell 1
      cases hvb:Ak tb.name with
      |true=>
       have bj:=Aa hvb
       clear hvb
       have dw:(w3.alloc (.cells #[.string tb.name,.slice x2 tb.args.length k2] 29)).frozen? ⟨w1.heap.size,0,none⟩=false:=bf.out.frozen 0
       have S1:=bf.out.set 0 (.string tb.name)
       have dx:((w3.alloc (.cells #[.string tb.name,.slice x2 tb.args.length k2] 29)).setCell ⟨w1.heap.size,0,none⟩ (.string tb.name)).frozen? ⟨w1.heap.size,1,none⟩=false:=S1.frozen 1
       have S2:=S1.set 1 (.slice x2 tb.args.length k2)
       have T2:=(BB.out.setOther 0 (.string tb.name) cm.symm).setOther 1 (.slice x2 tb.args.length k2) cm.symm
       have dy:(((w3.alloc (.cells #[.string tb.name,.slice x2 tb.args.length k2] 29)).setCell ⟨w1.heap.size,0,none⟩ (.string tb.name)).setCell ⟨w1.heap.size,1,none⟩ (.slice x2 tb.args.length k2)).frozen? ⟨w3.heap.size,0,none⟩=false:=T2.frozen 0
       have T3:=T2.set 0 (.string ta.name)
       have dz:((((w3.alloc (.cells #[.string tb.name,.slice x2 tb.args.length k2] 29)).setCell ⟨w1.heap.size,0,none⟩ (.string tb.name)).setCell ⟨w1.heap.size,1,none⟩ (.slice x2 tb.args.length k2)).setCell ⟨w3.heap.size,0,none⟩ (.string ta.name)).frozen? ⟨w3.heap.size,1,none⟩=false:=T3.frozen 1
       have T4:=T3.set 1 (.slice x1 ta.args.length k1)
       have S4:=(S2.setOther 0 (.string ta.name) cm).setOther 1 (.slice x1 ta.args.length k1) cm
       have cA:∀b,b≠w1.heap.size->b≠w3.heap.size->(((((w3.alloc (.cells #[.string tb.name,.slice x2 tb.args.length k2] 29)).setCell ⟨w1.heap.size,0,none⟩ (.string tb.name)).setCell ⟨w1.heap.size,1,none⟩ (.slice x2 tb.args.length k2)).setCell ⟨w3.heap.size,0,none⟩ (.string ta.name)).setCell ⟨w3.heap.size,1,none⟩ (.slice x1 ta.args.length k1)).heap[b]? = (w3.alloc (.cells #[.string tb.name,.slice x2 tb.args.length k2] 29)).heap[b]? := λb h1 h2=>by
        rw[Aq _ _ _ _ (by simpa using h2),Aq _ _ _ _ (by simpa using h2),Aq _ _ _ _ (by simpa using h1),Aq _ _ _ _ (by simpa using h1)]
       have A4:Hid (Ac (((((w3.alloc (.cells #[.string tb.name,.slice x2 tb.args.length k2] 29)).setCell ⟨w1.heap.size,0,none⟩ (.string tb.name)).setCell ⟨w1.heap.size,1,none⟩ (.slice x2 tb.args.length k2)).setCell ⟨w3.heap.size,0,none⟩ (.string ta.name)).setCell ⟨w3.heap.size,1,none⟩ (.slice x1 ta.args.length k1)) w1.heap.size #[.string tb.name,.slice x2 tb.args.length k2] 29):=Aa (by simpa using S4)
       have B4:Hid (Ac (((((w3.alloc (.cells #[.string tb.name,.slice x2 tb.args.length k2] 29)).setCell ⟨w1.heap.size,0,none⟩ (.string tb.name)).setCell ⟨w1.heap.size,1,none⟩ (.slice x2 tb.args.length k2)).setCell ⟨w3.heap.size,0,none⟩ (.string ta.name)).setCell ⟨w3.heap.size,1,none⟩ (.slice x1 ta.args.length k1)) w3.heap.size #[.string ta.name,.slice x1 ta.args.length k1] 29):=Aa (by simpa using T4)
       have bl:Hid (Sl (((((w3.alloc (.cells #[.string tb.name,.slice x2 tb.args.length k2] 29)).setCell ⟨w1.heap.size,0,none⟩ (.string tb.name)).setCell ⟨w1.heap.size,1,none⟩ (.slice x2 tb.args.length k2)).setCell ⟨w3.heap.size,0,none⟩ (.string ta.name)).setCell ⟨w3.heap.size,1,none⟩ (.slice x1 ta.args.length k1)) (λ_=>True) x1 ta.args):=(bA.out.kept λb hb=>cA b (by omega) (by omega)).mono λ_ _ _=>trivial
       have bU:Hid (Below wr.heap.size wr (((((w3.alloc (.cells #[.string tb.name,.slice x2 tb.args.length k2] 29)).setCell ⟨w1.heap.size,0,none⟩ (.string tb.name)).setCell ⟨w1.heap.size,1,none⟩ (.slice x2 tb.args.length k2)).setCell ⟨w3.heap.size,0,none⟩ (.string ta.name)).setCell ⟨w3.heap.size,1,none⟩ (.slice x1 ta.args.length k1))):=⟨aj.out.os,aj.out.tape,aj.out.output,by have:=aj.out.size; simpa [World.setCell] using this,λb hb=>(cA b (by omega) (by omega)).trans (aj.out.block b hb)⟩
       have bV:(((((w3.alloc (.cells #[.string tb.name,.slice x2 tb.args.length k2] 29)).setCell ⟨w1.heap.size,0,none⟩ (.string tb.name)).setCell ⟨w1.heap.size,1,none⟩ (.slice x2 tb.args.length k2)).setCell ⟨w3.heap.size,0,none⟩ (.string ta.name)).setCell ⟨w3.heap.size,1,none⟩ (.slice x1 ta.args.length k1)).heap.size=w3.heap.size+1:=by simp[World.setCell]
       have aW:Hid (Bf true (Ai h) l ta tb=CB true (Ai h) l tb.name ta):=by
        unfold Hid Bf
        rw[An (by have:=aY.out; have:=bc.out; omega),An (by rw[aF.out]; simp),As bj.out]
       have bE:Hid (¬AF tb.name (At [] (Ao [ta]))=true->FD (Ai h) tb.name ta/\UI V (h++[(tb.name,ta)]) l):=λho=>HU.out.bindV bj.out (Ae ⟨by rw[b4.out],by rw[b6.out]⟩) ho
       have bF:=aY
       have di:Hid (w1.heap.size<w3.heap.size):=by unfold Hid; omega
       clear S1 S2 S4 T2 T3 T4 cA aY bc bA bB
       go_wp2_with (go_at_call 14; refine(Du _ _).mono ?_; rintro e w' ⟨rfl,rfl⟩; (first|rw[aF.out]|rw[bj.out]))
       clear aj cr bf BB cR a0 c8 b0 c9 dw dx dy dz
       generalize (((((w3.alloc (.cells #[.string tb.name,.slice x2 tb.args.length k2] 29)).setCell ⟨w1.heap.size,0,none⟩ (.string tb.name)).setCell ⟨w1.heap.size,1,none⟩ (.slice x2 tb.args.length k2)).setCell ⟨w3.heap.size,0,none⟩ (.string ta.name)).setCell ⟨w3.heap.size,1,none⟩ (.slice x1 ta.args.length k1))=w4 at *
       have aj:=bU
       clear bU bV
       have a0:=A4.out.c0
       have b0:=B4.out.c0
       have b1:=B4.out.c1
       have VF:Hid (∀w',Below w4.heap.size w4 w'->Calls Tryz.prog 15 #[.agg #[.string ta.name,.slice x1 ta.args.length k1]] w' λe w''=>∃v',e=.returned v'/\LV Value.string w'' (λ_=>True) v' (At [] (Ao [ta]))/\Below w4.heap.size w4 w''/\(w''.cell? ⟨w1.heap.size,0,none⟩=some (.string tb.name)/\w''.cell? ⟨w3.heap.size,0,none⟩=some (.string ta.name)/\w''.cell? ⟨w3.heap.size,1,none⟩=some (.slice x1 ta.args.length k1))):=λw' hb=>by
        refine(Ip ta _ w' _ ⟨_,_,rfl,bl.out.later hb⟩ (by have:=bF.out; omega)).mono ?_
        rintro e w'' ⟨v',rfl,hl,hb2⟩
        have hb3:=hb.trans (hb2.mono hb.size)
        exact⟨v',rfl,hl.mono (λ_ _ _=>trivial),hb3,cell_later hb3 a0,cell_later hb3 b0,cell_later hb3 b1⟩
       have bG:=Aa (And.intro a0 (And.intro b0 b1))
       go_region_held3 (λw'=>w'.cell? ⟨w1.heap.size,0,none⟩=some (.string tb.name)/\w'.cell? ⟨w3.heap.size,0,none⟩=some (.string ta.name)/\w'.cell? ⟨w3.heap.size,1,none⟩=some (.slice x1 ta.args.length k1)) (first|exact hS|exact bG.out|go_keep)
        (first
         | (go_at_call 15; refine(VF.out _ (by first|exact Af _ _|exact(Af _ _).drew)).mono ?_; rintro e w5 ⟨v5,rfl,bm,bH,hS⟩)
         | (go_at_call 16; refine(Hl _ _ _ _ (λ_=>True) (by first|exact bm|exact bm.kept (λ_ _=>rfl))).mono ?_; rintro e w6 ⟨rfl,bn⟩; have hS:w6.cell? ⟨w1.heap.size,0,none⟩=some (.string tb.name)/\w6.cell? ⟨w3.heap.size,0,none⟩=some (.string ta.name)/\w6.cell? ⟨w3.heap.size,1,none⟩=some (.slice x1 ta.args.length k1):=(by rw[bn]; first|exact hS|go_keep)))
       rw[bn]at hS
       clear bn
       have aZ:=Aa bH
       have ct:=Aa hS
       obtain⟨e0,e1,e2⟩:=hS
       have aI:=Aa (bl.out.later aZ.out)
       clear bm bH VF bG a0 b0 b1 hS bl A4 B4
       cases aJ:AF tb.name (At [] (Ao [ta])) with
       |true=>
        have ah:Hid (R=(6,Ai h)):=by
         have e:Bf true (Ai h) l ta tb=.stop 6 (Ai h):=by rw[aW.out]; unfold CB; rw[As aJ]
         rcases ak.out with ⟨e1,s',e2,e3⟩|⟨s',l',e2,_⟩
         ·rw[e]at e2; cases e2; exact e3
         ·rw[e]at e2; cases e2
        clear aJ
        go_wp2_with fail
        refine Ap (v:=.tuple #[.slice none 0 0,.int .i64 6]) (by simp[results,Tryz.results28,go_sem]) rfl ?_
        exact⟨HB.out.trans ((aj.out.trans (aZ.out.mono aj.out.size)).mono HB.out.size),Ae ⟨by rw[ah.out]; exact(by decide:(6:Int)≠0),by rw[ah.out]⟩⟩
       |false=>
        have bI:=Aa aJ
        obtain⟨MAY,bJ⟩:=bE.out (by rw[aJ]; simp)
        have bo:=Aa MAY
        have cu:=Aa bJ
        clear aJ MAY bJ bE
        have a6:Hid (Below wr.heap.size wr w5):=aj.out.trans (aZ.out.mono aj.out.size)
        obtain⟨ua,uc,rfl,dm,cw⟩:=aX.out
        clear cw
        have dn:(Ai h).length<=400000:=by rw[RU]; have:=HU.out.hlen; omega
        have O7:=Aa (Ac.new w5 #[.string tb.name,.string ta.name,.slice x1 ta.args.length k1] 76)
        have ar:=Aa (a6.out.alloc a6.out.size (.cells #[.string tb.name,.string ta.name,.slice x1 ta.args.length k1] 76))
        have bK:=Aa (aI.out.later ((Af _ _).alloc (Aj _) (.cells #[.string tb.name,.string ta.name,.slice x1 ta.args.length k1] 76)))
        have dp:(w5.alloc (.cells #[.string tb.name,.string ta.name,.slice x1 ta.args.length k1] 76)).heap.size=w5.heap.size+1:=by simp
        go_wp2_with fail
        generalize (w5.alloc (.cells #[.string tb.name,.string ta.name,.slice x1 ta.args.length k1] 76))=w7 at *
        have bp:=Aa ((RV O7.out bK.out).mono (Y:=λb=>b<w7.heap.size) λ_ _ h=>h)
        have bq:=Aa ((aX.out.later ar.out).mono (Y:=λb=>b<w7.heap.size) λ_ _ h=>h)
        have cx:=Aa (bC.out.later ar.out)
        clear e0 e1 e2 ct aI aZ a6
        go_loopw [9,10] (λu i wq=>RX w7 (Ai h) tb.name ta u i wq) (λu i wq=>(Ai h).length-(intOf i).toNat)
        case atStart=>exact⟨0,[],rfl,AE _,Bh.start _ _ _,by simp,by simp,Af _ _⟩
        case round=>
         obtain⟨k,cs,rfl,hk,hrow,hcs,bL,hb⟩:=hrel
         have ag:=Aa hrow
         have aB:=Aa hcs
         have br:=Aa bL
         have ae:=Aa hb
         clear hrow hcs bL
         have ck:cs.length<=1000000:=by
          have h1:=Bu List.length aB.out
          simp at h1
          omega
         by_cases hlt:k<(Ai h).length
         ·obtain⟨b',o',a',c',rfl,d0,d1,d2,hs⟩:=(bq.out.later hb).get k hlt
          have bM:(k:Int)<((Ai h).length:Int):=by omega
          have HS:=Aa hs
          have cy:Hid (Ab [(Ai h)[k].t]<=1000000):=by have:=RR cc.out (AV hlt); unfold Hid; omega
          clear hb hs
          have OE:=G2 (λb=>b<w7.heap.size) [⟨tb.name,ta⟩] (Ai h)[k].t _ a' c' wr (bp.out.later ae.out) HS.out cy.out
          have bs:Hid (((Ai h).take (k+1)).map (Bo tb.name ta)=((Ai h).take k).map (Bo tb.name ta)++[Bo tb.name ta (Ai h)[k]]):=by
           unfold Hid
           rw[Bm hlt,Cr]; rfl
          have a7:Hid (Ab [Ag [⟨tb.name,ta⟩] (Ai h)[k].t]<=2000->∀d∈(Ai h).take (k+1),Ab [Ag [⟨tb.name,ta⟩] d.t]<=2000):=λhle d hd=>by
           rw[Bm hlt]at hd
           rcases Bg.1 hd with hd|hd
           ·exact br.out d hd
           ·have e:d=(Ai h)[k]:=by simpa using hd
            rw[e]; exact hle
          have a8:Hid (2000<Ab [Ag [⟨tb.name,ta⟩] (Ai h)[k].t]->AD ((Ai h).map (Bo tb.name ta))=true):=λhg=>by
           unfold AD
           rw[D7]
           exact⟨Bo tb.name ta (Ai h)[k],Cj.2 ⟨_,AV hlt,rfl⟩,decide_eq_true hg⟩
          have bN:(Bo tb.name ta (Ai h)[k]).nm=(Ai h)[k].nm:=rfl
          have bO:(Bo tb.name ta (Ai h)[k]).t=Ag [⟨tb.name,ta⟩] (Ai h)[k].t:=rfl
          rw[<-bO]at OE a7 a8
          rw[<-bN]at d0
          generalize Bo tb.name ta (Ai h)[k]=d8 at *
          generalize (Ai h)[k].t=dt at *
          go_wp2_with fail
          refine OE.mono ?_
          clear OE bN bO
          rintro e w8 ⟨s8,x8,n8,k8,dr,rfl,aC,cz⟩
          have ba:=Aa (ae.out.trans (aC.mono ae.out.size))
          have aK:=Aa (ag.out.below aC)
          have aL:=Aa aC
          have bP:=cell_later aC d0
          have dv:=aC.size
          clear aC d0 d1 d2
          rcases cz with ⟨rfl,bt⟩|⟨rfl,hle,rfl,rfl,aM⟩
          ·have ah:Hid (R=(8,Ai h)):=by
            have e:Bf true (Ai h) l ta tb=.stop 8 (Ai h):=by rw[aW.out]; unfold CB; rw[An (by rw[bI.out]; simp),As (by rw[a8.out bt]; rfl)]
            rcases ak.out with ⟨e1,s',e2,e3⟩|⟨s',l',e2,_⟩
            ·rw[e]at e2; cases e2; exact e3
            ·rw[e]at e2; cases e2
           go_wp2_with fail
           refine Ap (v:=.tuple #[.slice none 0 0,.int .i64 8]) (by simp[results,Tryz.results28,go_sem]) rfl ?_
           have hz:=ar.out.size
           exact⟨(HB.out.trans ((ar.out.trans (ba.out.mono ar.out.size)).mono HB.out.size)).alloc (AX HB.out.size (AX ar.out.size ba.out.size)) _,Ae ⟨by rw[ah.out]; exact(by decide:(8:Int)≠0),by rw[ah.out]⟩⟩
          ·have c4:=Aa aM
           have bu:=Aa (a7.out hle)
           clear aM a7 a8
           go_wp2_with fail
           have P9:=Aa (Ac.new w8 #[.string d8.t.name,.slice x8 d8.t.args.length k8] 29)
           have aD:Below w8.heap.size w8 (w8.alloc (.cells #[.string d8.t.name,.slice x8 d8.t.args.length k8] 29)):=(Af _ _).alloc (Aj _) _
           have bb:=Aa (ba.out.trans (aD.mono ba.out.size))
           have au:=Aa (aK.out.below aD)
           have bw:=Aa (aL.out.trans (aD.mono aL.out.size))
           have bx:=Aa (c4.out.later aD)
           have d3:=cell_later aD bP
           have q0:=P9.out.cell 0
           have q1:=P9.out.cell 1
           clear aD bP P9
           generalize w8.alloc (.cells #[.string d8.t.name,.slice x8 d8.t.args.length k8] 29)=w9 at *
           generalize w8.heap.size=P at *
           obtain⟨i0,hi,hz0,aN,aO⟩:=CT Tryz.infoBind
           go_region_law (refine step_append_lies _ rfl _ _ 57 rfl w7.heap.size 76 i0 _ 3 56 Tryz.underlying57 hi hz0 aN aO rfl (by decide) u9 cs.length (C6 cs) rfl (by exact(au.out.below (below_drewN (Af _ _) 1)).own.alloc _) ⟨w9.heap.size,0,none⟩ 1 1 (Di (d8,x8,k8)) rfl rfl (Iu _ _ _ _ _) (λx hx=>by simp[Di] at hx; rcases hx with rfl|rfl|rfl<;>rfl) (by decide) (by unfold maxLen; omega) (by omega) (by have:=bb.out.size; simp; omega) _ rfl ?_; intro g cap wA ai aa aw aP)
           all_goals
            have bQ:=Aa (ag.out.push (w1:=w9.drew) (x:=(d8,x8,k8)) ae.out.size (λb h=>h) (below_drewN bw.out 1) ((bx.out.later (below_drewN (Af _ _) 1)).mono λb hb _=>by rcases hb with hb|hb; exact Ad hb.1; exact Ae (by omega)) _ rfl ai aa aw)
            have b5:Hid (Below w7.heap.size w7 wA):=((below_drewN bb.out 1).alloc (by have:=bb.out.size; simp; omega) _).grown aa (by have:=bb.out.size; simp; omega) (λj hj=>by have:=(au.out.own.lt j hj).1; omega)
            clear ai aa aw aP
            go_wp2_with fail
            go_roundw
            case rel=>exact⟨k+1,cs++[(d8,x8,k8)],by go_num,by omega,bQ.out,by rw[bs.out,Cr,aB.out]; rfl,bu.out,b5.out⟩
            case measure=>simp[intOf]; omega
         ·have bg:(Ai h).take k=Ai h:=AW (by omega)
          rw[bg]at aB br
          have r0:wr.cell? ⟨w5.heap.size,0,none⟩=some (.string tb.name):=cell_later ae.out (O7.out.cell 0)
          have r1:wr.cell? ⟨w5.heap.size,1,none⟩=some (.string ta.name):=cell_later ae.out (O7.out.cell 1)
          have r2:wr.cell? ⟨w5.heap.size,2,none⟩=some (.slice x1 ta.args.length k1):=cell_later ae.out (O7.out.cell 2)
          obtain⟨v10,bh,af,aQ,ax⟩:=Md ag.out ae.out.size (λ_ h=>h) (Af _ _) (⟨tb.name,ta⟩,x1,k1) ((bK.out.mono (Y:=λb=>b<w7.heap.size) λ_ _ h=>h).later ae.out |>.mono λb hb _=>Ad hb) ck wr.heap.size rfl
          have ao:=Aa af
          have ay:Hid (Below w7.heap.size w7 bh):=(ae.out.alloc ae.out.size _).grown ax (by have:=ae.out.size; simp; omega) (λj hj=>(ag.out.own.lt j hj).1)
          have bR:((cs++[((⟨tb.name,ta⟩:Bd),x1,k1)]).map (·.1))=(Ai h).map (Bo tb.name ta)++[⟨tb.name,ta⟩]:=by rw[Cr,aB.out]; rfl
          have aq:=aQ.bv
          rw[bR]at aq
          have bS:=Me ((Ai h).map (Bo tb.name ta)++[⟨tb.name,ta⟩]) v10 bh _ aq (by simp; omega)
          have bT:Hid (AQ true g1 (Ai (h++[(tb.name,ta)])) l=some R/\AD (Ai (h++[(tb.name,ta)]))=false):=by
           have hg:AD ((Ai h).map (Bo tb.name ta))=false:=by
            unfold AD
            rw[List.any_eq_false]
            intro d hd
            obtain⟨d',c6,rfl⟩:=Cj.1 hd
            have:=br.out d' c6
            intro hc
            have h2:2000<Ab [Ag [⟨tb.name,ta⟩] d'.t]:=of_decide_eq_true hc
            omega
           have e:Bf true (Ai h) l ta tb=.go (Cv (Ai h) tb.name ta) l:=by rw[aW.out]; unfold CB; rw[An (by rw[bI.out]; simp),An (by rw[hg]; simp)]; rfl
           have hz:=bF.out
           refine⟨?_,?_⟩
           ·rw[Fl]
            rcases ak.out with ⟨e1,s',e2,e3⟩|⟨s',l',e2,e3⟩
            ·rw[e]at e2; cases e2
            ·rw[e]at e2; cases e2; exact e3
           ·rw[Fl]
            unfold Cv
            rw[Jd,hg]
            simpa using hz
          clear af aQ ax bR aq bg hb
          go_wp2_with (at_builtin; refine D1 rfl _ _ _ _ rfl rfl rfl ao.out ?_)
          refine bS.mono ?_
          clear bS
          rintro e c7 ⟨v11,bz,rfl,aR,aA,aS,aT⟩
          have aU:Hid (BV c7 (λ_=>True) v11 (Ai (h++[(tb.name,ta)]))):=by
           unfold Hid
           rw[Fl]
           have ap:=Jq (t:=ta) HU.out.good.all.1 bo.out.2.1
           have e:bz.map (·.1)=Cv (Ai h) tb.name ta:=LL (aA.trans (EC _).symm) (LM (ap.perm aA) (FP.2 aS)) (J3 _ ap)
           rw[<-e]
           exact aR.bv.mono λ_ _ _=>trivial
          have aV:=Aa (ay.out.trans (aT.mono ay.out.size))
          clear aR aA aS aT
          go_wp2_with fail
          go_roundg g1
          case rel=>exact⟨h++[(tb.name,ta)],l,cu.out,bT.out.2,bT.out.1,aU.out,cx.out.later aV.out,HB.out.trans ((ar.out.trans (aV.out.mono ar.out.size)).mono HB.out.size)⟩
          case measure=>have:=cf.out; omega
      |false=>
       have bj:=Aa hvb
       clear hvb
       have aW:Hid (Bf true (Ai h) l ta tb=if ta.name=tb.name/\ta.args.length=tb.args.length then .go (Ai h) (Ax ta.args tb.args++l) else .stop 5 (Ai h)):=by
        unfold Hid Bf
        rw[An (by have:=aY.out; have:=bc.out; omega),An (by rw[aF.out]; simp),An (by rw[bj.out]; simp)]
       have CL:Hid (¬(ta.name=tb.name/\ta.args.length=tb.args.length)->R=(5,Ai h)):=λhn=>by
        have e:Bf true (Ai h) l ta tb=.stop 5 (Ai h):=by rw[aW.out,An hn]
        rcases ak.out with ⟨e1,s',e2,e3⟩|⟨s',l',e2,_⟩
        ·rw[e]at e2; cases e2; exact e3
        ·rw[e]at e2; cases e2
       by_cases az:ta.name=tb.name
       ·have cj:=Hi az
        by_cases b3:ta.args.length=tb.args.length
        ·have dA:((ta.args.length:Int)==(tb.args.length:Int))=true:=by simp[b3]
         have cn:=Aa b3
         have bD:=Aa az
         have bk:=Aa (HU.out.deep (by rw[b6.out]; exact aY.out) (by rw[b4.out]; exact bc.out) (by rw[b6.out,b4.out]; exact b3)).1
         rw[b6.out,b4.out]at bk
         have aH:Hid (AQ true g1 (Ai h) (Ax ta.args tb.args++l)=some R):=by
          have e:Bf true (Ai h) l ta tb=.go (Ai h) (Ax ta.args tb.args++l):=by rw[aW.out,As ⟨az,b3⟩]
          rcases ak.out with ⟨e1,s',e2,e3⟩|⟨s',l',e2,e3⟩
          ·rw[e]at e2; cases e2
          ·rw[e]at e2; cases e2; exact e3
         have dM:ta.args.length<=2000:=by
          have h1:=Ez ta.args
          have h2:=IK ta
          have h3:=aY.out
          omega
         have dN:l.length<=900000000:=by have h1:=HU.out.llen; simp at h1; omega
         have cB:=Aa (bB.out.mono (Y:=λb=>b<(w3.alloc (.cells #[.string tb.name,.slice x2 tb.args.length k2] 29)).heap.size) λ_ _ h=>h)
         have cC:=Aa (bA.out.mono (Y:=λb=>b<(w3.alloc (.cells #[.string tb.name,.slice x2 tb.args.length k2] 29)).heap.size) λ_ _ h=>h)
         have dB:=Aa ((bC.out.later aj.out).mono (Y:=λb=>b<(w3.alloc (.cells #[.string tb.name,.slice x2 tb.args.length k2] 29)).heap.size) λ_ _ h=>h)
         clear b3 az CL bA bB
         go_wp2_with (go_at_call 14; refine(Du _ _).mono ?_; rintro e w' ⟨rfl,rfl⟩; (first|rw[aF.out]|rw[bj.out]))
         generalize (w3.alloc (.cells #[.string tb.name,.slice x2 tb.args.length k2] 29))=wS at *
         go_loopw [13,14] (λu i wq=>ZA wS ta.args tb.args u i wq) (λu i wq=>ta.args.length-(intOf i).toNat)
         case atStart=>exact⟨0,[],rfl,AE _,Cx.start _ _ _,by simp,Af _ _⟩
         case round=>
          obtain⟨k,cs,rfl,hk,hrow,hcs,hb⟩:=hrel
          have ag:=Aa hrow
          have aB:=Aa hcs
          have ae:=Aa hb
          have ck:cs.length<=1000000:=by
           have h1:=Bu List.length hcs
           simp at h1
           omega
          have e1:wr.cell? ⟨w1.heap.size,1,none⟩=some (.slice x1 ta.args.length k1):=cell_later hb c8
          have e2:wr.cell? ⟨w3.heap.size,1,none⟩=some (.slice x2 tb.args.length k2):=cell_later hb c9
          clear hrow hcs hb
          by_cases hlt:k<ta.args.length
          ·have bM:(k:Int)<(ta.args.length:Int):=by omega
           have bW:k<tb.args.length:=by have:=cn.out; omega
           have dC:(k:Int)<(tb.args.length:Int):=by omega
           obtain⟨b1,o1,y1,d1,cD,p0,p1,dD⟩:=cC.out.get (Af _ _) (λ_ _ h=>h) k hlt
           obtain⟨b2,o2,y2,d2,cE,r0,r1,dE⟩:=cB.out.get (Af _ _) (λ_ _ h=>h) k bW
           subst cD
           subst cE
           have P0:=Aa p0
           have P1:=Aa p1
           have R0:=Aa r0
           have R1:=Aa r1
           clear p0 p1 r0 r1
           obtain⟨av,cv,ev,bX⟩:=dD
           simp at ev
           obtain⟨rfl,rfl⟩:=ev
           obtain⟨av,cv,ev,bY⟩:=dE
           simp at ev
           obtain⟨rfl,rfl⟩:=ev
           have dF:=Aa (bX.later ae.out)
           have dG:=Aa (bY.later ae.out)
           have dH:Hid ((Ax ta.args tb.args).take (k+1)=(Ax ta.args tb.args).take k++[⟨ta.args[k],tb.args[k]⟩]):=by
            unfold Hid
            rw[Bm (by rw[M3 cn.out]; exact hlt),RT k hlt bW]
           clear bX bY
           generalize ta.args[k]=tA at *
           generalize tb.args[k]=tB at *
           obtain⟨i0,hi,hz0,aN,aO⟩:=CT Tryz.infoPair
           have KG:Hid (∀W:World,Below wS.heap.size wS W->KZ w1.heap.size w3.heap.size b1 b2 (o1+k*2) (o2+k*2) o1 o2 ta.args.length tb.args.length tA tB y1 y2 k1 k2 d1 d2 W):=λW hW=>⟨cell_later hW c8,cell_later hW P0.out,cell_later hW P1.out,cell_later hW c9,cell_later hW R0.out,cell_later hW R1.out⟩
           have cS:KZ w1.heap.size w3.heap.size b1 b2 (o1+k*2) (o2+k*2) o1 o2 ta.args.length tb.args.length tA tB y1 y2 k1 k2 d1 d2 wr.drew:=KG.out _ (below_drewN ae.out 1)
           have cg:Hid (∀o,KZ w1.heap.size w3.heap.size b1 b2 (o1+k*2) (o2+k*2) o1 o2 ta.args.length tb.args.length tA tB y1 y2 k1 k2 d1 d2 (wr.drew.alloc o)):=λo=>KG.out _ ((below_drewN ae.out 1).alloc (by have:=ae.out.size; simp; omega) o)
           have cF:=Aa (ag.out.below (below_drewN (Af _ _) 1)).own
           go_wp2_with fail
           refine CU (S:=KZ w1.heap.size w3.heap.size b1 b2 (o1+k*2) (o2+k*2) o1 o2 ta.args.length tb.args.length tA tB y1 y2 k1 k2 d1 d2) (by kernel_rfl) cS (λhHeld=>?_)
           clear cS
           refine tkz 0 ?_ (hy:=by intro w' hSw;obtain⟨j1,j2,j3,j4,j5,j6⟩:=hSw;go_simp<;>with_reducible rfl)
           refine tkz 1 ?_ (hy:=by intro w' hSw;obtain⟨j1,j2,j3,j4,j5,j6⟩:=hSw;go_simp<;>with_reducible rfl)
           refine tkz 2 ?_ (hy:=by intro w' hSw;obtain⟨j1,j2,j3,j4,j5,j6⟩:=hSw;go_simp<;>with_reducible rfl)
           refine tkz 3 ?_ (hy:=by intro w' hSw;obtain⟨j1,j2,j3,j4,j5,j6⟩:=hSw;go_simp<;>with_reducible rfl)
           refine tkz 4 ?_ (hy:=by intro w' hSw;obtain⟨j1,j2,j3,j4,j5,j6⟩:=hSw;go_simp<;>with_reducible rfl)
           refine tkz 5 ?_ (hy:=by intro w' hSw;obtain⟨j1,j2,j3,j4,j5,j6⟩:=hSw;go_simp<;>with_reducible rfl)
           refine tkz 6 ?_ (hy:=by intro w' hSw;obtain⟨j1,j2,j3,j4,j5,j6⟩:=hSw;go_simp<;>with_reducible rfl)
           refine tkz 7 ?_ (hy:=by intro w' hSw;obtain⟨j1,j2,j3,j4,j5,j6⟩:=hSw;go_simp<;>with_reducible rfl)
           refine tkz 8 ?_ (hy:=by intro w' hSw;obtain⟨j1,j2,j3,j4,j5,j6⟩:=hSw;go_simp<;>with_reducible rfl)
           refine tkz 9 ?_ (hy:=by intro w' hSw;obtain⟨j1,j2,j3,j4,j5,j6⟩:=hSw;go_simp<;>with_reducible rfl)
           refine tkz 10 ?_ (hy:=by intro w' hSw;obtain⟨j1,j2,j3,j4,j5,j6⟩:=hSw;go_simp<;>with_reducible rfl)
           refine tkz 11 ?_ (hy:=by intro w' hSw;obtain⟨j1,j2,j3,j4,j5,j6⟩:=hSw;go_simp<;>with_reducible rfl)
           refine rdq 12 rfl λK hK=>?_
           go_simp
           refine hK.out _ _ (by exact cg.out _) (λhHeld=>?_)
           clear hK K
           try simp only[Act.put,sq]
           refine rdq 13 rfl λK hK=>?_
           refine step_append_lies _ rfl _ _ 22 rfl wS.heap.size 31 i0 _ 4 80 Tryz.underlying22 hi hz0 aN aO rfl (by decide) u13 cs.length (CH cs) rfl (by exact cF.out.alloc _) ⟨wr.heap.size,0,none⟩ 1 1 [.string tA.name,.slice y1 tA.args.length d1,.string tB.name,.slice y2 tB.args.length d2] rfl rfl (by exact QP _ _ _ _ _ _) (λx hx=>by simp at hx; rcases hx with rfl|rfl|rfl|rfl<;>rfl) (by decide) (by unfold maxLen; omega) (by omega) (by have:=ae.out.size; simp; omega) _ rfl ?_
           intro g cap wA ai aa aw aP
           have bQ:=Aa (ag.out.push (w1:=wr.drew) (x:=(⟨tA,tB⟩,(y1,d1),(y2,d2))) ae.out.size (λb h=>h) (below_drewN (Af _ _) 1) ⟨(dF.out.later (below_drewN (Af _ _) 1)).mono λb hb _=>Ad hb,(dG.out.later (below_drewN (Af _ _) 1)).mono λb hb _=>Ad hb⟩ _ rfl ai aa aw)
           have b5:Hid (Below wS.heap.size wS wA):=((below_drewN ae.out 1).alloc (by have:=ae.out.size; simp; omega) _).grown aa (by have:=ae.out.size; simp; omega) (λj hj=>by have:=(ag.out.own.lt j hj).1; omega)
           refine hK.out _ _ (by exact KG.out _ b5.out) (λhHeld=>?_)
           clear ai aa aw aP
           clear hK K
           try simp only[Act.put,sq]
           refine tkz 14 ?_ (hy:=by intro w' hSw;obtain⟨j1,j2,j3,j4,j5,j6⟩:=hSw;go_simp<;>with_reducible rfl)
           refine dnq ?_
           clear hHeld
           go_wp2_with fail
           refine⟨⟨?z0,?z1,?z2,?z3,?z4,?z5,?z6,?z7,?z8,?z9,?z10,?z11,?z12,?z13,?z14,?z15,?z16,?z17,?z18,?z19,?z20,?z21,?z22,?rel,?fr⟩,?measure⟩
           case fr=>
            refine Bu (λt=>Act.mk t []) (Bu List.toArray ?_)
            repeat' (refine ZB ?_ ?_)
            all_goals (try rfl)
            all_goals simp[cn.out]
           case rel=>exact⟨k+1,cs++[(⟨tA,tB⟩,(y1,d1),(y2,d2))],by go_num,by omega,bQ.out,by rw[dH.out,Cr,aB.out]; rfl,b5.out⟩
           case measure=>simp[intOf]; omega
          ·have bg:(Ax ta.args tb.args).take k=Ax ta.args tb.args:=AW (by rw[M3 cn.out]; omega)
           rw[bg]at aB
           obtain⟨v10,bh,af,bZ,ax⟩:=Yy ag.out ae.out.size (λ_ h=>h) (dB.out.later ae.out) (by omega)
           have ao:=Aa af
           have ay:Hid (Below wS.heap.size wS bh):=ae.out.grown ax (by have:=ae.out.size; omega) (λj hj=>(ag.out.own.lt j hj).1)
           have cG:Hid (QV bh (λ_=>True) v10 (Ax ta.args tb.args++l)):=by
            unfold Hid
            rw[<-aB.out]
            exact bZ.mono λ_ _ _=>trivial
           clear af bZ ax bg
           go_wp2_with (at_builtin; refine D1 rfl _ _ _ _ rfl rfl rfl ao.out ?_)
           go_roundg g1
           case rel=>exact⟨h,Ax ta.args tb.args++l,bk.out,cc.out,aH.out,aX.out.later (aj.out.trans (ay.out.mono aj.out.size)),cG.out,HB.out.trans ((aj.out.trans (ay.out.mono aj.out.size)).mono HB.out.size)⟩
           case measure=>have:=cf.out; omega
        ·have dA:((ta.args.length:Int)==(tb.args.length:Int))=false:=DL.2 (by omega)
         have ah:=Aa (CL.out λhh=>b3 hh.2)
         clear b3 az
         go_wp2_with (go_at_call 14; refine(Du _ _).mono ?_; rintro e w' ⟨rfl,rfl⟩; (first|rw[aF.out]|rw[bj.out]))
         refine Ap (v:=.tuple #[.slice none 0 0,.int .i64 5]) (by simp[results,Tryz.results28,go_sem]) rfl ?_
         exact⟨HB.out.trans (aj.out.mono HB.out.size),Ae ⟨by rw[ah.out]; exact(by decide:(5:Int)≠0),by rw[ah.out]⟩⟩
       ·have cj:=I9 az
        have ah:=Aa (CL.out λhh=>az hh.1)
        clear az
        go_wp2_with (go_at_call 14; refine(Du _ _).mono ?_; rintro e w' ⟨rfl,rfl⟩; (first|rw[aF.out]|rw[bj.out]))
        refine Ap (v:=.tuple #[.slice none 0 0,.int .i64 5]) (by simp[results,Tryz.results28,go_sem]) rfl ?_
        exact⟨HB.out.trans (aj.out.mono HB.out.size),Ae ⟨by rw[ah.out]; exact(by decide:(5:Int)≠0),by rw[ah.out]⟩⟩
end Go.Proofs.YtlkeafenklamjaaGreatDoor
