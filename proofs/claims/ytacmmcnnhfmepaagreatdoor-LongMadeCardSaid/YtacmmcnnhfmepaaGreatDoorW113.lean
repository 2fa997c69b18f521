import Derived.Test.YtacmmcnnhfmepaaGreatDoorW52
import Derived.Deep.LoopGhost
namespace Go.Proofs.YtacmmcnnhfmepaaGreatDoor
set_option linter.all false
set_option maxRecDepth 9999
set_option maxHeartbeats 0
open Go.RowKit Go.Proofs.Tryz
variable {lim:Bool} {g:Nat} {s:List Bd} {p:Pr} {l:List Pr}
def pK (X:Nat->Prop) (t:Tm) (s1:ByteArray) (a1:Option Addr) (n1 c1:Nat) (okb:Bool) (w w':World):Prop:=
 (okb=false/\2000<Ah [t])∨(okb=true/\Ah [t]<=2000/\s1=t.name/\n1=t.args.length/\Sl w' (λb=>(X b/\b<w.heap.size)∨w.heap.size<=b) a1 t.args)
theorem Ni (X:Nat->Prop) (ls:List Bd) (t:Tm) (u:Value) (a:Option Addr) (c:Nat) (w:World) (hu:BV w X u ls) (h:Sl w X a t.args) (i:Ah [t]<=1000000):
  Calls prog 26 #[u,.agg (zG t a c)] w λe w'=>∃s1 b d c1 f,e=.returned (.tuple #[.agg #[.string s1,.slice b d c1],.bool f])/\Below w.heap.size w w'/\pK X (Ag ls t) s1 b d c1 f w w':=by
 refine(VE ls t u _ w X hu ⟨a,c,rfl,h⟩ i).mono ?_;rintro e w1 ⟨g,⟨h1,rfl⟩|⟨h1,b,c1,rfl,j⟩⟩
 ·exact⟨_,_,_,_,_,rfl,g,Ad ⟨rfl,h1⟩⟩
 ·exact⟨_,_,_,_,_,rfl,g,Ae ⟨rfl,h1,rfl,rfl,j⟩⟩
def pL (w:World) (R:Int×List Bd) (e:Ending) (w':World):Prop:=
 Below w.heap.size w w'/\((R.1=0/\∃v,e=.returned (.tuple #[v,zA 0])/\BV w' (λ_=>True) v R.2)∨(R.1≠0/\e=.returned (.tuple #[zB,zA R.1])))
def pM (V:List ByteArray) (w:World) (R:Int×List Bd) (g:Nat) (sv lv:Value) (wr:World):Prop:=
 ∃(h:List (ByteArray×Tm)) (l:List Pr),UI V h l/\AV (Aj h)=false/\A0 true g (Aj h) l=some R/\BV wr (λ_=>True) sv (Aj h)/\QV wr (λ_=>True) lv l/\Below w.heap.size w wr
theorem pN {R:Int×List Bd} (h:A0 lim g s (p::l)=some R):∃a,g=a+1/\((∃e s',Br lim s l (Ag s p.l) (Ag s p.r)=.stop e s'/\R=(e,s'))∨∃s' l',Br lim s l (Ag s p.l) (Ag s p.r)=.go s' l'/\A0 lim a s' l'=some R):=by
 cases g with
 |zero=>cases h
 |succ g=>
  refine⟨g,rfl,?_⟩;rw[A0,EL]at h;cases b:Br lim s l (Ag s p.l) (Ag s p.r) with
  |stop e s'=>rw[b] at h; cases h; exact Ad ⟨e,s',rfl,rfl⟩
  |go s' l'=>rw[b] at h; exact Ae ⟨s',l',rfl,h⟩
theorem pO {R:Int×List Bd} {a b:Tm} (h:A0 lim g s (p::l)=some R) (d:Ag s p.l=a) (hb:Ag s p.r=b):∃c,g=c+1/\((∃e s',Br lim s l a b=.stop e s'/\R=(e,s'))∨∃s' l',Br lim s l a b=.go s' l'/\A0 lim c s' l'=some R):=by
 subst d; subst hb; exact pN h
theorem VG (h:AV s=false) {d:Bd} (hd:d∈s):Ah [d.t]<=2000:=by
 unfold AV at h;rw[List.any_eq_false]at h;have:=h d hd;simp at this;exact this
theorem Pi:∀ {a b:List Tm},a.length=b.length->(AD a b).length=a.length
 | [],[],_=>rfl
 | [],_::_,h=>by simp at h
 |_::_,[],h=>by simp at h
 |t::a,u::b,h=>by rw[AD,Cl,Pi (by simpa using h),Cl]
theorem VH:∀ {a b:List Tm} (k:Nat) (h1:k<a.length) (h2:k<b.length) {h3:k<(AD a b).length},(AD a b)[k]=⟨a[k],b[k]⟩
 | [],_,k,h,_,_=>by simp at h
 |_::_,[],k,_,h,_=>by simp at h
 |t::a,u::b,0,_,_,_=>rfl
 |t::a,u::b,k+1,h1,h2,h3=>by
  have:=VH (a:=a) (b:=b) k (by simpa using h1) (by simpa using h2) (h3:=by simpa [AD] using h3);simpa [AD] using this
def Nj (A B b1 b2 p1 p2 o1 o2 n1 n2:Nat) (tA tB:Tm) (y1 y2:Option Addr) (k1 k2 d1 d2:Nat) (w':World):Prop:=
 w'.cell? (zD A 1)=some (.slice (some (zD b1 o1)) n1 k1)/\w'.cell? (zD b1 p1)=some (.string tA.name)/\w'.cell? ⟨b1,p1+1,none⟩=some (.slice y1 tA.args.length d1)/\w'.cell? (zD B 1)=some (.slice (some (zD b2 o2)) n2 k2)/\w'.cell? (zD b2 p2)=some (.string tB.name)/\w'.cell? ⟨b2,p2+1,none⟩=some (.slice y2 tB.args.length d2)
def pP (w4:World) (lA lB:List Tm) (u i:Value) (wq:World):Prop:=
 ∃(k:Nat) (cs:List Pc),i=zA k/\k<=lA.length/\Ez wq w4.heap.size (λb=>b<w4.heap.size) u cs/\cs.map (·.1)=(AD lA lB).take k/\Below w4.heap.size w4 wq
theorem pQ {a b:Value} {l k:List Value} (h:a=b) (h2:l=k):a::l=b::k:=by rw[h,h2]
theorem VI:∀h:List (ByteArray×Tm),(Aj h).length=h.length:=λh=>by
 obtain⟨k,hk⟩:∃k:List (ByteArray×Tm),k.reverse=h:=⟨h.reverse,List.reverse_reverse h⟩;subst hk;induction k with
 |nil=>simp[Aj]
 |cons p r a=>rw[List.reverse_cons,Fo];unfold CJ;rw[(EU _).length_eq];simp[a]
theorem VJ {w:World} {B:Nat} {n:ByteArray} {t:Tm} {a:Option Addr} {c T:Nat} (h:Ab w B #[.string n,.string t.name,.slice a t.args.length c] T) (b:Sl w (λ_=>True) a t.args):BV w (λ_=>True) (.slice (some (zD B 0)) 1 1) [⟨n,t⟩]:=by
 refine⟨some (zD B 0),1,rfl,by simp,Ae ⟨B,0,rfl,trivial,λi hi=>?_⟩⟩;have e:i=0:=by simp at hi; omega
 subst e;exact⟨h.cell 0,h.cell 1,a,c,h.cell 2,b⟩
def VK (w7:World) (s:List Bd) (x:ByteArray) (t:Tm) (u i:Value) (wq:World):Prop:=
 ∃(k:Nat) (cs:List Bc),i=zA k/\k<=s.length/\Cs wq w7.heap.size (λb=>b<w7.heap.size) u cs/\cs.map (·.1)=(s.take k).map (BJ x t)/\(∀d∈s.take k,Ah [Ag [⟨x,t⟩] d.t]<=2000)/\Below w7.heap.size w7 wq
theorem VL (V:List ByteArray) (hV:V.length<=400000) (R:Int×List Bd) (N:Nat) (l0:List Pr) (v:Value) (w:World) (X:Nat->Prop) (hv:QV w X v l0) (hU:UI V [] l0) (hR:A0 true N [] l0=some R):
  Calls prog 25 #[v] w λe w'=>pL w R e w':=by
 have HV:=Aa (hv.mono (Y:=λ_=>True) λ_ _ _=>trivial);have HR:=Aa hR;have L:=Aa hU;clear hR hv hU;go_in;go_wp2_with fail;go_loopg [4,0] N (λg s l wr=>pM V w R g s l wr)
 case atStart=>exact⟨[],l0,L.o,by simp[Aj,AV],HR.o,⟨none,0,rfl,by simp[Aj],Ad rfl⟩,HV.o,Ac _ _⟩
 case round=>
  obtain⟨h,l,hU,cI,hR,cJ,cK,hb⟩:=hrel;clear HR L HV;have L:=Aa hU;have cc:=Aa cI;have HR:=Aa hR;have aW:=Aa cJ;have cL:=Aa cK;have q:=Aa hb;obtain⟨qa,qc,rfl,cM,cW⟩:=cK;clear hR cJ hb cW hU cI;cases l with
  |nil=>
   have y:Hid (R=(0,Aj h)):=by
    have h1:=HR.o;cases gk with
    |zero=>cases h1
    |succ gk=>rw[A0] at h1; simp[Em] at h1; exact h1.symm
   go_wp2_with fail;refine Ao (v:=.tuple #[u4,zA 0]) (by simp[results,results25,go_sem]) rfl ?_;exact⟨q.o,Ad ⟨by rw[y.o],u4,rfl,by rw[y.o]; exact aW.o⟩⟩
  |cons p l=>
   have hz:=L.o.size p (by simp);obtain⟨b,o,a1,c1,a2,c2,rfl,d0,d1,d2,d3,cm,cn⟩:=cL.o.get 0 (by simp);simp only[Gc,Nat.zero_mul,Ic,Cl] at d0 d1 d2 d3 cm cn cM;obtain⟨cX,cp⟩:=cM;have dD:b<wr.heap.size:=Es d0;have cY:=Aa cn;obtain⟨ta,cd⟩:∃ta,Ag (Aj h) p.l=ta:=⟨_,rfl⟩;obtain⟨tb,cq⟩:∃tb,Ag (Aj h) p.r=tb:=⟨_,rfl⟩;have b5:=Aa cd;have b3:=Aa cq;have OA:=Ni (λ_=>True) (Aj h) p.l u4 a1 c1 wr aW.o cm (by omega);rw[cd]at OA;obtain⟨g1,cN,b6⟩:=pO HR.o cd cq;have cf:=Aa cN;have aj:=Aa b6;have cZ:Hid (Ah [p.r]<=1000000):=Aa (by omega);clear cm cn cd cq cN b6 HR hz;go_wp2_with fail;refine OA.mono ?_;rintro e w1 ⟨s1,n,n1,m,dE,rfl,bj,da⟩;have b7:=Aa bj;have dF:wr.heap.size<=w1.heap.size:=bj.size;have db:∀o',(w1.alloc o').cell? ⟨b,o+2,none⟩=some (.string p.r.name):=λo'=>cell_later (bj.alloc bj.size o') d2;have dc:∀o',(w1.alloc o').cell? ⟨b,o+2+1,none⟩=some (.slice a2 p.r.args.length c2):=λo'=>cell_later (bj.alloc bj.size o') d3;clear bj d0 d1 d2 d3 OA;rcases da with ⟨rfl,B⟩|⟨rfl,B,rfl,rfl,cO⟩
   ·have y:Hid (R=(8,Aj h)):=by
     have e:Br true (Aj h) l ta tb=.stop 8 (Aj h):=by unfold Br; rw[Aq (Ad B)]
     rcases aj.o with ⟨e1,s',e2,e3⟩|⟨s',l',e2,_⟩
     ·rw[e]at e2; cases e2; exact e3
     ·rw[e]at e2; cases e2
    clear B;go_wp2_with fail;refine Ao (v:=.tuple #[zB,zA 8]) (by simp[results,results25,go_sem]) rfl ?_;exact⟨(q.o.trans (b7.o.mono q.o.size)).alloc (AJ q.o.size b7.o.size) _,Ae ⟨by rw[y.o]; exact(by decide:(8:Int)≠0),by rw[y.o]⟩⟩
   ·have aX:=Aa B;have cP:=Aa (cO.mono (Y:=λb=>b<w1.heap.size) λ_ _ h=>h);have BA:=Aa (Ab.new w1 (zG ta n m) 61);have aF:=Aa (b7.o.alloc b7.o.size (zh ta n m));have b8:=Aa (cP.o.later ((Ac _ _).alloc (Af _) (zh ta n m)));have dd:(w1.alloc (zh ta n m)).heap.size=w1.heap.size+1:=(by simp);clear B cO;go_wp2_with fail;generalize (w1.alloc (zh ta n m))=w2 at *;have OB:=Ni (λ_=>True) (Aj h) p.r u4 a2 c2 w2 (aW.o.later aF.o) (cY.o.later aF.o) cZ.o;rw[b3.o]at OB;refine OB.mono ?_;clear OB;rintro e w3 ⟨s2,c,n2,a,dG,rfl,F,de⟩;have b9:=Aa (aF.o.trans (F.mono aF.o.size));have cQ:=Aa (BA.o.below F (by omega));have cR:=Aa (b8.o.later F);have dH:w1.heap.size+1<=w3.heap.size:=by have:=F.size; omega
    clear F;rcases de with ⟨rfl,B⟩|⟨rfl,B,rfl,rfl,cS⟩
    ·have y:Hid (R=(8,Aj h)):=by
      have e:Br true (Aj h) l ta tb=.stop 8 (Aj h):=by unfold Br; rw[Aq (Ae B)]
      rcases aj.o with ⟨e1,s',e2,e3⟩|⟨s',l',e2,_⟩
      ·rw[e]at e2; cases e2; exact e3
      ·rw[e]at e2; cases e2
     clear B;go_wp2_with fail;refine Ao (v:=.tuple #[zB,zA 8]) (by simp[results,results25,go_sem]) rfl ?_;exact⟨(q.o.trans (b9.o.mono q.o.size)).alloc (AJ q.o.size b9.o.size) _,Ae ⟨by rw[y.o]; exact(by decide:(8:Int)≠0),by rw[y.o]⟩⟩
    ·have bb:=Aa B;have cT:=Aa (cS.mono (Y:=λ_=>True) λ_ _ _=>trivial);have BB:=Aa (Ab.new w3 (zG tb c a) 61);have bc:=Aa (cQ.o.alloc (zh tb c a));have z:=Aa (b9.o.alloc b9.o.size (zh tb c a));have bA:=Aa (cR.o.later ((Ac _ _).alloc (Af _) (zh tb c a)));have bB:=Aa (cT.o.later ((Ac _ _).alloc (Af _) (zh tb c a)));have cr:(w3.alloc (zh tb c a)).heap.size=w3.heap.size+1:=(by simp);have bC:=Aa (cL.o.tail);obtain⟨sa,cg⟩:∃sa:Option Addr,Hid ((if qc=1 then some ((zD b o):Addr) else some ⟨b,o+4,none⟩)=sa):=⟨_,rfl⟩;have df:∀w':World,Sem.run prog (Instr.slice 56 (.slice (some (zD b o)) (l.length+1) qc) (some (zA 1)) none none) w'=.ok (.slice sa l.length (qc-1)) w':=λw'=>by
      rw[Z0 b o l.length qc cp w',cg.o]
     rw[cg.o]at bC;have dh:(1:Int)<=(l.length:Int)+1:=(by omega);clear B cS cR cQ cT cP b8 BA b7 aF b9 db dc dd;have cU:(w3.alloc (zh tb c a)).cell? (zD w1.heap.size 0)=some (.string ta.name):=bc.o.cell 0;cases hva:Av ta.name with
     |true=>
      have aE:=Aa hva;clear hva;by_cases G:ta.name=tb.name
      ·have ch:=IE G;have bD:=Aa G;clear G;have aG:Hid (A0 true g1 (Aj h) l=some R):=by
        have e:Br true (Aj h) l ta tb=.go (Aj h) l:=by unfold Br; rw[Am (by have:=aX.o; have:=bb.o; omega),Aq aE.o,Aq bD.o]
        rcases aj.o with ⟨e1,s',e2,e3⟩|⟨s',l',e2,e3⟩
        ·rw[e]at e2; cases e2
        ·rw[e]at e2; cases e2; exact e3
       go_wp2_with (go_at_call 46; refine(Hb _ _).mono ?_; rintro e w' ⟨rfl,rfl⟩; rw[aE.o]);go_roundg g1
       case rel=>exact⟨h,l,L.o.drop,cc.o,aG.o,aW.o.later z.o,bC.o.later z.o,q.o.trans (z.o.mono q.o.size)⟩
       case measure=>have:=cf.o; omega
      ·have ch:=Kk G;have bD:=Aa G;clear G;go_wp2_with (go_at_call 46; refine(Hb _ _).mono ?_; rintro e w' ⟨rfl,rfl⟩; rw[aE.o]);have aV:Hid (Br true (Aj h) l ta tb=Cu true (Aj h) l ta.name tb):=Aa (by unfold Br;rw[Am (by have:=aX.o; have:=bb.o; omega),Aq aE.o,Am bD.o]);have bE:Hid (¬Ch ta.name (AU [] (Aw [tb]))=true->Gt (Aj h) ta.name tb/\UI V (h++[(ta.name,tb)]) l):=λho=>L.o.bindV aE.o (Ad ⟨by rw[b5.o],by rw[b3.o]⟩) ho;have bk:=bB;have bF:=bb;have A4:=bc;have B4:=BB;have di:Hid (w1.heap.size<w3.heap.size):=Aa (by omega);generalize (w3.alloc (zh tb c a))=w4 at *;clear aX bb bA bB bc BB cU bD ch;have a0:=A4.o.c0;have b0:=B4.o.c0;have b1:=B4.o.c1;have VF:Hid (∀w',Below w4.heap.size w4 w'->Calls prog 28 #[.agg (zG tb c a)] w' λe M=>∃v',e=.returned v'/\LV Value.string M (λ_=>True) v' (AU [] (Aw [tb]))/\Below w4.heap.size w4 M/\(M.cell? (zD w1.heap.size 0)=some (.string ta.name)/\M.cell? (zD w3.heap.size 0)=some (.string tb.name)/\M.cell? (zD w3.heap.size 1)=some (.slice c tb.args.length a))):=λw' hb=>by
        refine(NN tb _ w' _ ⟨_,_,rfl,bk.o.later hb⟩ (by have:=bF.o; omega)).mono ?_;rintro e M ⟨v',rfl,hl,ct⟩;have F:=hb.trans (ct.mono hb.size);exact⟨v',rfl,hl.mono (λ_ _ _=>trivial),F,cell_later F a0,cell_later F b0,cell_later F b1⟩
       have bG:=Aa (And.intro a0 (And.intro b0 b1));go_region_held3 (λw'=>w'.cell? (zD w1.heap.size 0)=some (.string ta.name)/\w'.cell? (zD w3.heap.size 0)=some (.string tb.name)/\w'.cell? (zD w3.heap.size 1)=some (.slice c tb.args.length a)) (first|exact H|exact bG.o|go_keep)
        (first
         | (go_at_call 28; refine(VF.o _ (by first|exact Ac _ _|exact(Ac _ _).drew)).mono ?_; rintro e D ⟨v5,rfl,bl,bH,H⟩)
         | (go_at_call 47; refine(LF _ _ _ _ (λ_=>True) (by first|exact bl|exact bl.kept (λ_ _=>rfl))).mono ?_; rintro e w6 ⟨rfl,bm⟩; have H:w6.cell? (zD w1.heap.size 0)=some (.string ta.name)/\w6.cell? (zD w3.heap.size 0)=some (.string tb.name)/\w6.cell? (zD w3.heap.size 1)=some (.slice c tb.args.length a):=(by rw[bm]; first|exact H|go_keep)))
       rw[bm]at H;clear bm;have aY:=Aa bH;have cu:=Aa H;obtain⟨e0,e1,e2⟩:=H;have aH:=Aa (bk.o.later aY.o);clear bl bH VF bG a0 b0 b1 H bk A4 B4;cases aI:Ch ta.name (AU [] (Aw [tb])) with
       |true=>
        have y:Hid (R=(6,Aj h)):=by
         have e:Br true (Aj h) l ta tb=.stop 6 (Aj h):=by rw[aV.o]; unfold Cu; rw[Aq aI]
         rcases aj.o with ⟨e1,s',e2,e3⟩|⟨s',l',e2,_⟩
         ·rw[e]at e2; cases e2; exact e3
         ·rw[e]at e2; cases e2
        clear aI;go_wp2_with fail;refine Ao (v:=.tuple #[zB,zA 6]) (by simp[results,results25,go_sem]) rfl ?_;exact⟨q.o.trans ((z.o.trans (aY.o.mono z.o.size)).mono q.o.size),Ae ⟨by rw[y.o]; exact(by decide:(6:Int)≠0),by rw[y.o]⟩⟩
       |false=>
        have bI:=Aa aI;obtain⟨bJ,bK⟩:=bE.o (by rw[aI]; simp);have bn:=Aa bJ;have cw:=Aa bK;clear aI bJ bK bE;have az:Hid (Below wr.heap.size wr D):=z.o.trans (aY.o.mono z.o.size);obtain⟨ua,uc,rfl,dj,cx⟩:=aW.o;clear cx;have dk:(Aj h).length<=400000:=by rw[VI]; have:=L.o.hlen; omega
        have O7:=Aa (Ab.new D #[.string ta.name,.string tb.name,.slice c tb.args.length a] 93);have E:=Aa (az.o.alloc az.o.size (.cells #[.string ta.name,.string tb.name,.slice c tb.args.length a] 93));have bL:=Aa (aH.o.later ((Ac _ _).alloc (Af _) (.cells #[.string ta.name,.string tb.name,.slice c tb.args.length a] 93)));have dm:(D.alloc (zp #[.string ta.name,.string tb.name,.slice c tb.args.length a] 93)).heap.size=D.heap.size+1:=(by simp);go_wp2_with fail;generalize (D.alloc (zp #[.string ta.name,.string tb.name,.slice c tb.args.length a] 93))=C at *;have bo:=Aa ((VJ O7.o bL.o).mono (Y:=λb=>b<C.heap.size) λ_ _ h=>h);have bp:=Aa ((aW.o.later E.o).mono (Y:=λb=>b<C.heap.size) λ_ _ h=>h);have cy:=Aa (bC.o.later E.o);clear e0 e1 e2 cu aH aY az;go_loopw [9,10] (λu i wq=>VK C (Aj h) ta.name tb u i wq) (λu i wq=>(Aj h).length-(intOf i).toNat);case atStart=>exact⟨0,[],rfl,Bp _,Cs.start _ _ _,by simp,by simp,Ac _ _⟩
        case round=>
         obtain⟨k,cs,rfl,hk,ao,hcs,bM,hb⟩:=hrel;have I:=Aa ao;have O:=Aa hcs;have bq:=Aa bM;have f:=Aa hb;clear ao hcs bM;have cj:cs.length<=1000000:=by
          have h1:=Dt List.length O.o;simp at h1;omega
         by_cases J:k<(Aj h).length
         ·obtain⟨b',o',a',c',rfl,d0,d1,d2,hs⟩:=(bp.o.later hb).get k J;have bN:(k:Int)<((Aj h).length:Int):=(by omega);have HS:=Aa hs;have cz:Hid (Ah [(Aj h)[k].t]<=1000000):=Aa (by have:=VG cc.o (Bv J);omega);clear hb hs;have OE:=Ni (λb=>b<C.heap.size) [⟨ta.name,tb⟩] (Aj h)[k].t _ a' c' wr (bo.o.later f.o) HS.o cz.o;have br:Hid (((Aj h).take (k+1)).map (BJ ta.name tb)=((Aj h).take k).map (BJ ta.name tb)++[BJ ta.name tb (Aj h)[k]]):=by
           unfold Hid;rw[CI J,Db]; rfl
          have a6:Hid (Ah [Ag [⟨ta.name,tb⟩] (Aj h)[k].t]<=2000->∀d∈(Aj h).take (k+1),Ah [Ag [⟨ta.name,tb⟩] d.t]<=2000):=λhle d hd=>by
           rw[CI J]at hd;rcases BN.1 hd with hd|hd
           ·exact bq.o d hd
           ·have e:d=(Aj h)[k]:=(by simpa using hd);rw[e]; exact hle
          have a7:Hid (2000<Ah [Ag [⟨ta.name,tb⟩] (Aj h)[k].t]->AV ((Aj h).map (BJ ta.name tb))=true):=λB=>by
           unfold AV;rw[Fc];exact⟨BJ ta.name tb (Aj h)[k],Cx.2 ⟨_,Bv J,rfl⟩,J4 B⟩
          have bO:(BJ ta.name tb (Aj h)[k]).nm=(Aj h)[k].nm:=rfl;have bP:(BJ ta.name tb (Aj h)[k]).t=Ag [⟨ta.name,tb⟩] (Aj h)[k].t:=rfl;rw[<-bP]at OE a6 a7;rw[<-bO]at d0;generalize BJ ta.name tb (Aj h)[k]=d8 at *;generalize (Aj h)[k].t=dt at *;go_wp2_with fail;refine OE.mono ?_;clear OE bO bP;rintro e T ⟨s8,U,n8,Z,dn,rfl,aC,c4⟩;have aZ:=Aa (f.o.trans (aC.mono f.o.size));have aJ:=Aa (I.o.below aC);have aK:=Aa aC;have bQ:=cell_later aC d0;have dp:=aC.size;clear aC d0 d1 d2;rcases c4 with ⟨rfl,bs⟩|⟨rfl,hle,rfl,rfl,aL⟩
          ·have y:Hid (R=(8,Aj h)):=by
            have e:Br true (Aj h) l ta tb=.stop 8 (Aj h):=by rw[aV.o]; unfold Cu; rw[Am (by rw[bI.o]; simp),Aq (by rw[a7.o bs]; rfl)]
            rcases aj.o with ⟨e1,s',e2,e3⟩|⟨s',l',e2,_⟩
            ·rw[e]at e2; cases e2; exact e3
            ·rw[e]at e2; cases e2
           go_wp2_with fail;refine Ao (v:=.tuple #[zB,zA 8]) (by simp[results,results25,go_sem]) rfl ?_;have hz:=E.o.size;exact⟨(q.o.trans ((E.o.trans (aZ.o.mono E.o.size)).mono q.o.size)).alloc (AJ q.o.size (AJ E.o.size aZ.o.size)) _,Ae ⟨by rw[y.o]; exact(by decide:(8:Int)≠0),by rw[y.o]⟩⟩
          ·have c6:=Aa aL;have bt:=Aa (a6.o hle);clear aL a6 a7;go_wp2_with fail;have P9:=Aa (Ab.new T (zG d8.t U Z) 61);have aD:Below T.heap.size T (T.alloc (zh d8.t U Z)):=(Ac _ _).alloc (Af _) _;have ba:=Aa (aZ.o.trans (aD.mono aZ.o.size));have aq:=Aa (aJ.o.below aD);have bu:=Aa (aK.o.trans (aD.mono aK.o.size));have bw:=Aa (c6.o.later aD);have d3:=cell_later aD bQ;have q0:=P9.o.cell 0;have q1:=P9.o.cell 1;clear aD bQ P9;generalize T.alloc (zh d8.t U Z)=w9 at *;generalize T.heap.size=P at *;obtain⟨i0,hi,bR,aM,aN⟩:=Dw Tryz.infoBind;go_region_law (refine step_append_lies _ rfl _ _ 63 rfl C.heap.size 93 i0 _ 3 56 underlying63 hi bR aM aN rfl (by decide) u9 cs.length (DE cs) rfl (by exact(aq.o.below (below_drewN (Ac _ _) 1)).own.alloc _) (zD w9.heap.size 0) 1 1 (D5 (d8,U,Z)) rfl rfl (Ms _ _ _ _ _) (λx hx=>by simp[D5] at hx; rcases hx with rfl|rfl|rfl<;>rfl) (by decide) (by unfold maxLen; omega) (by omega) (by have:=ba.o.size; simp; omega) _ rfl ?_; intro g cap wA ag aa ar aO);all_goals
            have bS:=Aa (I.o.push (w1:=w9.drew) (x:=(d8,U,Z)) f.o.size (λb h=>h) (below_drewN bu.o 1) ((bw.o.later (below_drewN (Ac _ _) 1)).mono λb hb _=>by rcases hb with hb|hb; exact Ad hb.1; exact Ae (by omega)) _ rfl ag aa ar);have b4:Hid (Below C.heap.size C wA):=((below_drewN ba.o 1).alloc (by have:=ba.o.size; simp; omega) _).grown aa (by have:=ba.o.size; simp; omega) (λj hj=>by have:=(aq.o.own.lt j hj).1; omega);clear ag aa ar aO;go_wp2_with fail;go_roundw
            case rel=>exact⟨k+1,cs++[(d8,U,Z)],by go_num,by omega,bS.o,by rw[br.o,Db,O.o]; rfl,bt.o,b4.o⟩
            case measure=>simp[intOf]; omega
         ·have bd:(Aj h).take k=Aj h:=Bz (by omega);rw[bd]at O bq;have r0:wr.cell? (zD D.heap.size 0)=some (.string ta.name):=cell_later f.o (O7.o.cell 0);have r1:wr.cell? (zD D.heap.size 1)=some (.string tb.name):=cell_later f.o (O7.o.cell 1);have r2:wr.cell? (zD D.heap.size 2)=some (.slice c tb.args.length a):=cell_later f.o (O7.o.cell 2);obtain⟨v10,bf,ad,aP,au⟩:=Oa I.o f.o.size (λ_ h=>h) (Ac _ _) (⟨ta.name,tb⟩,c,a) ((bL.o.mono (Y:=λb=>b<C.heap.size) λ_ _ h=>h).later f.o |>.mono λb hb _=>Ad hb) cj wr.heap.size rfl;have ak:=Aa ad;have aw:Hid (Below C.heap.size C bf):=(f.o.alloc f.o.size _).grown au (by have:=f.o.size; simp; omega) (λj hj=>(I.o.own.lt j hj).1);have bT:((cs++[((⟨ta.name,tb⟩:Bd),c,a)]).map (·.1))=(Aj h).map (BJ ta.name tb)++[⟨ta.name,tb⟩]:=by rw[Db,O.o]; rfl
          have al:=aP.bv;rw[bT]at al;have bU:=U8 ((Aj h).map (BJ ta.name tb)++[⟨ta.name,tb⟩]) v10 bf _ al (by simp; omega);have bV:Hid (A0 true g1 (Aj (h++[(ta.name,tb)])) l=some R/\AV (Aj (h++[(ta.name,tb)]))=false):=by
           have B:AV ((Aj h).map (BJ ta.name tb))=false:=(by unfold AV;rw[List.any_eq_false];intro d hd;obtain⟨d',c7,rfl⟩:=Cx.1 hd;have:=bq.o d' c7;intro hc;have h2:2000<Ah [Ag [⟨ta.name,tb⟩] d'.t]:=Kc hc;omega);have e:Br true (Aj h) l ta tb=.go (CJ (Aj h) ta.name tb) l:=by rw[aV.o]; unfold Cu; rw[Am (by rw[bI.o]; simp),Am (by rw[B]; simp)]; rfl
           have hz:=bF.o;refine⟨?_,?_⟩
           ·rw[Fo];rcases aj.o with ⟨e1,s',e2,e3⟩|⟨s',l',e2,e3⟩
            ·rw[e]at e2; cases e2
            ·rw[e]at e2; cases e2; exact e3
           ·rw[Fo];unfold CJ;rw[Kq,B];simpa using hz
          clear ad aP au bT al bd hb;go_wp2_with (at_builtin; refine IB rfl _ _ _ _ rfl rfl rfl ak.o ?_);refine bU.mono ?_;clear bU;rintro e c8 ⟨v11,bx,rfl,aQ,a8,aR,aS⟩;have aT:Hid (BV c8 (λ_=>True) v11 (Aj (h++[(ta.name,tb)]))):=by
           unfold Hid;rw[Fo];have ap:=Kx (t:=tb) L.o.good.all.1 bn.o.2.1;have e:bx.map (·.1)=CJ (Aj h) ta.name tb:=NL (a8.trans (EU _).symm) (NM (ap.perm a8) (Ib.2 aR)) (LM _ ap);rw[<-e];exact aQ.bv.mono λ_ _ _=>trivial
          have aU:=Aa (aw.o.trans (aS.mono aw.o.size));clear aQ a8 aR aS;go_wp2_with fail;go_roundg g1
          case rel=>exact⟨h++[(ta.name,tb)],l,cw.o,bV.o.2,bV.o.1,aT.o,cy.o.later aU.o,q.o.trans ((E.o.trans (aU.o.mono E.o.size)).mono q.o.size)⟩
          case measure=>have:=cf.o; omega
     |false=>
      have aE:=Aa hva;clear hva;have ck:w1.heap.size≠w3.heap.size:=(by omega);have a0:(w3.alloc (zh tb c a)).cell? (zD w1.heap.size 0)=some (.string ta.name):=bc.o.cell 0;have c9:(w3.alloc (zh tb c a)).cell? (zD w1.heap.size 1)=some (.slice n ta.args.length m):=bc.o.cell 1;have b0:(w3.alloc (zh tb c a)).cell? (zD w3.heap.size 0)=some (.string tb.name):=BB.o.cell 0;have cA:(w3.alloc (zh tb c a)).cell? (zD w3.heap.size 1)=some (.slice c tb.args.length a):=BB.o.cell 1;cases hvb:Av tb.name with
      |true=>
       have bg:=Aa hvb;clear hvb;have dq:(w3.alloc (zh tb c a)).frozen? (zD w1.heap.size 0)=false:=bc.o.frozen 0;have S1:=bc.o.set 0 (.string tb.name);have dr:((w3.alloc (zh tb c a)).setCell (zD w1.heap.size 0) (.string tb.name)).frozen? (zD w1.heap.size 1)=false:=S1.frozen 1;have S2:=S1.set 1 (.slice c tb.args.length a);have T2:=(BB.o.setOther 0 (.string tb.name) ck.symm).setOther 1 (.slice c tb.args.length a) ck.symm;have ds:(((w3.alloc (zh tb c a)).setCell (zD w1.heap.size 0) (.string tb.name)).setCell (zD w1.heap.size 1) (.slice c tb.args.length a)).frozen? (zD w3.heap.size 0)=false:=T2.frozen 0;have T3:=T2.set 0 (.string ta.name);have du:((((w3.alloc (zh tb c a)).setCell (zD w1.heap.size 0) (.string tb.name)).setCell (zD w1.heap.size 1) (.slice c tb.args.length a)).setCell (zD w3.heap.size 0) (.string ta.name)).frozen? (zD w3.heap.size 1)=false:=T3.frozen 1;have T4:=T3.set 1 (.slice n ta.args.length m);have S4:=(S2.setOther 0 (.string ta.name) ck).setOther 1 (.slice n ta.args.length m) ck;have cB:∀b,b≠w1.heap.size->b≠w3.heap.size->(((((w3.alloc (zh tb c a)).setCell (zD w1.heap.size 0) (.string tb.name)).setCell (zD w1.heap.size 1) (.slice c tb.args.length a)).setCell (zD w3.heap.size 0) (.string ta.name)).setCell (zD w3.heap.size 1) (.slice n ta.args.length m)).heap[b]? = (w3.alloc (zh tb c a)).heap[b]? := λb h1 h2=>by
        rw[Ak _ _ _ _ (by simpa using h2),Ak _ _ _ _ (by simpa using h2),Ak _ _ _ _ (by simpa using h1),Ak _ _ _ _ (by simpa using h1)]
       have A4:Hid (Ab (((((w3.alloc (zh tb c a)).setCell (zD w1.heap.size 0) (.string tb.name)).setCell (zD w1.heap.size 1) (.slice c tb.args.length a)).setCell (zD w3.heap.size 0) (.string ta.name)).setCell (zD w3.heap.size 1) (.slice n ta.args.length m)) w1.heap.size (zG tb c a) 61):=Aa (by simpa using S4);have B4:Hid (Ab (((((w3.alloc (zh tb c a)).setCell (zD w1.heap.size 0) (.string tb.name)).setCell (zD w1.heap.size 1) (.slice c tb.args.length a)).setCell (zD w3.heap.size 0) (.string ta.name)).setCell (zD w3.heap.size 1) (.slice n ta.args.length m)) w3.heap.size (zG ta n m) 61):=Aa (by simpa using T4);have bk:Hid (Sl (((((w3.alloc (zh tb c a)).setCell (zD w1.heap.size 0) (.string tb.name)).setCell (zD w1.heap.size 1) (.slice c tb.args.length a)).setCell (zD w3.heap.size 0) (.string ta.name)).setCell (zD w3.heap.size 1) (.slice n ta.args.length m)) (λ_=>True) n ta.args):=(bA.o.kept λb hb=>cB b (by omega) (by omega)).mono λ_ _ _=>trivial;have bW:Hid (Below wr.heap.size wr (((((w3.alloc (zh tb c a)).setCell (zD w1.heap.size 0) (.string tb.name)).setCell (zD w1.heap.size 1) (.slice c tb.args.length a)).setCell (zD w3.heap.size 0) (.string ta.name)).setCell (zD w3.heap.size 1) (.slice n ta.args.length m))):=⟨z.o.os,z.o.tape,z.o.output,by have:=z.o.size; simpa [World.setCell] using this,λb hb=>(cB b (by omega) (by omega)).trans (z.o.block b hb)⟩;have bX:(((((w3.alloc (zh tb c a)).setCell (zD w1.heap.size 0) (.string tb.name)).setCell (zD w1.heap.size 1) (.slice c tb.args.length a)).setCell (zD w3.heap.size 0) (.string ta.name)).setCell (zD w3.heap.size 1) (.slice n ta.args.length m)).heap.size=w3.heap.size+1:=(by simp[World.setCell]);have aV:Hid (Br true (Aj h) l ta tb=Cu true (Aj h) l tb.name ta):=Aa (by unfold Br;rw[Am (by have:=aX.o; have:=bb.o; omega),Am (by rw[aE.o]; simp),Aq bg.o]);have bE:Hid (¬Ch tb.name (AU [] (Aw [ta]))=true->Gt (Aj h) tb.name ta/\UI V (h++[(tb.name,ta)]) l):=λho=>L.o.bindV bg.o (Ae ⟨by rw[b3.o],by rw[b5.o]⟩) ho;have bF:=aX;have di:Hid (w1.heap.size<w3.heap.size):=Aa (by omega);clear S1 S2 S4 T2 T3 T4 cB aX bb bA bB;go_wp2_with (go_at_call 46; refine(Hb _ _).mono ?_; rintro e w' ⟨rfl,rfl⟩; (first|rw[aE.o]|rw[bg.o]));clear z cr bc BB cU a0 c9 b0 cA dq dr ds du;generalize (((((w3.alloc (zh tb c a)).setCell (zD w1.heap.size 0) (.string tb.name)).setCell (zD w1.heap.size 1) (.slice c tb.args.length a)).setCell (zD w3.heap.size 0) (.string ta.name)).setCell (zD w3.heap.size 1) (.slice n ta.args.length m))=w4 at *;have z:=bW;clear bW bX;have a0:=A4.o.c0;have b0:=B4.o.c0;have b1:=B4.o.c1;have VF:Hid (∀w',Below w4.heap.size w4 w'->Calls prog 28 #[.agg (zG ta n m)] w' λe M=>∃v',e=.returned v'/\LV Value.string M (λ_=>True) v' (AU [] (Aw [ta]))/\Below w4.heap.size w4 M/\(M.cell? (zD w1.heap.size 0)=some (.string tb.name)/\M.cell? (zD w3.heap.size 0)=some (.string ta.name)/\M.cell? (zD w3.heap.size 1)=some (.slice n ta.args.length m))):=λw' hb=>by
        refine(NN ta _ w' _ ⟨_,_,rfl,bk.o.later hb⟩ (by have:=bF.o; omega)).mono ?_;rintro e M ⟨v',rfl,hl,ct⟩;have F:=hb.trans (ct.mono hb.size);exact⟨v',rfl,hl.mono (λ_ _ _=>trivial),F,cell_later F a0,cell_later F b0,cell_later F b1⟩
       have bG:=Aa (And.intro a0 (And.intro b0 b1));go_region_held3 (λw'=>w'.cell? (zD w1.heap.size 0)=some (.string tb.name)/\w'.cell? (zD w3.heap.size 0)=some (.string ta.name)/\w'.cell? (zD w3.heap.size 1)=some (.slice n ta.args.length m)) (first|exact H|exact bG.o|go_keep)
        (first
         | (go_at_call 28; refine(VF.o _ (by first|exact Ac _ _|exact(Ac _ _).drew)).mono ?_; rintro e D ⟨v5,rfl,bl,bH,H⟩)
         | (go_at_call 47; refine(LF _ _ _ _ (λ_=>True) (by first|exact bl|exact bl.kept (λ_ _=>rfl))).mono ?_; rintro e w6 ⟨rfl,bm⟩; have H:w6.cell? (zD w1.heap.size 0)=some (.string tb.name)/\w6.cell? (zD w3.heap.size 0)=some (.string ta.name)/\w6.cell? (zD w3.heap.size 1)=some (.slice n ta.args.length m):=(by rw[bm]; first|exact H|go_keep)))
       rw[bm]at H;clear bm;have aY:=Aa bH;have cu:=Aa H;obtain⟨e0,e1,e2⟩:=H;have aH:=Aa (bk.o.later aY.o);clear bl bH VF bG a0 b0 b1 H bk A4 B4;cases aI:Ch tb.name (AU [] (Aw [ta])) with
       |true=>
        have y:Hid (R=(6,Aj h)):=by
         have e:Br true (Aj h) l ta tb=.stop 6 (Aj h):=by rw[aV.o]; unfold Cu; rw[Aq aI]
         rcases aj.o with ⟨e1,s',e2,e3⟩|⟨s',l',e2,_⟩
         ·rw[e]at e2; cases e2; exact e3
         ·rw[e]at e2; cases e2
        clear aI;go_wp2_with fail;refine Ao (v:=.tuple #[zB,zA 6]) (by simp[results,results25,go_sem]) rfl ?_;exact⟨q.o.trans ((z.o.trans (aY.o.mono z.o.size)).mono q.o.size),Ae ⟨by rw[y.o]; exact(by decide:(6:Int)≠0),by rw[y.o]⟩⟩
       |false=>
        have bI:=Aa aI;obtain⟨bJ,bK⟩:=bE.o (by rw[aI]; simp);have bn:=Aa bJ;have cw:=Aa bK;clear aI bJ bK bE;have az:Hid (Below wr.heap.size wr D):=z.o.trans (aY.o.mono z.o.size);obtain⟨ua,uc,rfl,dj,cx⟩:=aW.o;clear cx;have dk:(Aj h).length<=400000:=by rw[VI]; have:=L.o.hlen; omega
        have O7:=Aa (Ab.new D #[.string tb.name,.string ta.name,.slice n ta.args.length m] 93);have E:=Aa (az.o.alloc az.o.size (.cells #[.string tb.name,.string ta.name,.slice n ta.args.length m] 93));have bL:=Aa (aH.o.later ((Ac _ _).alloc (Af _) (.cells #[.string tb.name,.string ta.name,.slice n ta.args.length m] 93)));have dm:(D.alloc (zp #[.string tb.name,.string ta.name,.slice n ta.args.length m] 93)).heap.size=D.heap.size+1:=(by simp);go_wp2_with fail;generalize (D.alloc (zp #[.string tb.name,.string ta.name,.slice n ta.args.length m] 93))=C at *;have bo:=Aa ((VJ O7.o bL.o).mono (Y:=λb=>b<C.heap.size) λ_ _ h=>h);have bp:=Aa ((aW.o.later E.o).mono (Y:=λb=>b<C.heap.size) λ_ _ h=>h);have cy:=Aa (bC.o.later E.o);clear e0 e1 e2 cu aH aY az;go_loopw [9,10] (λu i wq=>VK C (Aj h) tb.name ta u i wq) (λu i wq=>(Aj h).length-(intOf i).toNat);case atStart=>exact⟨0,[],rfl,Bp _,Cs.start _ _ _,by simp,by simp,Ac _ _⟩
        case round=>
         obtain⟨k,cs,rfl,hk,ao,hcs,bM,hb⟩:=hrel;have I:=Aa ao;have O:=Aa hcs;have bq:=Aa bM;have f:=Aa hb;clear ao hcs bM;have cj:cs.length<=1000000:=by
          have h1:=Dt List.length O.o;simp at h1;omega
         by_cases J:k<(Aj h).length
         ·obtain⟨b',o',a',c',rfl,d0,d1,d2,hs⟩:=(bp.o.later hb).get k J;have bN:(k:Int)<((Aj h).length:Int):=(by omega);have HS:=Aa hs;have cz:Hid (Ah [(Aj h)[k].t]<=1000000):=Aa (by have:=VG cc.o (Bv J);omega);clear hb hs;have OE:=Ni (λb=>b<C.heap.size) [⟨tb.name,ta⟩] (Aj h)[k].t _ a' c' wr (bo.o.later f.o) HS.o cz.o;have br:Hid (((Aj h).take (k+1)).map (BJ tb.name ta)=((Aj h).take k).map (BJ tb.name ta)++[BJ tb.name ta (Aj h)[k]]):=by
           unfold Hid;rw[CI J,Db]; rfl
          have a6:Hid (Ah [Ag [⟨tb.name,ta⟩] (Aj h)[k].t]<=2000->∀d∈(Aj h).take (k+1),Ah [Ag [⟨tb.name,ta⟩] d.t]<=2000):=λhle d hd=>by
           rw[CI J]at hd;rcases BN.1 hd with hd|hd
           ·exact bq.o d hd
           ·have e:d=(Aj h)[k]:=(by simpa using hd);rw[e]; exact hle
          have a7:Hid (2000<Ah [Ag [⟨tb.name,ta⟩] (Aj h)[k].t]->AV ((Aj h).map (BJ tb.name ta))=true):=λB=>by
           unfold AV;rw[Fc];exact⟨BJ tb.name ta (Aj h)[k],Cx.2 ⟨_,Bv J,rfl⟩,J4 B⟩
          have bO:(BJ tb.name ta (Aj h)[k]).nm=(Aj h)[k].nm:=rfl;have bP:(BJ tb.name ta (Aj h)[k]).t=Ag [⟨tb.name,ta⟩] (Aj h)[k].t:=rfl;rw[<-bP]at OE a6 a7;rw[<-bO]at d0;generalize BJ tb.name ta (Aj h)[k]=d8 at *;generalize (Aj h)[k].t=dt at *;go_wp2_with fail;refine OE.mono ?_;clear OE bO bP;rintro e T ⟨s8,U,n8,Z,dn,rfl,aC,c4⟩;have aZ:=Aa (f.o.trans (aC.mono f.o.size));have aJ:=Aa (I.o.below aC);have aK:=Aa aC;have bQ:=cell_later aC d0;have dp:=aC.size;clear aC d0 d1 d2;rcases c4 with ⟨rfl,bs⟩|⟨rfl,hle,rfl,rfl,aL⟩
          ·have y:Hid (R=(8,Aj h)):=by
            have e:Br true (Aj h) l ta tb=.stop 8 (Aj h):=by rw[aV.o]; unfold Cu; rw[Am (by rw[bI.o]; simp),Aq (by rw[a7.o bs]; rfl)]
            rcases aj.o with ⟨e1,s',e2,e3⟩|⟨s',l',e2,_⟩
            ·rw[e]at e2; cases e2; exact e3
            ·rw[e]at e2; cases e2
           go_wp2_with fail;refine Ao (v:=.tuple #[zB,zA 8]) (by simp[results,results25,go_sem]) rfl ?_;have hz:=E.o.size;exact⟨(q.o.trans ((E.o.trans (aZ.o.mono E.o.size)).mono q.o.size)).alloc (AJ q.o.size (AJ E.o.size aZ.o.size)) _,Ae ⟨by rw[y.o]; exact(by decide:(8:Int)≠0),by rw[y.o]⟩⟩
          ·have c6:=Aa aL;have bt:=Aa (a6.o hle);clear aL a6 a7;go_wp2_with fail;have P9:=Aa (Ab.new T (zG d8.t U Z) 61);have aD:Below T.heap.size T (T.alloc (zh d8.t U Z)):=(Ac _ _).alloc (Af _) _;have ba:=Aa (aZ.o.trans (aD.mono aZ.o.size));have aq:=Aa (aJ.o.below aD);have bu:=Aa (aK.o.trans (aD.mono aK.o.size));have bw:=Aa (c6.o.later aD);have d3:=cell_later aD bQ;have q0:=P9.o.cell 0;have q1:=P9.o.cell 1;clear aD bQ P9;generalize T.alloc (zh d8.t U Z)=w9 at *;generalize T.heap.size=P at *;obtain⟨i0,hi,bR,aM,aN⟩:=Dw Tryz.infoBind;go_region_law (refine step_append_lies _ rfl _ _ 63 rfl C.heap.size 93 i0 _ 3 56 underlying63 hi bR aM aN rfl (by decide) u9 cs.length (DE cs) rfl (by exact(aq.o.below (below_drewN (Ac _ _) 1)).own.alloc _) (zD w9.heap.size 0) 1 1 (D5 (d8,U,Z)) rfl rfl (Ms _ _ _ _ _) (λx hx=>by simp[D5] at hx; rcases hx with rfl|rfl|rfl<;>rfl) (by decide) (by unfold maxLen; omega) (by omega) (by have:=ba.o.size; simp; omega) _ rfl ?_; intro g cap wA ag aa ar aO);all_goals
            have bS:=Aa (I.o.push (w1:=w9.drew) (x:=(d8,U,Z)) f.o.size (λb h=>h) (below_drewN bu.o 1) ((bw.o.later (below_drewN (Ac _ _) 1)).mono λb hb _=>by rcases hb with hb|hb; exact Ad hb.1; exact Ae (by omega)) _ rfl ag aa ar);have b4:Hid (Below C.heap.size C wA):=((below_drewN ba.o 1).alloc (by have:=ba.o.size; simp; omega) _).grown aa (by have:=ba.o.size; simp; omega) (λj hj=>by have:=(aq.o.own.lt j hj).1; omega);clear ag aa ar aO;go_wp2_with fail;go_roundw
            case rel=>exact⟨k+1,cs++[(d8,U,Z)],by go_num,by omega,bS.o,by rw[br.o,Db,O.o]; rfl,bt.o,b4.o⟩
            case measure=>simp[intOf]; omega
         ·have bd:(Aj h).take k=Aj h:=Bz (by omega);rw[bd]at O bq;have r0:wr.cell? (zD D.heap.size 0)=some (.string tb.name):=cell_later f.o (O7.o.cell 0);have r1:wr.cell? (zD D.heap.size 1)=some (.string ta.name):=cell_later f.o (O7.o.cell 1);have r2:wr.cell? (zD D.heap.size 2)=some (.slice n ta.args.length m):=cell_later f.o (O7.o.cell 2);obtain⟨v10,bf,ad,aP,au⟩:=Oa I.o f.o.size (λ_ h=>h) (Ac _ _) (⟨tb.name,ta⟩,n,m) ((bL.o.mono (Y:=λb=>b<C.heap.size) λ_ _ h=>h).later f.o |>.mono λb hb _=>Ad hb) cj wr.heap.size rfl;have ak:=Aa ad;have aw:Hid (Below C.heap.size C bf):=(f.o.alloc f.o.size _).grown au (by have:=f.o.size; simp; omega) (λj hj=>(I.o.own.lt j hj).1);have bT:((cs++[((⟨tb.name,ta⟩:Bd),n,m)]).map (·.1))=(Aj h).map (BJ tb.name ta)++[⟨tb.name,ta⟩]:=by rw[Db,O.o]; rfl
          have al:=aP.bv;rw[bT]at al;have bU:=U8 ((Aj h).map (BJ tb.name ta)++[⟨tb.name,ta⟩]) v10 bf _ al (by simp; omega);have bV:Hid (A0 true g1 (Aj (h++[(tb.name,ta)])) l=some R/\AV (Aj (h++[(tb.name,ta)]))=false):=by
           have B:AV ((Aj h).map (BJ tb.name ta))=false:=(by unfold AV;rw[List.any_eq_false];intro d hd;obtain⟨d',c7,rfl⟩:=Cx.1 hd;have:=bq.o d' c7;intro hc;have h2:2000<Ah [Ag [⟨tb.name,ta⟩] d'.t]:=Kc hc;omega);have e:Br true (Aj h) l ta tb=.go (CJ (Aj h) tb.name ta) l:=by rw[aV.o]; unfold Cu; rw[Am (by rw[bI.o]; simp),Am (by rw[B]; simp)]; rfl
           have hz:=bF.o;refine⟨?_,?_⟩
           ·rw[Fo];rcases aj.o with ⟨e1,s',e2,e3⟩|⟨s',l',e2,e3⟩
            ·rw[e]at e2; cases e2
            ·rw[e]at e2; cases e2; exact e3
           ·rw[Fo];unfold CJ;rw[Kq,B];simpa using hz
          clear ad aP au bT al bd hb;go_wp2_with (at_builtin; refine IB rfl _ _ _ _ rfl rfl rfl ak.o ?_);refine bU.mono ?_;clear bU;rintro e c8 ⟨v11,bx,rfl,aQ,a8,aR,aS⟩;have aT:Hid (BV c8 (λ_=>True) v11 (Aj (h++[(tb.name,ta)]))):=by
           unfold Hid;rw[Fo];have ap:=Kx (t:=ta) L.o.good.all.1 bn.o.2.1;have e:bx.map (·.1)=CJ (Aj h) tb.name ta:=NL (a8.trans (EU _).symm) (NM (ap.perm a8) (Ib.2 aR)) (LM _ ap);rw[<-e];exact aQ.bv.mono λ_ _ _=>trivial
          have aU:=Aa (aw.o.trans (aS.mono aw.o.size));clear aQ a8 aR aS;go_wp2_with fail;go_roundg g1
          case rel=>exact⟨h++[(tb.name,ta)],l,cw.o,bV.o.2,bV.o.1,aT.o,cy.o.later aU.o,q.o.trans ((E.o.trans (aU.o.mono E.o.size)).mono q.o.size)⟩
          case measure=>have:=cf.o; omega
      |false=>
       have bg:=Aa hvb;clear hvb;have aV:Hid (Br true (Aj h) l ta tb=if ta.name=tb.name/\ta.args.length=tb.args.length then .go (Aj h) (AD ta.args tb.args++l) else .stop 5 (Aj h)):=Aa (by unfold Br;rw[Am (by have:=aX.o; have:=bb.o; omega),Am (by rw[aE.o]; simp),Am (by rw[bg.o]; simp)]);have CL:Hid (¬(ta.name=tb.name/\ta.args.length=tb.args.length)->R=(5,Aj h)):=λhn=>by
        have e:Br true (Aj h) l ta tb=.stop 5 (Aj h):=(by rw[aV.o,Am hn]);rcases aj.o with ⟨e1,s',e2,e3⟩|⟨s',l',e2,_⟩
        ·rw[e]at e2; cases e2; exact e3
        ·rw[e]at e2; cases e2
       by_cases G:ta.name=tb.name
       ·have ch:=IE G;by_cases bz:ta.args.length=tb.args.length
        ·have dv:((ta.args.length:Int)==(tb.args.length:Int))=true:=(by simp[bz]);have cl:=Aa bz;have bD:=Aa G;have bh:=Aa (L.o.deep (by rw[b5.o]; exact aX.o) (by rw[b3.o]; exact bb.o) (by rw[b5.o,b3.o]; exact bz)).1;rw[b5.o,b3.o]at bh;have aG:Hid (A0 true g1 (Aj h) (AD ta.args tb.args++l)=some R):=by
          have e:Br true (Aj h) l ta tb=.go (Aj h) (AD ta.args tb.args++l):=(by rw[aV.o,Aq ⟨G,bz⟩]);rcases aj.o with ⟨e1,s',e2,e3⟩|⟨s',l',e2,e3⟩
          ·rw[e]at e2; cases e2
          ·rw[e]at e2; cases e2; exact e3
         have dI:ta.args.length<=2000:=(by have h1:=Ie ta.args;have h2:=JP ta;have h3:=aX.o;omega);have dJ:l.length<=900000000:=by have h1:=L.o.llen; simp at h1; omega
         have cC:=Aa (bB.o.mono (Y:=λb=>b<(w3.alloc (zh tb c a)).heap.size) λ_ _ h=>h);have cD:=Aa (bA.o.mono (Y:=λb=>b<(w3.alloc (zh tb c a)).heap.size) λ_ _ h=>h);have dw:=Aa ((bC.o.later z.o).mono (Y:=λb=>b<(w3.alloc (zh tb c a)).heap.size) λ_ _ h=>h);clear bz G CL bA bB;go_wp2_with (go_at_call 46; refine(Hb _ _).mono ?_; rintro e w' ⟨rfl,rfl⟩; (first|rw[aE.o]|rw[bg.o]));generalize (w3.alloc (zh tb c a))=wS at *;go_loopw [13,14] (λu i wq=>pP wS ta.args tb.args u i wq) (λu i wq=>ta.args.length-(intOf i).toNat);case atStart=>exact⟨0,[],rfl,Bp _,Ez.start _ _ _,by simp,Ac _ _⟩
         case round=>
          obtain⟨k,cs,rfl,hk,ao,hcs,hb⟩:=hrel;have I:=Aa ao;have O:=Aa hcs;have f:=Aa hb;have cj:cs.length<=1000000:=by
           have h1:=Dt List.length hcs;simp at h1;omega
          have e1:wr.cell? (zD w1.heap.size 1)=some (.slice n ta.args.length m):=cell_later hb c9;have e2:wr.cell? (zD w3.heap.size 1)=some (.slice c tb.args.length a):=cell_later hb cA;clear ao hcs hb;by_cases J:k<ta.args.length
          ·have bN:(k:Int)<(ta.args.length:Int):=(by omega);have bY:k<tb.args.length:=by have:=cl.o; omega
           have dx:(k:Int)<(tb.args.length:Int):=(by omega);obtain⟨b1,o1,y1,d1,cE,p0,p1,dy⟩:=cD.o.get (Ac _ _) (λ_ _ h=>h) k J;obtain⟨b2,o2,y2,d2,cF,r0,r1,dz⟩:=cC.o.get (Ac _ _) (λ_ _ h=>h) k bY;subst cE;subst cF;have P0:=Aa p0;have P1:=Aa p1;have R0:=Aa r0;have R1:=Aa r1;clear p0 p1 r0 r1;obtain⟨av,cv,ev,bZ⟩:=dy;simp at ev;obtain⟨rfl,rfl⟩:=ev;obtain⟨av,cv,ev,ca⟩:=dz;simp at ev;obtain⟨rfl,rfl⟩:=ev;have dA:=Aa (bZ.later f.o);have dB:=Aa (ca.later f.o);have dC:Hid ((AD ta.args tb.args).take (k+1)=(AD ta.args tb.args).take k++[⟨ta.args[k],tb.args[k]⟩]):=Aa (by rw[CI (by rw[Pi cl.o]; exact J),VH k J bY]);clear bZ ca;generalize ta.args[k]=tA at *;generalize tb.args[k]=tB at *;obtain⟨i0,hi,bR,aM,aN⟩:=Dw Tryz.infoPair;have KG:Hid (∀W:World,Below wS.heap.size wS W->Nj w1.heap.size w3.heap.size b1 b2 (o1+k*2) (o2+k*2) o1 o2 ta.args.length tb.args.length tA tB y1 y2 m a d1 d2 W):=λW hW=>⟨cell_later hW c9,cell_later hW P0.o,cell_later hW P1.o,cell_later hW cA,cell_later hW R0.o,cell_later hW R1.o⟩;have cV:Nj w1.heap.size w3.heap.size b1 b2 (o1+k*2) (o2+k*2) o1 o2 ta.args.length tb.args.length tA tB y1 y2 m a d1 d2 wr.drew:=KG.o _ (below_drewN f.o 1);have cg:Hid (∀o,Nj w1.heap.size w3.heap.size b1 b2 (o1+k*2) (o2+k*2) o1 o2 ta.args.length tb.args.length tA tB y1 y2 m a d1 d2 (wr.drew.alloc o)):=λo=>KG.o _ ((below_drewN f.o 1).alloc (by have:=f.o.size; simp; omega) o);have cG:=Aa (I.o.below (below_drewN (Ac _ _) 1)).own;go_wp2_with fail;refine Co (S:=Nj w1.heap.size w3.heap.size b1 b2 (o1+k*2) (o2+k*2) o1 o2 ta.args.length tb.args.length tA tB y1 y2 m a d1 d2) (by kernel_rfl) cV λhH=>?_;clear cV;refine tkz 0 ?_ (hy:=by intro w' A;obtain⟨j1,j2,j3,j4,j5,j6⟩:=A;go_simp<;>with_reducible rfl);refine tkz 1 ?_ (hy:=by intro w' A;obtain⟨j1,j2,j3,j4,j5,j6⟩:=A;go_simp<;>with_reducible rfl);refine tkz 2 ?_ (hy:=by intro w' A;obtain⟨j1,j2,j3,j4,j5,j6⟩:=A;go_simp<;>with_reducible rfl);refine tkz 3 ?_ (hy:=by intro w' A;obtain⟨j1,j2,j3,j4,j5,j6⟩:=A;go_simp<;>with_reducible rfl);refine tkz 4 ?_ (hy:=by intro w' A;obtain⟨j1,j2,j3,j4,j5,j6⟩:=A;go_simp<;>with_reducible rfl);refine tkz 5 ?_ (hy:=by intro w' A;obtain⟨j1,j2,j3,j4,j5,j6⟩:=A;go_simp<;>with_reducible rfl);refine tkz 6 ?_ (hy:=by intro w' A;obtain⟨j1,j2,j3,j4,j5,j6⟩:=A;go_simp<;>with_reducible rfl);refine tkz 7 ?_ (hy:=by intro w' A;obtain⟨j1,j2,j3,j4,j5,j6⟩:=A;go_simp<;>with_reducible rfl);refine tkz 8 ?_ (hy:=by intro w' A;obtain⟨j1,j2,j3,j4,j5,j6⟩:=A;go_simp<;>with_reducible rfl);refine tkz 9 ?_ (hy:=by intro w' A;obtain⟨j1,j2,j3,j4,j5,j6⟩:=A;go_simp<;>with_reducible rfl);refine tkz 10 ?_ (hy:=by intro w' A;obtain⟨j1,j2,j3,j4,j5,j6⟩:=A;go_simp<;>with_reducible rfl);refine tkz 11 ?_ (hy:=by intro w' A;obtain⟨j1,j2,j3,j4,j5,j6⟩:=A;go_simp<;>with_reducible rfl);refine rdq 12 rfl λK hK=>?_;go_simp;refine zo hK (by exact cg.o _) λhH=>?_;clear hK K;refine rdq 13 rfl λK hK=>?_;refine step_append_lies _ rfl _ _ 56 rfl wS.heap.size 89 i0 _ 4 80 underlying56 hi bR aM aN rfl (by decide) u13 cs.length (Dg cs) rfl (by exact cG.o.alloc _) (zD wr.heap.size 0) 1 1 [.string tA.name,.slice y1 tA.args.length d1,.string tB.name,.slice y2 tB.args.length d2] rfl rfl (by exact RC _ _ _ _ _ _) (λx hx=>by simp at hx; rcases hx with rfl|rfl|rfl|rfl<;>rfl) (by decide) (by unfold maxLen; omega) (by omega) (by have:=f.o.size; simp; omega) _ rfl ?_;intro g cap wA ag aa ar aO;have bS:=Aa (I.o.push (w1:=wr.drew) (x:=(⟨tA,tB⟩,(y1,d1),(y2,d2))) f.o.size (λb h=>h) (below_drewN (Ac _ _) 1) ⟨(dA.o.later (below_drewN (Ac _ _) 1)).mono λb hb _=>Ad hb,(dB.o.later (below_drewN (Ac _ _) 1)).mono λb hb _=>Ad hb⟩ _ rfl ag aa ar);have b4:Hid (Below wS.heap.size wS wA):=((below_drewN f.o 1).alloc (by have:=f.o.size; simp; omega) _).grown aa (by have:=f.o.size; simp; omega) (λj hj=>by have:=(I.o.own.lt j hj).1; omega);refine hK.o _ _ (by exact KG.o _ b4.o) λhH=>?_;clear ag aa ar aO;clear hK K;(try simp only[Act.put,sq]);refine tkz 14 ?_ (hy:=by intro w' A;obtain⟨j1,j2,j3,j4,j5,j6⟩:=A;go_simp<;>with_reducible rfl);refine dnq ?_;clear hH;go_wp2_with fail;refine⟨⟨?z0,?z1,?z2,?z3,?z4,?z5,?z6,?z7,?z8,?z9,?z10,?z11,?z12,?z13,?z14,?z15,?z16,?z17,?z18,?z19,?z20,?z21,?z22,?rel,?fr⟩,?measure⟩;case fr=>
            refine Dt (λt=>Act.mk t []) (Dt List.toArray ?_);repeat' (refine pQ ?_ ?_)
            all_goals (try rfl)
            all_goals simp[cl.o]
           case rel=>exact⟨k+1,cs++[(⟨tA,tB⟩,(y1,d1),(y2,d2))],by go_num,by omega,bS.o,by rw[dC.o,Db,O.o]; rfl,b4.o⟩
           case measure=>simp[intOf]; omega
          ·have bd:(AD ta.args tb.args).take k=AD ta.args tb.args:=Bz (by rw[Pi cl.o]; omega);rw[bd]at O;obtain⟨v10,bf,ad,cb,au⟩:=ZZ I.o f.o.size (λ_ h=>h) (dw.o.later f.o) (by omega);have ak:=Aa ad;have aw:Hid (Below wS.heap.size wS bf):=f.o.grown au (by have:=f.o.size; omega) (λj hj=>(I.o.own.lt j hj).1);have cH:Hid (QV bf (λ_=>True) v10 (AD ta.args tb.args++l)):=Aa (by rw[<-O.o];exact cb.mono λ_ _ _=>trivial);clear ad cb au bd;go_wp2_with (at_builtin; refine IB rfl _ _ _ _ rfl rfl rfl ak.o ?_);go_roundg g1
           case rel=>exact⟨h,AD ta.args tb.args++l,bh.o,cc.o,aG.o,aW.o.later (z.o.trans (aw.o.mono z.o.size)),cH.o,q.o.trans ((z.o.trans (aw.o.mono z.o.size)).mono q.o.size)⟩
           case measure=>have:=cf.o; omega
        ·have dv:((ta.args.length:Int)==(tb.args.length:Int))=false:=Dx.2 (by omega);have y:=Aa (CL.o λhh=>bz hh.2);clear bz G;go_wp2_with (go_at_call 46; refine(Hb _ _).mono ?_; rintro e w' ⟨rfl,rfl⟩; (first|rw[aE.o]|rw[bg.o]));refine Ao (v:=.tuple #[zB,zA 5]) (by simp[results,results25,go_sem]) rfl ?_;exact⟨q.o.trans (z.o.mono q.o.size),Ae ⟨by rw[y.o]; exact(by decide:(5:Int)≠0),by rw[y.o]⟩⟩
       ·have ch:=Kk G;have y:=Aa (CL.o λhh=>G hh.1);clear G;go_wp2_with (go_at_call 46; refine(Hb _ _).mono ?_; rintro e w' ⟨rfl,rfl⟩; (first|rw[aE.o]|rw[bg.o]));refine Ao (v:=.tuple #[zB,zA 5]) (by simp[results,results25,go_sem]) rfl ?_;exact⟨q.o.trans (z.o.mono q.o.size),Ae ⟨by rw[y.o]; exact(by decide:(5:Int)≠0),by rw[y.o]⟩⟩
