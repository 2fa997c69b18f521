import Derived.Test.YtgbcafaibocebaaGreatDoorZGCriticalMadeOwn
import Derived.Deep.LoopGhost
namespace Go.Proofs.YtgbcafaibocebaaGreatDoor
set_option linter.all false
set_option maxRecDepth 20000
set_option maxHeartbeats 8000000
open Go.RowKit Go.Proofs.Tryz
def Sr (X:Nat->Prop) (t:Tm) (s1:ByteArray) (a1:Option Addr) (n1 c1:Nat) (okb:Bool) (w w':World):Prop:=
 (okb=false/\2000<Ab [t])∨(okb=true/\Ab [t]<=2000/\s1=t.name/\n1=t.args.length/\Sl w' (λb=>(X b/\b<w.heap.size)∨w.heap.size<=b) a1 t.args)
theorem Hr (X:Nat->Prop) (ls:List Bd) (t:Tm) (u:Value) (a:Option Addr) (c:Nat) (w:World) (hu:BV w X u ls) (hs:Sl w X a t.args) (d:Ab [t]<=1000000):
  Calls prog 40 #[u,.agg (zF t a c)] w λe w'=>∃s1 a1 b c1 aa,e=.returned (.tuple #[.agg #[.string s1,.slice a1 b c1],.bool aa])/\Below w.heap.size w w'/\Sr X (Ag ls t) s1 a1 b c1 aa w w':=by
 refine(Ql ls t u _ w X hu ⟨a,c,rfl,hs⟩ d).mono ?_;rintro e w1 ⟨ab,⟨h1,rfl⟩|⟨h1,a1,c1,rfl,f⟩⟩
 ·exact⟨_,_,_,_,_,rfl,ab,Ad ⟨rfl,h1⟩⟩
 ·exact⟨_,_,_,_,_,rfl,ab,Ae ⟨rfl,h1,rfl,rfl,f⟩⟩
def eD (w:World) (R:Int×List Bd) (e:Ending) (w':World):Prop:=
 Below w.heap.size w w'/\((R.1=0/\∃v,e=.returned (.tuple #[v,zA 0])/\BV w' (λ_=>True) v R.2)∨(R.1≠0/\e=.returned (.tuple #[zB,zA R.1])))
def eE (V:List ByteArray) (w:World) (R:Int×List Bd) (g:Nat) (sv lv:Value) (wr:World):Prop:=
 ∃(h:List (ByteArray×Tm)) (l:List Pr),UI V h l/\AF (Ak h)=false/\AU true g (Ak h) l=some R/\BV wr (λ_=>True) sv (Ak h)/\QV wr (λ_=>True) lv l/\Below w.heap.size w wr
theorem eF {lim:Bool} {g:Nat} {s:List Bd} {p:Pr} {l:List Pr} {R:Int×List Bd} (h:AU lim g s (p::l)=some R):∃g',g=g'+1/\((∃e s',Bh lim s l (Ag s p.l) (Ag s p.r)=.stop e s'/\R=(e,s'))∨∃s' l',Bh lim s l (Ag s p.l) (Ag s p.r)=.go s' l'/\AU lim g' s' l'=some R):=by
 cases g with
 |zero=>cases h
 |succ g=>
  refine⟨g,rfl,?_⟩;rw[AU,E8]at h;cases hn:Bh lim s l (Ag s p.l) (Ag s p.r) with
  |stop e s'=>rw[hn] at h; cases h; exact Ad ⟨e,s',rfl,rfl⟩
  |go s' l'=>rw[hn] at h; exact Ae ⟨s',l',rfl,h⟩
theorem eG {lim:Bool} {g:Nat} {s:List Bd} {p:Pr} {l:List Pr} {R:Int×List Bd} {a b:Tm} (h:AU lim g s (p::l)=some R) (c:Ag s p.l=a) (hb:Ag s p.r=b):∃g',g=g'+1/\((∃e s',Bh lim s l a b=.stop e s'/\R=(e,s'))∨∃s' l',Bh lim s l a b=.go s' l'/\AU lim g' s' l'=some R):=by
 subst c; subst hb; exact eF h
theorem Ss {s:List Bd} (h:AF s=false) {d:Bd} (hd:d∈s):Ab [d.t]<=2000:=by
 unfold AF at h;rw[List.any_eq_false]at h;have:=h d hd;simp at this;exact this
theorem NC:∀ {a b:List Tm},a.length=b.length->(Az a b).length=a.length
 | [],[],_=>rfl
 | [],_::_,h=>by simp at h
 |_::_,[],h=>by simp at h
 |t::a,u::b,h=>by rw[Az,Bu,NC (by simpa using h),Bu]
theorem St:∀ {a b:List Tm} (k:Nat) (h1:k<a.length) (h2:k<b.length) {h3:k<(Az a b).length},(Az a b)[k]=⟨a[k],b[k]⟩
 | [],_,k,h,_,_=>by simp at h
 |_::_,[],k,_,h,_=>by simp at h
 |t::a,u::b,0,_,_,_=>rfl
 |t::a,u::b,k+1,h1,h2,h3=>by
  have:=St (a:=a) (b:=b) k (by simpa using h1) (by simpa using h2) (h3:=by simpa [Az] using h3);simpa [Az] using this
def LE (A B b1 b2 p1 p2 o1 o2 n1 n2:Nat) (tA tB:Tm) (y1 y2:Option Addr) (k1 k2 d1 d2:Nat) (w':World):Prop:=
 w'.cell? (zD A 1)=some (.slice (some (zD b1 o1)) n1 k1)/\w'.cell? (zD b1 p1)=some (.string tA.name)/\w'.cell? ⟨b1,p1+1,none⟩=some (.slice y1 tA.args.length d1)/\w'.cell? (zD B 1)=some (.slice (some (zD b2 o2)) n2 k2)/\w'.cell? (zD b2 p2)=some (.string tB.name)/\w'.cell? ⟨b2,p2+1,none⟩=some (.slice y2 tB.args.length d2)
def eH (w4:World) (lA lB:List Tm) (u i:Value) (wq:World):Prop:=
 ∃(k:Nat) (cs:List Pc),i=zA k/\k<=lA.length/\Cm wq w4.heap.size (λb=>b<w4.heap.size) u cs/\cs.map (·.1)=(Az lA lB).take k/\Below w4.heap.size w4 wq
theorem eI {a b:Value} {l k:List Value} (h:a=b) (h2:l=k):a::l=b::k:=by rw[h,h2]
theorem Su:∀h:List (ByteArray×Tm),(Ak h).length=h.length:=λh=>by
 obtain⟨k,hk⟩:∃k:List (ByteArray×Tm),k.reverse=h:=⟨h.reverse,List.reverse_reverse h⟩;subst hk;induction k with
 |nil=>simp[Ak]
 |cons p r a=>rw[List.reverse_cons,FE];unfold Cz;rw[(EO _).length_eq];simp[a]
theorem Sv {w:World} {B:Nat} {n:ByteArray} {t:Tm} {a:Option Addr} {c T:Nat} (h:Ac w B #[.string n,.string t.name,.slice a t.args.length c] T) (hs:Sl w (λ_=>True) a t.args):BV w (λ_=>True) (.slice (some (zD B 0)) 1 1) [⟨n,t⟩]:=by
 refine⟨some (zD B 0),1,rfl,by simp,Ae ⟨B,0,rfl,trivial,λi hi=>?_⟩⟩;have e:i=0:=by simp at hi; omega
 subst e;exact⟨h.cell 0,h.cell 1,a,c,h.cell 2,hs⟩
def Sw (w7:World) (s:List Bd) (x:ByteArray) (t:Tm) (u i:Value) (wq:World):Prop:=
 ∃(k:Nat) (cs:List Bc),i=zA k/\k<=s.length/\Bj wq w7.heap.size (λb=>b<w7.heap.size) u cs/\cs.map (·.1)=(s.take k).map (Br x t)/\(∀d∈s.take k,Ab [Ag [⟨x,t⟩] d.t]<=2000)/\Below w7.heap.size w7 wq
theorem eJ (V:List ByteArray) (hV:V.length<=400000) (R:Int×List Bd) (N:Nat) (l0:List Pr) (v:Value) (w:World) (X:Nat->Prop) (hv:QV w X v l0) (hU:UI V [] l0) (hR:AU true N [] l0=some R):
  Calls prog 39 #[v] w λe w'=>eD w R e w':=by
 have HV:=Aa (hv.mono (Y:=λ_=>True) λ_ _ _=>trivial);have HR:=Aa hR;have M:=Aa hU;clear hR hv hU;go_enter func39,ntmps39;go_wp2_with fail;go_loopg [4,0] N (λg s l wr=>eE V w R g s l wr)
 case atStart=>exact⟨[],l0,M.o,by simp[Ak,AF],HR.o,⟨none,0,rfl,by simp[Ak],Ad rfl⟩,HV.o,Af _ _⟩
 case round=>
  obtain⟨h,l,hU,cH,hR,cI,cJ,hb⟩:=hrel;clear HR M HV;have M:=Aa hU;have cc:=Aa cH;have HR:=Aa hR;have aW:=Aa cI;have cK:=Aa cJ;have n:=Aa hb;obtain⟨qa,qc,rfl,cL,cV⟩:=cJ;clear hR cI hb cV hU cH;cases l with
  |nil=>
   have q:Hid (R=(0,Ak h)):=by
    have h1:=HR.o;cases gk with
    |zero=>cases h1
    |succ gk=>rw[AU] at h1; simp[Ez] at h1; exact h1.symm
   go_wp2_with fail;refine An (v:=.tuple #[u4,zA 0]) (by simp[results,results39,go_sem]) rfl ?_;exact⟨n.o,Ad ⟨by rw[q.o],u4,rfl,by rw[q.o]; exact aW.o⟩⟩
  |cons p l=>
   have hz:=M.o.size p (by simp);obtain⟨b,o,a1,c1,a2,c2,rfl,d0,d1,d2,d3,cm,cn⟩:=cK.o.get 0 (by simp);simp only[EI,Nat.zero_mul,F9,Bu] at d0 d1 d2 d3 cm cn cL;obtain⟨cW,cp⟩:=cL;have dC:b<wr.heap.size:=Ej d0;have cX:=Aa cn;obtain⟨ta,cd⟩:∃ta,Ag (Ak h) p.l=ta:=⟨_,rfl⟩;obtain⟨tb,cq⟩:∃tb,Ag (Ak h) p.r=tb:=⟨_,rfl⟩;have b5:=Aa cd;have b3:=Aa cq;have OA:=Hr (λ_=>True) (Ak h) p.l u4 a1 c1 wr aW.o cm (by omega);rw[cd]at OA;obtain⟨g1,cM,b6⟩:=eG HR.o cd cq;have cf:=Aa cM;have aj:=Aa b6;have cY:Hid (Ab [p.r]<=1000000):=Aa (by omega);clear cm cn cd cq cM b6 HR hz;go_wp2_with fail;refine OA.mono ?_;rintro e w1 ⟨s1,m,n1,k1,dD,rfl,bj,cZ⟩;have b7:=Aa bj;have dE:wr.heap.size<=w1.heap.size:=bj.size;have da:∀o',(w1.alloc o').cell? ⟨b,o+2,none⟩=some (.string p.r.name):=λo'=>cell_later (bj.alloc bj.size o') d2;have db:∀o',(w1.alloc o').cell? ⟨b,o+2+1,none⟩=some (.slice a2 p.r.args.length c2):=λo'=>cell_later (bj.alloc bj.size o') d3;clear bj d0 d1 d2 d3 OA;rcases cZ with ⟨rfl,B⟩|⟨rfl,B,rfl,rfl,cN⟩
   ·have q:Hid (R=(8,Ak h)):=by
     have e:Bh true (Ak h) l ta tb=.stop 8 (Ak h):=by unfold Bh; rw[Ar (Ad B)]
     rcases aj.o with ⟨F,s',a,y⟩|⟨s',l',a,_⟩
     ·rw[e]at a; cases a; exact y
     ·rw[e]at a; cases a
    clear B;go_wp2_with fail;refine An (v:=.tuple #[zB,zA 8]) (by simp[results,results39,go_sem]) rfl ?_;exact⟨(n.o.trans (b7.o.mono n.o.size)).alloc (AY n.o.size b7.o.size) _,Ae ⟨by rw[q.o]; exact(by decide:(8:Int)≠0),by rw[q.o]⟩⟩
   ·have aX:=Aa B;have cO:=Aa (cN.mono (Y:=λb=>b<w1.heap.size) λ_ _ h=>h);have BA:=Aa (Ac.new w1 (zF ta m k1) 33);have aF:=Aa (b7.o.alloc b7.o.size (.cells (zF ta m k1) 33));have b8:=Aa (cO.o.later ((Af _ _).alloc (Ai _) (.cells (zF ta m k1) 33)));have dc:(w1.alloc (.cells (zF ta m k1) 33)).heap.size=w1.heap.size+1:=(by simp);clear B cN;go_wp2_with fail;generalize (w1.alloc (.cells (zF ta m k1) 33))=w2 at *;have OB:=Hr (λ_=>True) (Ak h) p.r u4 a2 c2 w2 (aW.o.later aF.o) (cX.o.later aF.o) cY.o;rw[b3.o]at OB;refine OB.mono ?_;clear OB;rintro e w3 ⟨s2,f,n2,c,dF,rfl,G,dd⟩;have b9:=Aa (aF.o.trans (G.mono aF.o.size));have cP:=Aa (BA.o.below G (by omega));have cQ:=Aa (b8.o.later G);have dG:w1.heap.size+1<=w3.heap.size:=by have:=G.size; omega
    clear G;rcases dd with ⟨rfl,B⟩|⟨rfl,B,rfl,rfl,cR⟩
    ·have q:Hid (R=(8,Ak h)):=by
      have e:Bh true (Ak h) l ta tb=.stop 8 (Ak h):=by unfold Bh; rw[Ar (Ae B)]
      rcases aj.o with ⟨F,s',a,y⟩|⟨s',l',a,_⟩
      ·rw[e]at a; cases a; exact y
      ·rw[e]at a; cases a
     clear B;go_wp2_with fail;refine An (v:=.tuple #[zB,zA 8]) (by simp[results,results39,go_sem]) rfl ?_;exact⟨(n.o.trans (b9.o.mono n.o.size)).alloc (AY n.o.size b9.o.size) _,Ae ⟨by rw[q.o]; exact(by decide:(8:Int)≠0),by rw[q.o]⟩⟩
    ·have bb:=Aa B;have cS:=Aa (cR.mono (Y:=λ_=>True) λ_ _ _=>trivial);have BB:=Aa (Ac.new w3 (zF tb f c) 33);have bc:=Aa (cP.o.alloc (.cells (zF tb f c) 33));have z:=Aa (b9.o.alloc b9.o.size (.cells (zF tb f c) 33));have bA:=Aa (cQ.o.later ((Af _ _).alloc (Ai _) (.cells (zF tb f c) 33)));have bB:=Aa (cS.o.later ((Af _ _).alloc (Ai _) (.cells (zF tb f c) 33)));have cr:(w3.alloc (.cells (zF tb f c) 33)).heap.size=w3.heap.size+1:=(by simp);have bC:=Aa (cK.o.tail);obtain⟨sa,cg⟩:∃sa:Option Addr,Hid ((if qc=1 then some ((zD b o):Addr) else some ⟨b,o+4,none⟩)=sa):=⟨_,rfl⟩;have de:∀w':World,Sem.run prog (Instr.slice 23 (.slice (some (zD b o)) (l.length+1) qc) (some (zA 1)) none none) w'=.ok (.slice sa l.length (qc-1)) w':=λw'=>by
      rw[ZK b o l.length qc cp w',cg.o]
     rw[cg.o]at bC;have df:(1:Int)<=(l.length:Int)+1:=(by omega);clear B cR cQ cP cS cO b8 BA b7 aF b9 da db dc;have cT:(w3.alloc (.cells (zF tb f c) 33)).cell? (zD w1.heap.size 0)=some (.string ta.name):=bc.o.cell 0;cases hva:Al ta.name with
     |true=>
      have aE:=Aa hva;clear hva;by_cases H:ta.name=tb.name
      ·have ch:=Ia H;have bD:=Aa H;clear H;have aG:Hid (AU true g1 (Ak h) l=some R):=by
        have e:Bh true (Ak h) l ta tb=.go (Ak h) l:=by unfold Bh; rw[Aj (by have:=aX.o; have:=bb.o; omega),Ar aE.o,Ar bD.o]
        rcases aj.o with ⟨F,s',a,y⟩|⟨s',l',a,y⟩
        ·rw[e]at a; cases a
        ·rw[e]at a; cases a; exact y
       go_wp2_with (go_at_call 21; refine(Dy _ _).mono ?_; rintro e w' ⟨rfl,rfl⟩; rw[aE.o]);go_roundg g1
       case rel=>exact⟨h,l,M.o.drop,cc.o,aG.o,aW.o.later z.o,bC.o.later z.o,n.o.trans (z.o.mono n.o.size)⟩
       case measure=>have:=cf.o; omega
      ·have ch:=JG H;have bD:=Aa H;clear H;go_wp2_with (go_at_call 21; refine(Dy _ _).mono ?_; rintro e w' ⟨rfl,rfl⟩; rw[aE.o]);have aV:Hid (Bh true (Ak h) l ta tb=CI true (Ak h) l ta.name tb):=Aa (by unfold Bh;rw[Aj (by have:=aX.o; have:=bb.o; omega),Ar aE.o,Aj bD.o]);have bE:Hid (¬AJ ta.name (At [] (Ao [tb]))=true->FZ (Ak h) ta.name tb/\UI V (h++[(ta.name,tb)]) l):=λho=>M.o.bindV aE.o (Ad ⟨by rw[b5.o],by rw[b3.o]⟩) ho;have bk:=bB;have bF:=bb;have A4:=bc;have B4:=BB;have dh:Hid (w1.heap.size<w3.heap.size):=Aa (by omega);generalize (w3.alloc (.cells (zF tb f c) 33))=w4 at *;clear aX bb bA bB bc BB cT bD ch;have a0:=A4.o.c0;have b0:=B4.o.c0;have b1:=B4.o.c1;have VF:Hid (∀w',Below w4.heap.size w4 w'->Calls prog 22 #[.agg (zF tb f c)] w' λe O=>∃v',e=.returned v'/\LV Value.string O (λ_=>True) v' (At [] (Ao [tb]))/\Below w4.heap.size w4 O/\(O.cell? (zD w1.heap.size 0)=some (.string ta.name)/\O.cell? (zD w3.heap.size 0)=some (.string tb.name)/\O.cell? (zD w3.heap.size 1)=some (.slice f tb.args.length c))):=λw' hb=>by
        refine(IR tb _ w' _ ⟨_,_,rfl,bk.o.later hb⟩ (by have:=bF.o; omega)).mono ?_;rintro e O ⟨v',rfl,hl,hb2⟩;have G:=hb.trans (hb2.mono hb.size);exact⟨v',rfl,hl.mono (λ_ _ _=>trivial),G,cell_later G a0,cell_later G b0,cell_later G b1⟩
       have bG:=Aa (And.intro a0 (And.intro b0 b1));go_region_held3 (λw'=>w'.cell? (zD w1.heap.size 0)=some (.string ta.name)/\w'.cell? (zD w3.heap.size 0)=some (.string tb.name)/\w'.cell? (zD w3.heap.size 1)=some (.slice f tb.args.length c)) (first|exact I|exact bG.o|go_keep)
        (first
         | (go_at_call 22; refine(VF.o _ (by first|exact Af _ _|exact(Af _ _).drew)).mono ?_; rintro e D ⟨v5,rfl,bl,bH,I⟩)
         | (go_at_call 23; refine(Id _ _ _ _ (λ_=>True) (by first|exact bl|exact bl.kept (λ_ _=>rfl))).mono ?_; rintro e w6 ⟨rfl,bm⟩; have I:w6.cell? (zD w1.heap.size 0)=some (.string ta.name)/\w6.cell? (zD w3.heap.size 0)=some (.string tb.name)/\w6.cell? (zD w3.heap.size 1)=some (.slice f tb.args.length c):=(by rw[bm]; first|exact I|go_keep)))
       rw[bm]at I;clear bm;have aY:=Aa bH;have ct:=Aa I;obtain⟨e0,F,a⟩:=I;have aH:=Aa (bk.o.later aY.o);clear bl bH VF bG a0 b0 b1 I bk A4 B4;cases aI:AJ ta.name (At [] (Ao [tb])) with
       |true=>
        have q:Hid (R=(6,Ak h)):=by
         have e:Bh true (Ak h) l ta tb=.stop 6 (Ak h):=by rw[aV.o]; unfold CI; rw[Ar aI]
         rcases aj.o with ⟨F,s',a,y⟩|⟨s',l',a,_⟩
         ·rw[e]at a; cases a; exact y
         ·rw[e]at a; cases a
        clear aI;go_wp2_with fail;refine An (v:=.tuple #[zB,zA 6]) (by simp[results,results39,go_sem]) rfl ?_;exact⟨n.o.trans ((z.o.trans (aY.o.mono z.o.size)).mono n.o.size),Ae ⟨by rw[q.o]; exact(by decide:(6:Int)≠0),by rw[q.o]⟩⟩
       |false=>
        have bI:=Aa aI;obtain⟨bJ,bK⟩:=bE.o (by rw[aI]; simp);have bn:=Aa bJ;have cu:=Aa bK;clear aI bJ bK bE;have az:Hid (Below wr.heap.size wr D):=z.o.trans (aY.o.mono z.o.size);obtain⟨ua,uc,rfl,di,cw⟩:=aW.o;clear cw;have dj:(Ak h).length<=400000:=by rw[Su]; have:=M.o.hlen; omega
        have O7:=Aa (Ac.new D #[.string ta.name,.string tb.name,.slice f tb.args.length c] 90);have E:=Aa (az.o.alloc az.o.size (.cells #[.string ta.name,.string tb.name,.slice f tb.args.length c] 90));have bL:=Aa (aH.o.later ((Af _ _).alloc (Ai _) (.cells #[.string ta.name,.string tb.name,.slice f tb.args.length c] 90)));have dk:(D.alloc (.cells #[.string ta.name,.string tb.name,.slice f tb.args.length c] 90)).heap.size=D.heap.size+1:=(by simp);go_wp2_with fail;generalize (D.alloc (.cells #[.string ta.name,.string tb.name,.slice f tb.args.length c] 90))=C at *;have bo:=Aa ((Sv O7.o bL.o).mono (Y:=λb=>b<C.heap.size) λ_ _ h=>h);have bp:=Aa ((aW.o.later E.o).mono (Y:=λb=>b<C.heap.size) λ_ _ h=>h);have cx:=Aa (bC.o.later E.o);clear e0 F a ct aH aY az;go_loopw [9,10] (λu i wq=>Sw C (Ak h) ta.name tb u i wq) (λu i wq=>(Ak h).length-(intOf i).toNat);case atStart=>exact⟨0,[],rfl,AG _,Bj.start _ _ _,by simp,by simp,Af _ _⟩
        case round=>
         obtain⟨k,cs,rfl,hk,ao,hcs,bM,hb⟩:=hrel;have J:=Aa ao;have T:=Aa hcs;have bq:=Aa bM;have ab:=Aa hb;clear ao hcs bM;have cj:cs.length<=1000000:=by
          have h1:=Bx List.length T.o;simp at h1;omega
         by_cases L:k<(Ak h).length
         ·obtain⟨b',o',a',c',rfl,d0,d1,d2,hs⟩:=(bp.o.later hb).get k L;have bN:(k:Int)<((Ak h).length:Int):=(by omega);have HS:=Aa hs;have cy:Hid (Ab [(Ak h)[k].t]<=1000000):=Aa (by have:=Ss cc.o (AN L);omega);clear hb hs;have OE:=Hr (λb=>b<C.heap.size) [⟨ta.name,tb⟩] (Ak h)[k].t _ a' c' wr (bo.o.later ab.o) HS.o cy.o;have br:Hid (((Ak h).take (k+1)).map (Br ta.name tb)=((Ak h).take k).map (Br ta.name tb)++[Br ta.name tb (Ak h)[k]]):=by
           unfold Hid;rw[Bo L,Cr]; rfl
          have a6:Hid (Ab [Ag [⟨ta.name,tb⟩] (Ak h)[k].t]<=2000->∀d∈(Ak h).take (k+1),Ab [Ag [⟨ta.name,tb⟩] d.t]<=2000):=λhle d hd=>by
           rw[Bo L]at hd;rcases Bg.1 hd with hd|hd
           ·exact bq.o d hd
           ·have e:d=(Ak h)[k]:=(by simpa using hd);rw[e]; exact hle
          have a7:Hid (2000<Ab [Ag [⟨ta.name,tb⟩] (Ak h)[k].t]->AF ((Ak h).map (Br ta.name tb))=true):=λB=>by
           unfold AF;rw[Ei];exact⟨Br ta.name tb (Ak h)[k],Ce.2 ⟨_,AN L,rfl⟩,decide_eq_true B⟩
          have bO:(Br ta.name tb (Ak h)[k]).nm=(Ak h)[k].nm:=rfl;have bP:(Br ta.name tb (Ak h)[k]).t=Ag [⟨ta.name,tb⟩] (Ak h)[k].t:=rfl;rw[<-bP]at OE a6 a7;rw[<-bO]at d0;generalize Br ta.name tb (Ak h)[k]=d8 at *;generalize (Ak h)[k].t=dt at *;go_wp2_with fail;refine OE.mono ?_;clear OE bO bP;rintro e U ⟨s8,Z,n8,k8,dm,rfl,aC,cz⟩;have aZ:=Aa (ab.o.trans (aC.mono ab.o.size));have aJ:=Aa (J.o.below aC);have aK:=Aa aC;have bQ:=cell_later aC d0;have dn:=aC.size;clear aC d0 d1 d2;rcases cz with ⟨rfl,bs⟩|⟨rfl,hle,rfl,rfl,aL⟩
          ·have q:Hid (R=(8,Ak h)):=by
            have e:Bh true (Ak h) l ta tb=.stop 8 (Ak h):=by rw[aV.o]; unfold CI; rw[Aj (by rw[bI.o]; simp),Ar (by rw[a7.o bs]; rfl)]
            rcases aj.o with ⟨F,s',a,y⟩|⟨s',l',a,_⟩
            ·rw[e]at a; cases a; exact y
            ·rw[e]at a; cases a
           go_wp2_with fail;refine An (v:=.tuple #[zB,zA 8]) (by simp[results,results39,go_sem]) rfl ?_;have hz:=E.o.size;exact⟨(n.o.trans ((E.o.trans (aZ.o.mono E.o.size)).mono n.o.size)).alloc (AY n.o.size (AY E.o.size aZ.o.size)) _,Ae ⟨by rw[q.o]; exact(by decide:(8:Int)≠0),by rw[q.o]⟩⟩
          ·have c4:=Aa aL;have bt:=Aa (a6.o hle);clear aL a6 a7;go_wp2_with fail;have P9:=Aa (Ac.new U (zF d8.t Z k8) 33);have aD:Below U.heap.size U (U.alloc (.cells (zF d8.t Z k8) 33)):=(Af _ _).alloc (Ai _) _;have ba:=Aa (aZ.o.trans (aD.mono aZ.o.size));have aq:=Aa (aJ.o.below aD);have bu:=Aa (aK.o.trans (aD.mono aK.o.size));have bw:=Aa (c4.o.later aD);have d3:=cell_later aD bQ;have q0:=P9.o.cell 0;have q1:=P9.o.cell 1;clear aD bQ P9;generalize U.alloc (.cells (zF d8.t Z k8) 33)=w9 at *;generalize U.heap.size=P at *;obtain⟨i0,hi,bR,aM,aN⟩:=CE Tryz.infoBind;go_region_law (refine step_append_lies _ rfl _ _ 71 rfl C.heap.size 90 i0 _ 3 56 underlying71 hi bR aM aN rfl (by decide) u9 cs.length (Dg cs) rfl (by exact(aq.o.below (below_drewN (Af _ _) 1)).own.alloc _) (zD w9.heap.size 0) 1 1 (Dt (d8,Z,k8)) rfl rfl (IY _ _ _ _ _) (λx hx=>by simp[Dt] at hx; rcases hx with rfl|rfl|rfl<;>rfl) (by decide) (by unfold maxLen; omega) (by omega) (by have:=ba.o.size; simp; omega) _ rfl ?_; intro g cap wA ag aa ar aO);all_goals
            have bS:=Aa (J.o.push (w1:=w9.drew) (x:=(d8,Z,k8)) ab.o.size (λb h=>h) (below_drewN bu.o 1) ((bw.o.later (below_drewN (Af _ _) 1)).mono λb hb _=>by rcases hb with hb|hb; exact Ad hb.1; exact Ae (by omega)) _ rfl ag aa ar);have b4:Hid (Below C.heap.size C wA):=((below_drewN ba.o 1).alloc (by have:=ba.o.size; simp; omega) _).grown aa (by have:=ba.o.size; simp; omega) (λj hj=>by have:=(aq.o.own.lt j hj).1; omega);clear ag aa ar aO;go_wp2_with fail;go_roundw
            case rel=>exact⟨k+1,cs++[(d8,Z,k8)],by go_num,by omega,bS.o,by rw[br.o,Cr,T.o]; rfl,bt.o,b4.o⟩
            case measure=>simp[intOf]; omega
         ·have bd:(Ak h).take k=Ak h:=AX (by omega);rw[bd]at T bq;have r0:wr.cell? (zD D.heap.size 0)=some (.string ta.name):=cell_later ab.o (O7.o.cell 0);have r1:wr.cell? (zD D.heap.size 1)=some (.string tb.name):=cell_later ab.o (O7.o.cell 1);have r2:wr.cell? (zD D.heap.size 2)=some (.slice f tb.args.length c):=cell_later ab.o (O7.o.cell 2);obtain⟨v10,bf,ad,aP,au⟩:=MP J.o ab.o.size (λ_ h=>h) (Af _ _) (⟨ta.name,tb⟩,f,c) ((bL.o.mono (Y:=λb=>b<C.heap.size) λ_ _ h=>h).later ab.o |>.mono λb hb _=>Ad hb) cj wr.heap.size rfl;have ak:=Aa ad;have aw:Hid (Below C.heap.size C bf):=(ab.o.alloc ab.o.size _).grown au (by have:=ab.o.size; simp; omega) (λj hj=>(J.o.own.lt j hj).1);have bT:((cs++[((⟨ta.name,tb⟩:Bd),f,c)]).map (·.1))=(Ak h).map (Br ta.name tb)++[⟨ta.name,tb⟩]:=by rw[Cr,T.o]; rfl
          have al:=aP.bv;rw[bT]at al;have bU:=MQ ((Ak h).map (Br ta.name tb)++[⟨ta.name,tb⟩]) v10 bf _ al (by simp; omega);have bV:Hid (AU true g1 (Ak (h++[(ta.name,tb)])) l=some R/\AF (Ak (h++[(ta.name,tb)]))=false):=by
           have B:AF ((Ak h).map (Br ta.name tb))=false:=(by unfold AF;rw[List.any_eq_false];intro d hd;obtain⟨d',c6,rfl⟩:=Ce.1 hd;have:=bq.o d' c6;intro hc;have h2:2000<Ab [Ag [⟨ta.name,tb⟩] d'.t]:=JE hc;omega);have e:Bh true (Ak h) l ta tb=.go (Cz (Ak h) ta.name tb) l:=by rw[aV.o]; unfold CI; rw[Aj (by rw[bI.o]; simp),Aj (by rw[B]; simp)]; rfl
           have hz:=bF.o;refine⟨?_,?_⟩
           ·rw[FE];rcases aj.o with ⟨F,s',a,y⟩|⟨s',l',a,y⟩
            ·rw[e]at a; cases a
            ·rw[e]at a; cases a; exact y
           ·rw[FE];unfold Cz;rw[JM,B];simpa using hz
          clear ad aP au bT al bd hb;go_wp2_with (at_builtin; refine DD rfl _ _ _ _ rfl rfl rfl ak.o ?_);refine bU.mono ?_;clear bU;rintro e c7 ⟨v11,bx,rfl,aQ,a8,aR,aS⟩;have aT:Hid (BV c7 (λ_=>True) v11 (Ak (h++[(ta.name,tb)]))):=by
           unfold Hid;rw[FE];have ap:=J0 (t:=tb) M.o.good.all.1 bn.o.2.1;have e:bx.map (·.1)=Cz (Ak h) ta.name tb:=Mq (a8.trans (EO _).symm) (Mr (ap.perm a8) (Gc.2 aR)) (Kz _ ap);rw[<-e];exact aQ.bv.mono λ_ _ _=>trivial
          have aU:=Aa (aw.o.trans (aS.mono aw.o.size));clear aQ a8 aR aS;go_wp2_with fail;go_roundg g1
          case rel=>exact⟨h++[(ta.name,tb)],l,cu.o,bV.o.2,bV.o.1,aT.o,cx.o.later aU.o,n.o.trans ((E.o.trans (aU.o.mono E.o.size)).mono n.o.size)⟩
          case measure=>have:=cf.o; omega
     |false=>
      have aE:=Aa hva;clear hva;have ck:w1.heap.size≠w3.heap.size:=(by omega);have a0:(w3.alloc (.cells (zF tb f c) 33)).cell? (zD w1.heap.size 0)=some (.string ta.name):=bc.o.cell 0;have c8:(w3.alloc (.cells (zF tb f c) 33)).cell? (zD w1.heap.size 1)=some (.slice m ta.args.length k1):=bc.o.cell 1;have b0:(w3.alloc (.cells (zF tb f c) 33)).cell? (zD w3.heap.size 0)=some (.string tb.name):=BB.o.cell 0;have c9:(w3.alloc (.cells (zF tb f c) 33)).cell? (zD w3.heap.size 1)=some (.slice f tb.args.length c):=BB.o.cell 1;cases hvb:Al tb.name with
      |true=>
       have bg:=Aa hvb;clear hvb;have dp:(w3.alloc (.cells (zF tb f c) 33)).frozen? (zD w1.heap.size 0)=false:=bc.o.frozen 0;have S1:=bc.o.set 0 (.string tb.name);have dq:((w3.alloc (.cells (zF tb f c) 33)).setCell (zD w1.heap.size 0) (.string tb.name)).frozen? (zD w1.heap.size 1)=false:=S1.frozen 1;have S2:=S1.set 1 (.slice f tb.args.length c);have T2:=(BB.o.setOther 0 (.string tb.name) ck.symm).setOther 1 (.slice f tb.args.length c) ck.symm;have dr:(((w3.alloc (.cells (zF tb f c) 33)).setCell (zD w1.heap.size 0) (.string tb.name)).setCell (zD w1.heap.size 1) (.slice f tb.args.length c)).frozen? (zD w3.heap.size 0)=false:=T2.frozen 0;have T3:=T2.set 0 (.string ta.name);have ds:((((w3.alloc (.cells (zF tb f c) 33)).setCell (zD w1.heap.size 0) (.string tb.name)).setCell (zD w1.heap.size 1) (.slice f tb.args.length c)).setCell (zD w3.heap.size 0) (.string ta.name)).frozen? (zD w3.heap.size 1)=false:=T3.frozen 1;have T4:=T3.set 1 (.slice m ta.args.length k1);have S4:=(S2.setOther 0 (.string ta.name) ck).setOther 1 (.slice m ta.args.length k1) ck;have cA:∀b,b≠w1.heap.size->b≠w3.heap.size->(((((w3.alloc (.cells (zF tb f c) 33)).setCell (zD w1.heap.size 0) (.string tb.name)).setCell (zD w1.heap.size 1) (.slice f tb.args.length c)).setCell (zD w3.heap.size 0) (.string ta.name)).setCell (zD w3.heap.size 1) (.slice m ta.args.length k1)).heap[b]? = (w3.alloc (.cells (zF tb f c) 33)).heap[b]? := λb h1 h2=>by
        rw[Aq _ _ _ _ (by simpa using h2),Aq _ _ _ _ (by simpa using h2),Aq _ _ _ _ (by simpa using h1),Aq _ _ _ _ (by simpa using h1)]
       have A4:Hid (Ac (((((w3.alloc (.cells (zF tb f c) 33)).setCell (zD w1.heap.size 0) (.string tb.name)).setCell (zD w1.heap.size 1) (.slice f tb.args.length c)).setCell (zD w3.heap.size 0) (.string ta.name)).setCell (zD w3.heap.size 1) (.slice m ta.args.length k1)) w1.heap.size (zF tb f c) 33):=Aa (by simpa using S4);have B4:Hid (Ac (((((w3.alloc (.cells (zF tb f c) 33)).setCell (zD w1.heap.size 0) (.string tb.name)).setCell (zD w1.heap.size 1) (.slice f tb.args.length c)).setCell (zD w3.heap.size 0) (.string ta.name)).setCell (zD w3.heap.size 1) (.slice m ta.args.length k1)) w3.heap.size (zF ta m k1) 33):=Aa (by simpa using T4);have bk:Hid (Sl (((((w3.alloc (.cells (zF tb f c) 33)).setCell (zD w1.heap.size 0) (.string tb.name)).setCell (zD w1.heap.size 1) (.slice f tb.args.length c)).setCell (zD w3.heap.size 0) (.string ta.name)).setCell (zD w3.heap.size 1) (.slice m ta.args.length k1)) (λ_=>True) m ta.args):=(bA.o.kept λb hb=>cA b (by omega) (by omega)).mono λ_ _ _=>trivial;have bW:Hid (Below wr.heap.size wr (((((w3.alloc (.cells (zF tb f c) 33)).setCell (zD w1.heap.size 0) (.string tb.name)).setCell (zD w1.heap.size 1) (.slice f tb.args.length c)).setCell (zD w3.heap.size 0) (.string ta.name)).setCell (zD w3.heap.size 1) (.slice m ta.args.length k1))):=⟨z.o.os,z.o.tape,z.o.output,by have:=z.o.size; simpa [World.setCell] using this,λb hb=>(cA b (by omega) (by omega)).trans (z.o.block b hb)⟩;have bX:(((((w3.alloc (.cells (zF tb f c) 33)).setCell (zD w1.heap.size 0) (.string tb.name)).setCell (zD w1.heap.size 1) (.slice f tb.args.length c)).setCell (zD w3.heap.size 0) (.string ta.name)).setCell (zD w3.heap.size 1) (.slice m ta.args.length k1)).heap.size=w3.heap.size+1:=(by simp[World.setCell]);have aV:Hid (Bh true (Ak h) l ta tb=CI true (Ak h) l tb.name ta):=Aa (by unfold Bh;rw[Aj (by have:=aX.o; have:=bb.o; omega),Aj (by rw[aE.o]; simp),Ar bg.o]);have bE:Hid (¬AJ tb.name (At [] (Ao [ta]))=true->FZ (Ak h) tb.name ta/\UI V (h++[(tb.name,ta)]) l):=λho=>M.o.bindV bg.o (Ae ⟨by rw[b3.o],by rw[b5.o]⟩) ho;have bF:=aX;have dh:Hid (w1.heap.size<w3.heap.size):=Aa (by omega);clear S1 S2 S4 T2 T3 T4 cA aX bb bA bB;go_wp2_with (go_at_call 21; refine(Dy _ _).mono ?_; rintro e w' ⟨rfl,rfl⟩; (first|rw[aE.o]|rw[bg.o]));clear z cr bc BB cT a0 c8 b0 c9 dp dq dr ds;generalize (((((w3.alloc (.cells (zF tb f c) 33)).setCell (zD w1.heap.size 0) (.string tb.name)).setCell (zD w1.heap.size 1) (.slice f tb.args.length c)).setCell (zD w3.heap.size 0) (.string ta.name)).setCell (zD w3.heap.size 1) (.slice m ta.args.length k1))=w4 at *;have z:=bW;clear bW bX;have a0:=A4.o.c0;have b0:=B4.o.c0;have b1:=B4.o.c1;have VF:Hid (∀w',Below w4.heap.size w4 w'->Calls prog 22 #[.agg (zF ta m k1)] w' λe O=>∃v',e=.returned v'/\LV Value.string O (λ_=>True) v' (At [] (Ao [ta]))/\Below w4.heap.size w4 O/\(O.cell? (zD w1.heap.size 0)=some (.string tb.name)/\O.cell? (zD w3.heap.size 0)=some (.string ta.name)/\O.cell? (zD w3.heap.size 1)=some (.slice m ta.args.length k1))):=λw' hb=>by
        refine(IR ta _ w' _ ⟨_,_,rfl,bk.o.later hb⟩ (by have:=bF.o; omega)).mono ?_;rintro e O ⟨v',rfl,hl,hb2⟩;have G:=hb.trans (hb2.mono hb.size);exact⟨v',rfl,hl.mono (λ_ _ _=>trivial),G,cell_later G a0,cell_later G b0,cell_later G b1⟩
       have bG:=Aa (And.intro a0 (And.intro b0 b1));go_region_held3 (λw'=>w'.cell? (zD w1.heap.size 0)=some (.string tb.name)/\w'.cell? (zD w3.heap.size 0)=some (.string ta.name)/\w'.cell? (zD w3.heap.size 1)=some (.slice m ta.args.length k1)) (first|exact I|exact bG.o|go_keep)
        (first
         | (go_at_call 22; refine(VF.o _ (by first|exact Af _ _|exact(Af _ _).drew)).mono ?_; rintro e D ⟨v5,rfl,bl,bH,I⟩)
         | (go_at_call 23; refine(Id _ _ _ _ (λ_=>True) (by first|exact bl|exact bl.kept (λ_ _=>rfl))).mono ?_; rintro e w6 ⟨rfl,bm⟩; have I:w6.cell? (zD w1.heap.size 0)=some (.string tb.name)/\w6.cell? (zD w3.heap.size 0)=some (.string ta.name)/\w6.cell? (zD w3.heap.size 1)=some (.slice m ta.args.length k1):=(by rw[bm]; first|exact I|go_keep)))
       rw[bm]at I;clear bm;have aY:=Aa bH;have ct:=Aa I;obtain⟨e0,F,a⟩:=I;have aH:=Aa (bk.o.later aY.o);clear bl bH VF bG a0 b0 b1 I bk A4 B4;cases aI:AJ tb.name (At [] (Ao [ta])) with
       |true=>
        have q:Hid (R=(6,Ak h)):=by
         have e:Bh true (Ak h) l ta tb=.stop 6 (Ak h):=by rw[aV.o]; unfold CI; rw[Ar aI]
         rcases aj.o with ⟨F,s',a,y⟩|⟨s',l',a,_⟩
         ·rw[e]at a; cases a; exact y
         ·rw[e]at a; cases a
        clear aI;go_wp2_with fail;refine An (v:=.tuple #[zB,zA 6]) (by simp[results,results39,go_sem]) rfl ?_;exact⟨n.o.trans ((z.o.trans (aY.o.mono z.o.size)).mono n.o.size),Ae ⟨by rw[q.o]; exact(by decide:(6:Int)≠0),by rw[q.o]⟩⟩
       |false=>
        have bI:=Aa aI;obtain⟨bJ,bK⟩:=bE.o (by rw[aI]; simp);have bn:=Aa bJ;have cu:=Aa bK;clear aI bJ bK bE;have az:Hid (Below wr.heap.size wr D):=z.o.trans (aY.o.mono z.o.size);obtain⟨ua,uc,rfl,di,cw⟩:=aW.o;clear cw;have dj:(Ak h).length<=400000:=by rw[Su]; have:=M.o.hlen; omega
        have O7:=Aa (Ac.new D #[.string tb.name,.string ta.name,.slice m ta.args.length k1] 90);have E:=Aa (az.o.alloc az.o.size (.cells #[.string tb.name,.string ta.name,.slice m ta.args.length k1] 90));have bL:=Aa (aH.o.later ((Af _ _).alloc (Ai _) (.cells #[.string tb.name,.string ta.name,.slice m ta.args.length k1] 90)));have dk:(D.alloc (.cells #[.string tb.name,.string ta.name,.slice m ta.args.length k1] 90)).heap.size=D.heap.size+1:=(by simp);go_wp2_with fail;generalize (D.alloc (.cells #[.string tb.name,.string ta.name,.slice m ta.args.length k1] 90))=C at *;have bo:=Aa ((Sv O7.o bL.o).mono (Y:=λb=>b<C.heap.size) λ_ _ h=>h);have bp:=Aa ((aW.o.later E.o).mono (Y:=λb=>b<C.heap.size) λ_ _ h=>h);have cx:=Aa (bC.o.later E.o);clear e0 F a ct aH aY az;go_loopw [9,10] (λu i wq=>Sw C (Ak h) tb.name ta u i wq) (λu i wq=>(Ak h).length-(intOf i).toNat);case atStart=>exact⟨0,[],rfl,AG _,Bj.start _ _ _,by simp,by simp,Af _ _⟩
        case round=>
         obtain⟨k,cs,rfl,hk,ao,hcs,bM,hb⟩:=hrel;have J:=Aa ao;have T:=Aa hcs;have bq:=Aa bM;have ab:=Aa hb;clear ao hcs bM;have cj:cs.length<=1000000:=by
          have h1:=Bx List.length T.o;simp at h1;omega
         by_cases L:k<(Ak h).length
         ·obtain⟨b',o',a',c',rfl,d0,d1,d2,hs⟩:=(bp.o.later hb).get k L;have bN:(k:Int)<((Ak h).length:Int):=(by omega);have HS:=Aa hs;have cy:Hid (Ab [(Ak h)[k].t]<=1000000):=Aa (by have:=Ss cc.o (AN L);omega);clear hb hs;have OE:=Hr (λb=>b<C.heap.size) [⟨tb.name,ta⟩] (Ak h)[k].t _ a' c' wr (bo.o.later ab.o) HS.o cy.o;have br:Hid (((Ak h).take (k+1)).map (Br tb.name ta)=((Ak h).take k).map (Br tb.name ta)++[Br tb.name ta (Ak h)[k]]):=by
           unfold Hid;rw[Bo L,Cr]; rfl
          have a6:Hid (Ab [Ag [⟨tb.name,ta⟩] (Ak h)[k].t]<=2000->∀d∈(Ak h).take (k+1),Ab [Ag [⟨tb.name,ta⟩] d.t]<=2000):=λhle d hd=>by
           rw[Bo L]at hd;rcases Bg.1 hd with hd|hd
           ·exact bq.o d hd
           ·have e:d=(Ak h)[k]:=(by simpa using hd);rw[e]; exact hle
          have a7:Hid (2000<Ab [Ag [⟨tb.name,ta⟩] (Ak h)[k].t]->AF ((Ak h).map (Br tb.name ta))=true):=λB=>by
           unfold AF;rw[Ei];exact⟨Br tb.name ta (Ak h)[k],Ce.2 ⟨_,AN L,rfl⟩,decide_eq_true B⟩
          have bO:(Br tb.name ta (Ak h)[k]).nm=(Ak h)[k].nm:=rfl;have bP:(Br tb.name ta (Ak h)[k]).t=Ag [⟨tb.name,ta⟩] (Ak h)[k].t:=rfl;rw[<-bP]at OE a6 a7;rw[<-bO]at d0;generalize Br tb.name ta (Ak h)[k]=d8 at *;generalize (Ak h)[k].t=dt at *;go_wp2_with fail;refine OE.mono ?_;clear OE bO bP;rintro e U ⟨s8,Z,n8,k8,dm,rfl,aC,cz⟩;have aZ:=Aa (ab.o.trans (aC.mono ab.o.size));have aJ:=Aa (J.o.below aC);have aK:=Aa aC;have bQ:=cell_later aC d0;have dn:=aC.size;clear aC d0 d1 d2;rcases cz with ⟨rfl,bs⟩|⟨rfl,hle,rfl,rfl,aL⟩
          ·have q:Hid (R=(8,Ak h)):=by
            have e:Bh true (Ak h) l ta tb=.stop 8 (Ak h):=by rw[aV.o]; unfold CI; rw[Aj (by rw[bI.o]; simp),Ar (by rw[a7.o bs]; rfl)]
            rcases aj.o with ⟨F,s',a,y⟩|⟨s',l',a,_⟩
            ·rw[e]at a; cases a; exact y
            ·rw[e]at a; cases a
           go_wp2_with fail;refine An (v:=.tuple #[zB,zA 8]) (by simp[results,results39,go_sem]) rfl ?_;have hz:=E.o.size;exact⟨(n.o.trans ((E.o.trans (aZ.o.mono E.o.size)).mono n.o.size)).alloc (AY n.o.size (AY E.o.size aZ.o.size)) _,Ae ⟨by rw[q.o]; exact(by decide:(8:Int)≠0),by rw[q.o]⟩⟩
          ·have c4:=Aa aL;have bt:=Aa (a6.o hle);clear aL a6 a7;go_wp2_with fail;have P9:=Aa (Ac.new U (zF d8.t Z k8) 33);have aD:Below U.heap.size U (U.alloc (.cells (zF d8.t Z k8) 33)):=(Af _ _).alloc (Ai _) _;have ba:=Aa (aZ.o.trans (aD.mono aZ.o.size));have aq:=Aa (aJ.o.below aD);have bu:=Aa (aK.o.trans (aD.mono aK.o.size));have bw:=Aa (c4.o.later aD);have d3:=cell_later aD bQ;have q0:=P9.o.cell 0;have q1:=P9.o.cell 1;clear aD bQ P9;generalize U.alloc (.cells (zF d8.t Z k8) 33)=w9 at *;generalize U.heap.size=P at *;obtain⟨i0,hi,bR,aM,aN⟩:=CE Tryz.infoBind;go_region_law (refine step_append_lies _ rfl _ _ 71 rfl C.heap.size 90 i0 _ 3 56 underlying71 hi bR aM aN rfl (by decide) u9 cs.length (Dg cs) rfl (by exact(aq.o.below (below_drewN (Af _ _) 1)).own.alloc _) (zD w9.heap.size 0) 1 1 (Dt (d8,Z,k8)) rfl rfl (IY _ _ _ _ _) (λx hx=>by simp[Dt] at hx; rcases hx with rfl|rfl|rfl<;>rfl) (by decide) (by unfold maxLen; omega) (by omega) (by have:=ba.o.size; simp; omega) _ rfl ?_; intro g cap wA ag aa ar aO);all_goals
            have bS:=Aa (J.o.push (w1:=w9.drew) (x:=(d8,Z,k8)) ab.o.size (λb h=>h) (below_drewN bu.o 1) ((bw.o.later (below_drewN (Af _ _) 1)).mono λb hb _=>by rcases hb with hb|hb; exact Ad hb.1; exact Ae (by omega)) _ rfl ag aa ar);have b4:Hid (Below C.heap.size C wA):=((below_drewN ba.o 1).alloc (by have:=ba.o.size; simp; omega) _).grown aa (by have:=ba.o.size; simp; omega) (λj hj=>by have:=(aq.o.own.lt j hj).1; omega);clear ag aa ar aO;go_wp2_with fail;go_roundw
            case rel=>exact⟨k+1,cs++[(d8,Z,k8)],by go_num,by omega,bS.o,by rw[br.o,Cr,T.o]; rfl,bt.o,b4.o⟩
            case measure=>simp[intOf]; omega
         ·have bd:(Ak h).take k=Ak h:=AX (by omega);rw[bd]at T bq;have r0:wr.cell? (zD D.heap.size 0)=some (.string tb.name):=cell_later ab.o (O7.o.cell 0);have r1:wr.cell? (zD D.heap.size 1)=some (.string ta.name):=cell_later ab.o (O7.o.cell 1);have r2:wr.cell? (zD D.heap.size 2)=some (.slice m ta.args.length k1):=cell_later ab.o (O7.o.cell 2);obtain⟨v10,bf,ad,aP,au⟩:=MP J.o ab.o.size (λ_ h=>h) (Af _ _) (⟨tb.name,ta⟩,m,k1) ((bL.o.mono (Y:=λb=>b<C.heap.size) λ_ _ h=>h).later ab.o |>.mono λb hb _=>Ad hb) cj wr.heap.size rfl;have ak:=Aa ad;have aw:Hid (Below C.heap.size C bf):=(ab.o.alloc ab.o.size _).grown au (by have:=ab.o.size; simp; omega) (λj hj=>(J.o.own.lt j hj).1);have bT:((cs++[((⟨tb.name,ta⟩:Bd),m,k1)]).map (·.1))=(Ak h).map (Br tb.name ta)++[⟨tb.name,ta⟩]:=by rw[Cr,T.o]; rfl
          have al:=aP.bv;rw[bT]at al;have bU:=MQ ((Ak h).map (Br tb.name ta)++[⟨tb.name,ta⟩]) v10 bf _ al (by simp; omega);have bV:Hid (AU true g1 (Ak (h++[(tb.name,ta)])) l=some R/\AF (Ak (h++[(tb.name,ta)]))=false):=by
           have B:AF ((Ak h).map (Br tb.name ta))=false:=(by unfold AF;rw[List.any_eq_false];intro d hd;obtain⟨d',c6,rfl⟩:=Ce.1 hd;have:=bq.o d' c6;intro hc;have h2:2000<Ab [Ag [⟨tb.name,ta⟩] d'.t]:=JE hc;omega);have e:Bh true (Ak h) l ta tb=.go (Cz (Ak h) tb.name ta) l:=by rw[aV.o]; unfold CI; rw[Aj (by rw[bI.o]; simp),Aj (by rw[B]; simp)]; rfl
           have hz:=bF.o;refine⟨?_,?_⟩
           ·rw[FE];rcases aj.o with ⟨F,s',a,y⟩|⟨s',l',a,y⟩
            ·rw[e]at a; cases a
            ·rw[e]at a; cases a; exact y
           ·rw[FE];unfold Cz;rw[JM,B];simpa using hz
          clear ad aP au bT al bd hb;go_wp2_with (at_builtin; refine DD rfl _ _ _ _ rfl rfl rfl ak.o ?_);refine bU.mono ?_;clear bU;rintro e c7 ⟨v11,bx,rfl,aQ,a8,aR,aS⟩;have aT:Hid (BV c7 (λ_=>True) v11 (Ak (h++[(tb.name,ta)]))):=by
           unfold Hid;rw[FE];have ap:=J0 (t:=ta) M.o.good.all.1 bn.o.2.1;have e:bx.map (·.1)=Cz (Ak h) tb.name ta:=Mq (a8.trans (EO _).symm) (Mr (ap.perm a8) (Gc.2 aR)) (Kz _ ap);rw[<-e];exact aQ.bv.mono λ_ _ _=>trivial
          have aU:=Aa (aw.o.trans (aS.mono aw.o.size));clear aQ a8 aR aS;go_wp2_with fail;go_roundg g1
          case rel=>exact⟨h++[(tb.name,ta)],l,cu.o,bV.o.2,bV.o.1,aT.o,cx.o.later aU.o,n.o.trans ((E.o.trans (aU.o.mono E.o.size)).mono n.o.size)⟩
          case measure=>have:=cf.o; omega
      |false=>
       have bg:=Aa hvb;clear hvb;have aV:Hid (Bh true (Ak h) l ta tb=if ta.name=tb.name/\ta.args.length=tb.args.length then .go (Ak h) (Az ta.args tb.args++l) else .stop 5 (Ak h)):=Aa (by unfold Bh;rw[Aj (by have:=aX.o; have:=bb.o; omega),Aj (by rw[aE.o]; simp),Aj (by rw[bg.o]; simp)]);have CL:Hid (¬(ta.name=tb.name/\ta.args.length=tb.args.length)->R=(5,Ak h)):=λhn=>by
        have e:Bh true (Ak h) l ta tb=.stop 5 (Ak h):=(by rw[aV.o,Aj hn]);rcases aj.o with ⟨F,s',a,y⟩|⟨s',l',a,_⟩
        ·rw[e]at a; cases a; exact y
        ·rw[e]at a; cases a
       by_cases H:ta.name=tb.name
       ·have ch:=Ia H;by_cases bz:ta.args.length=tb.args.length
        ·have du:((ta.args.length:Int)==(tb.args.length:Int))=true:=(by simp[bz]);have cl:=Aa bz;have bD:=Aa H;have bh:=Aa (M.o.deep (by rw[b5.o]; exact aX.o) (by rw[b3.o]; exact bb.o) (by rw[b5.o,b3.o]; exact bz)).1;rw[b5.o,b3.o]at bh;have aG:Hid (AU true g1 (Ak h) (Az ta.args tb.args++l)=some R):=by
          have e:Bh true (Ak h) l ta tb=.go (Ak h) (Az ta.args tb.args++l):=(by rw[aV.o,Ar ⟨H,bz⟩]);rcases aj.o with ⟨F,s',a,y⟩|⟨s',l',a,y⟩
          ·rw[e]at a; cases a
          ·rw[e]at a; cases a; exact y
         have dH:ta.args.length<=2000:=(by have h1:=EM ta.args;have h2:=Jg ta;have h3:=aX.o;omega);have dI:l.length<=900000000:=by have h1:=M.o.llen; simp at h1; omega
         have cB:=Aa (bB.o.mono (Y:=λb=>b<(w3.alloc (.cells (zF tb f c) 33)).heap.size) λ_ _ h=>h);have cC:=Aa (bA.o.mono (Y:=λb=>b<(w3.alloc (.cells (zF tb f c) 33)).heap.size) λ_ _ h=>h);have dv:=Aa ((bC.o.later z.o).mono (Y:=λb=>b<(w3.alloc (.cells (zF tb f c) 33)).heap.size) λ_ _ h=>h);clear bz H CL bA bB;go_wp2_with (go_at_call 21; refine(Dy _ _).mono ?_; rintro e w' ⟨rfl,rfl⟩; (first|rw[aE.o]|rw[bg.o]));generalize (w3.alloc (.cells (zF tb f c) 33))=wS at *;go_loopw [13,14] (λu i wq=>eH wS ta.args tb.args u i wq) (λu i wq=>ta.args.length-(intOf i).toNat);case atStart=>exact⟨0,[],rfl,AG _,Cm.start _ _ _,by simp,Af _ _⟩
         case round=>
          obtain⟨k,cs,rfl,hk,ao,hcs,hb⟩:=hrel;have J:=Aa ao;have T:=Aa hcs;have ab:=Aa hb;have cj:cs.length<=1000000:=by
           have h1:=Bx List.length hcs;simp at h1;omega
          have F:wr.cell? (zD w1.heap.size 1)=some (.slice m ta.args.length k1):=cell_later hb c8;have a:wr.cell? (zD w3.heap.size 1)=some (.slice f tb.args.length c):=cell_later hb c9;clear ao hcs hb;by_cases L:k<ta.args.length
          ·have bN:(k:Int)<(ta.args.length:Int):=(by omega);have bY:k<tb.args.length:=by have:=cl.o; omega
           have dw:(k:Int)<(tb.args.length:Int):=(by omega);obtain⟨b1,o1,y1,d1,cD,p0,p1,dx⟩:=cC.o.get (Af _ _) (λ_ _ h=>h) k L;obtain⟨b2,o2,y2,d2,cE,r0,r1,dy⟩:=cB.o.get (Af _ _) (λ_ _ h=>h) k bY;subst cD;subst cE;have P0:=Aa p0;have P1:=Aa p1;have R0:=Aa r0;have R1:=Aa r1;clear p0 p1 r0 r1;obtain⟨av,cv,ev,bZ⟩:=dx;simp at ev;obtain⟨rfl,rfl⟩:=ev;obtain⟨av,cv,ev,ca⟩:=dy;simp at ev;obtain⟨rfl,rfl⟩:=ev;have dz:=Aa (bZ.later ab.o);have dA:=Aa (ca.later ab.o);have dB:Hid ((Az ta.args tb.args).take (k+1)=(Az ta.args tb.args).take k++[⟨ta.args[k],tb.args[k]⟩]):=Aa (by rw[Bo (by rw[NC cl.o]; exact L),St k L bY]);clear bZ ca;generalize ta.args[k]=tA at *;generalize tb.args[k]=tB at *;obtain⟨i0,hi,bR,aM,aN⟩:=CE Tryz.infoPair;have KG:Hid (∀W:World,Below wS.heap.size wS W->LE w1.heap.size w3.heap.size b1 b2 (o1+k*2) (o2+k*2) o1 o2 ta.args.length tb.args.length tA tB y1 y2 k1 c d1 d2 W):=λW hW=>⟨cell_later hW c8,cell_later hW P0.o,cell_later hW P1.o,cell_later hW c9,cell_later hW R0.o,cell_later hW R1.o⟩;have cU:LE w1.heap.size w3.heap.size b1 b2 (o1+k*2) (o2+k*2) o1 o2 ta.args.length tb.args.length tA tB y1 y2 k1 c d1 d2 wr.drew:=KG.o _ (below_drewN ab.o 1);have cg:Hid (∀o,LE w1.heap.size w3.heap.size b1 b2 (o1+k*2) (o2+k*2) o1 o2 ta.args.length tb.args.length tA tB y1 y2 k1 c d1 d2 (wr.drew.alloc o)):=λo=>KG.o _ ((below_drewN ab.o 1).alloc (by have:=ab.o.size; simp; omega) o);have cF:=Aa (J.o.below (below_drewN (Af _ _) 1)).own;go_wp2_with fail;refine CR (S:=LE w1.heap.size w3.heap.size b1 b2 (o1+k*2) (o2+k*2) o1 o2 ta.args.length tb.args.length tA tB y1 y2 k1 c d1 d2) (by kernel_rfl) cU λhH=>?_;clear cU;refine tkz 0 ?_ (hy:=by intro w' A;obtain⟨j1,j2,j3,j4,j5,j6⟩:=A;go_simp<;>with_reducible rfl);refine tkz 1 ?_ (hy:=by intro w' A;obtain⟨j1,j2,j3,j4,j5,j6⟩:=A;go_simp<;>with_reducible rfl);refine tkz 2 ?_ (hy:=by intro w' A;obtain⟨j1,j2,j3,j4,j5,j6⟩:=A;go_simp<;>with_reducible rfl);refine tkz 3 ?_ (hy:=by intro w' A;obtain⟨j1,j2,j3,j4,j5,j6⟩:=A;go_simp<;>with_reducible rfl);refine tkz 4 ?_ (hy:=by intro w' A;obtain⟨j1,j2,j3,j4,j5,j6⟩:=A;go_simp<;>with_reducible rfl);refine tkz 5 ?_ (hy:=by intro w' A;obtain⟨j1,j2,j3,j4,j5,j6⟩:=A;go_simp<;>with_reducible rfl);refine tkz 6 ?_ (hy:=by intro w' A;obtain⟨j1,j2,j3,j4,j5,j6⟩:=A;go_simp<;>with_reducible rfl);refine tkz 7 ?_ (hy:=by intro w' A;obtain⟨j1,j2,j3,j4,j5,j6⟩:=A;go_simp<;>with_reducible rfl);refine tkz 8 ?_ (hy:=by intro w' A;obtain⟨j1,j2,j3,j4,j5,j6⟩:=A;go_simp<;>with_reducible rfl);refine tkz 9 ?_ (hy:=by intro w' A;obtain⟨j1,j2,j3,j4,j5,j6⟩:=A;go_simp<;>with_reducible rfl);refine tkz 10 ?_ (hy:=by intro w' A;obtain⟨j1,j2,j3,j4,j5,j6⟩:=A;go_simp<;>with_reducible rfl);refine tkz 11 ?_ (hy:=by intro w' A;obtain⟨j1,j2,j3,j4,j5,j6⟩:=A;go_simp<;>with_reducible rfl);refine rdq 12 rfl λK hK=>?_;go_simp;refine hK.o _ _ (by exact cg.o _) λhH=>?_;clear hK K;(try simp only[Act.put,sq]);refine rdq 13 rfl λK hK=>?_;refine step_append_lies _ rfl _ _ 23 rfl wS.heap.size 38 i0 _ 4 80 underlying23 hi bR aM aN rfl (by decide) u13 cs.length (CT cs) rfl (by exact cF.o.alloc _) (zD wr.heap.size 0) 1 1 [.string tA.name,.slice y1 tA.args.length d1,.string tB.name,.slice y2 tB.args.length d2] rfl rfl (by exact RM _ _ _ _ _ _) (λx hx=>by simp at hx; rcases hx with rfl|rfl|rfl|rfl<;>rfl) (by decide) (by unfold maxLen; omega) (by omega) (by have:=ab.o.size; simp; omega) _ rfl ?_;intro g cap wA ag aa ar aO;have bS:=Aa (J.o.push (w1:=wr.drew) (x:=(⟨tA,tB⟩,(y1,d1),(y2,d2))) ab.o.size (λb h=>h) (below_drewN (Af _ _) 1) ⟨(dz.o.later (below_drewN (Af _ _) 1)).mono λb hb _=>Ad hb,(dA.o.later (below_drewN (Af _ _) 1)).mono λb hb _=>Ad hb⟩ _ rfl ag aa ar);have b4:Hid (Below wS.heap.size wS wA):=((below_drewN ab.o 1).alloc (by have:=ab.o.size; simp; omega) _).grown aa (by have:=ab.o.size; simp; omega) (λj hj=>by have:=(J.o.own.lt j hj).1; omega);refine hK.o _ _ (by exact KG.o _ b4.o) λhH=>?_;clear ag aa ar aO;clear hK K;(try simp only[Act.put,sq]);refine tkz 14 ?_ (hy:=by intro w' A;obtain⟨j1,j2,j3,j4,j5,j6⟩:=A;go_simp<;>with_reducible rfl);refine dnq ?_;clear hH;go_wp2_with fail;refine⟨⟨?z0,?z1,?z2,?z3,?z4,?z5,?z6,?z7,?z8,?z9,?z10,?z11,?z12,?z13,?z14,?z15,?z16,?z17,?z18,?z19,?z20,?z21,?z22,?rel,?fr⟩,?measure⟩;case fr=>
            refine Bx (λt=>Act.mk t []) (Bx List.toArray ?_);repeat' (refine eI ?_ ?_)
            all_goals (try rfl)
            all_goals simp[cl.o]
           case rel=>exact⟨k+1,cs++[(⟨tA,tB⟩,(y1,d1),(y2,d2))],by go_num,by omega,bS.o,by rw[dB.o,Cr,T.o]; rfl,b4.o⟩
           case measure=>simp[intOf]; omega
          ·have bd:(Az ta.args tb.args).take k=Az ta.args tb.args:=AX (by rw[NC cl.o]; omega);rw[bd]at T;obtain⟨v10,bf,ad,cb,au⟩:=ZJ J.o ab.o.size (λ_ h=>h) (dv.o.later ab.o) (by omega);have ak:=Aa ad;have aw:Hid (Below wS.heap.size wS bf):=ab.o.grown au (by have:=ab.o.size; omega) (λj hj=>(J.o.own.lt j hj).1);have cG:Hid (QV bf (λ_=>True) v10 (Az ta.args tb.args++l)):=Aa (by rw[<-T.o];exact cb.mono λ_ _ _=>trivial);clear ad cb au bd;go_wp2_with (at_builtin; refine DD rfl _ _ _ _ rfl rfl rfl ak.o ?_);go_roundg g1
           case rel=>exact⟨h,Az ta.args tb.args++l,bh.o,cc.o,aG.o,aW.o.later (z.o.trans (aw.o.mono z.o.size)),cG.o,n.o.trans ((z.o.trans (aw.o.mono z.o.size)).mono n.o.size)⟩
           case measure=>have:=cf.o; omega
        ·have du:((ta.args.length:Int)==(tb.args.length:Int))=false:=DU.2 (by omega);have q:=Aa (CL.o λhh=>bz hh.2);clear bz H;go_wp2_with (go_at_call 21; refine(Dy _ _).mono ?_; rintro e w' ⟨rfl,rfl⟩; (first|rw[aE.o]|rw[bg.o]));refine An (v:=.tuple #[zB,zA 5]) (by simp[results,results39,go_sem]) rfl ?_;exact⟨n.o.trans (z.o.mono n.o.size),Ae ⟨by rw[q.o]; exact(by decide:(5:Int)≠0),by rw[q.o]⟩⟩
       ·have ch:=JG H;have q:=Aa (CL.o λhh=>H hh.1);clear H;go_wp2_with (go_at_call 21; refine(Dy _ _).mono ?_; rintro e w' ⟨rfl,rfl⟩; (first|rw[aE.o]|rw[bg.o]));refine An (v:=.tuple #[zB,zA 5]) (by simp[results,results39,go_sem]) rfl ?_;exact⟨n.o.trans (z.o.mono n.o.size),Ae ⟨by rw[q.o]; exact(by decide:(5:Int)≠0),by rw[q.o]⟩⟩
