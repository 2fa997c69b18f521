import Derived.Test.YthaililgaompeaaGreatDoorW183
namespace Go.Proofs.YthaililgaompeaaGreatDoor
set_option linter.all false
set_option maxRecDepth 20000
set_option maxHeartbeats 8000000
open Go.RowKit Go.Shelf Go.Proofs.Tryz
variable {w w':World} {X Y:Nat->Prop} {ls:List Bd} {I T:Nat} {v:Value} {l:List Tm}
theorem nU (n:ByteArray) (w:World):(Instr.lookup 69 (.map none) (.string n) true).run prog w=.ok (.tuple #[.agg zd,.bool false]) w:=by
 have hz:(zeroValue 31).run prog w=.ok (.agg zd) w:=zeroValue31 w;have hc:∀b,(Instr.checkKey b 10000 9 (.string n)).run prog w=.ok () w:=λb=>L7 (k:=.string n) underlying9 (by simp[MapKept.IsKey]) b 9999;simp[Instr.lookup,Fl underlying69,hc,Result.andThen,hz,Jr (P:=prog) (w:=w) (l:=[]) (k:=.string n) (a:=none) underlying9 rfl]
theorem Wb:∀ {ls:List Bd} {s:ByteArray} {x:Tm},As ls s=some x->∃d∈ls,d.t=x
 | [],s,x,h=>by simp[As] at h
 |d::ls,s,x,h=>by
  unfold As at h;split at h
  ·exact⟨d,by simp,by simpa using h⟩
  ·obtain⟨d',hd,e⟩:=Wb h;exact⟨d',by simp[hd],e⟩
theorem FU.look {b:Option Nat} (h:FU w X b ls) (s:ByteArray):
  (As ls s=none->∀o o',(Instr.lookup 69 (.map b) (.string s) true).run prog ((w.alloc o).alloc o')=.ok (.tuple #[.agg zd,.bool false]) ((w.alloc o).alloc o'))/\
  ∀x,As ls s=some x->∃a c,Sl w X a x.args/\∀o o',(Instr.lookup 69 (.map b) (.string s) true).run prog ((w.alloc o).alloc o')=.ok (.tuple #[.agg (zF x a c),.bool true]) ((w.alloc o).alloc o'):=by
 rcases h with ⟨rfl,rfl⟩|⟨q,L,rfl,d,hP⟩
 ·exact⟨λ_ o o'=>nU s _,λx hx=>by simp[As] at hx⟩
 ·have hz:∀w',(zeroValue 31).run prog w'=.ok (.agg zd) w':=λw'=>zeroValue31 w';have aa:=λo o':Obj=>(d.kept (Ay w o _ d.lt)).kept (Ay (w.alloc o) o' _ (by have:=d.lt; simp; omega));refine⟨λe o o'=>?_,λx e=>?_⟩
  ·have f:=(hP.get s).1 e;rw[El (P:=prog) underlying69 underlying9 (hz _) (aa o o') s,f]; rfl
  ·obtain⟨a1,c1,f,ab⟩:=(hP.get s).2 x e;refine⟨a1,c1,ab,λo o'=>?_⟩;rw[El (P:=prog) underlying69 underlying9 (hz _) (aa o o') s,f]; rfl
theorem FU.exq {d:Option Nat} {cs:Array Value} (h:FU w X d ls) (he:Ak (λb=>b=I) w w') (f:Ac w I cs T) (g:∀b,X b->b≠I):FU w' X d ls:=by
 rcases h with h|⟨q,L,rfl,c,hP⟩
 ·exact Ae h
 ·refine Ad ⟨q,L,rfl,c.kept (he.block q c.lt λe=>?_),hP.imp λa l hs=>hs.exq he g⟩;obtain⟨es,aa,h1,_⟩:=c;rw[e]at h1;unfold Ac at f;rw[f]at h1;cases h1
theorem FU.later {a:Option Nat} (h:FU w X a ls) (hb:Below w.heap.size w w'):FU w' X a ls:=by
 rcases h with h|⟨q,L,rfl,b⟩
 ·exact Ae h
 ·exact Ad ⟨q,L,rfl,b.later hb⟩
theorem FU.mono {c:Option Nat} (h:FU w X c ls) (hk:∀b,X b->b<w.heap.size->Y b):FU w Y c ls:=by
 rcases h with h|⟨q,L,rfl,d,hP⟩
 ·exact Ae h
 ·exact Ad ⟨q,L,rfl,d,hP.imp λa l hs=>hs.mono hk⟩
theorem QV.exqE {Q:Nat->Prop} {l:List Pr} (h:QV w X v l) (he:Ak Q w w') (a:∀b,X b->¬Q b):QV w' X v l:=
 ((h.mono (Y:=λb=>X b/\b<w.heap.size) λb h1 h2=>⟨h1,h2⟩).kept λb hb=>he.block b hb.2 (a b hb.1)).mono λb hb _=>hb.1
theorem A1.exqI {N:Nat} {xs:List Value} (h:A1 w N T Y v l xs) (he:Ak (λb=>b=I) w w') (hI:I<N) (d:∀b,Y b->b≠I):A1 w' N T Y v l xs:=by
 refine⟨Dc h.own λg c=>he.block g (h.own.lt g c).2 (by have:=(h.own.lt g c).1; omega),h.row.imp λa k hs=>hs.exq he λb hb=>?_⟩;rcases hb with hb|hb
 ·exact d b hb
 ·omega
def nV (rs:List Pr) (C:Tm->Tm) (m d k:Nat) (s:ByteArray) (l:List Tm) (ls:List Bd) (X:Nat->Prop) (I:Nat) (ua:Option Addr) (uc:Nat) (w:World) (i:Value) (wr:World):Prop:=
 ∃(j:Nat) (ys:List Tm) (v:Value) (xs:List Value) (d1:Nat),j<=l.length/\i=zA j/\ys.length=j/\(∀y∈ys,Hw rs y)/\d<=d1/\d1<=m/\AL rs true (m-d) (C ⟨s,gL ls l⟩)=DW (d1-d) (AL rs true (m-d1) (C ⟨s,ys++gL ls (l.drop j)⟩))/\Ab [(⟨s,ys++gL ls (l.drop j)⟩:Tm)]+k<=2000/\
  Ac wr I #[.slice ua rs.length uc,zA m,zA d1,zA ((Ab [(⟨s,ys++gL ls (l.drop j)⟩:Tm)]+k:Nat):Int)] 67/\Ac wr (w.heap.size+1) zd 31/\Ac wr (w.heap.size+3) #[.string s,v] 31/\A1 wr (w.heap.size+4) 31 X v ys xs/\Ak (λb=>b=I) w wr/\w.heap.size+4<=wr.heap.size
theorem Wc (s:ByteArray) (a:List Tm) (x:Tm) (r:List Tm):Ab [(⟨s,a++x::r⟩:Tm)]=Ab [x]+(1+Ab a+Ab r):=by
 have e:Ab (a++x::r)=Ab a+(Ab [x]+Ab r):=(by rw[Ej];have:=Ej [x] r;rw[<-this]; rfl);have:Ab [(⟨s,a++x::r⟩:Tm)]=1+Ab (a++x::r):=by simp[Ab]
 omega
theorem nX (ls:List Bd) {j:Nat} (h:j<l.length):gL ls (l.drop j)=gT ls l[j]::gL ls (l.drop (j+1)):=by
 rw[Jx h,SL]
theorem nY (rs:List Pr) (ua:Option Addr) (uc I m f:Nat) (hK:V9 rs ua uc I m f):Ql rs ua uc I m f:=by
 intro C k d t;induction t using Tm.ind generalizing C k d with
 |h s l ih=>
 intro ls mv a c w R hC hf hd aM aN ah aO aP hz bF hI;obtain⟨X,aQ,hX,aR,hu,hs,aA⟩:∃X:Nat->Prop,(∀b,X b->R b)/\(∀b,X b->b≠I)/\(∀b,X b->b<w.heap.size)/\QV w X (.slice ua rs.length uc) rs/\Sl w X a l/\FU w X mv ls:=⟨λb=>R b/\b<w.heap.size,λ_ h=>h.1,λb h=>aP b h.1,λ_ h=>h.2,aM.mono λb h1 h2=>⟨h1,h2⟩,aN.mono λb h1 h2=>⟨h1,h2⟩,ah.mono λb h1 h2=>⟨h1,h2⟩⟩;have IH:=Aa ih;have HK:=Aa hK;have aS:=Aa aQ;have r:=Aa hX;have U:=Aa aR;have V:=Aa hC;have HU:=Aa hu;have HS:=Aa hs;have HM:=Aa aA;have aT:=Aa aO;have E:=Aa hI;have aU:=hI.lt;have hl:=hs.1;obtain⟨aB,aC⟩:=aA.look s;clear ih hK aQ hX aR hC hu hs aA aO hI aM aN ah aP;cases u:As ls s with
 |some x=>
  obtain⟨a1,c1,aV,aa⟩:=aC x u;have F:Hid (gT ls ⟨s,l⟩=x):=SM u;have br:=Aa aV;have bs:Hid (Hw rs x):=by
   obtain⟨dd,bt,e⟩:=Wb u;rw[<-e];exact aT.o dd bt
  have G:=Aa hz;rw[F.o]at E G;rw[F.o];clear aB aC u aV hz;go_enter func36,ntmps36;go_wp2_with fail;refine Aq (v:=.tuple #[.agg (zF x a1 c1),zA 0]) (by simp[results,results36,go_sem,Az,Aw]) rfl ?_;have fin:∀w',Below w.heap.size w w'->Qk rs C m d k x R I ua uc w (.returned (.tuple #[.agg (zF x a1 c1),zA 0])) w':=λw' hb=>
   ⟨Ak.ofBelow hb,x,a1,c1,0,rfl,(br.o.later hb).mono λb hb _=>Ae ⟨aS.o b hb,U.o b hb⟩,Ae ⟨rfl,d,GA.here hd bs.o (by rw[V.o.2]; exact G.o),E.o.below hb aU⟩⟩
  exact fin _ (by first|exact EP _ _ _|exact((EP _ _ _).setCell (by simp) _).setCell (by simp) _)
 |none=>
  have aa:=aB u;have F:Hid (gT ls ⟨s,l⟩=⟨s,gL ls l⟩):=SO u;have G:=Aa hz;rw[F.o]at E G;rw[F.o];clear aB aC u hz;have aD:Hid (l.length<=2000):=Aa (by have h1:=E4 l;have h2:Ab [(⟨s,l⟩:Tm)]=1+Ab l:=(by simp[Ab]);omega);have HW:Hid (∃W,W=(((w.alloc (zh #[.string s,.slice a l.length c] 31)).alloc zc).alloc zc).alloc (zh #[.string s,zB] 31)/\Below w.heap.size w W/\W.heap.size=w.heap.size+4/\Ac W (w.heap.size+1) zd 31/\Ac W (w.heap.size+3) #[.string s,zB] 31):=(by obtain⟨h1,h2,h3⟩:=Fe [(.cells #[.string s,.slice a l.length c] 31:Obj),(.cells zd 31:Obj),(.cells zd 31:Obj),(.cells #[.string s,zB] 31:Obj)] w;exact⟨_,rfl,h1,h2,h3 1 _ rfl,h3 3 _ rfl⟩);go_enter func36,ntmps36;go_wp2_with fail;obtain⟨w0,aW,aX,aY,aZ,ba⟩:=HW.o;rw[<-aW];clear aW HW aa;have bb:=Aa aX;have bu:=Aa aZ;have bw:=Aa ba;have bx:=Aa aY;clear aX aZ ba aY;go_loopw [30] (λi wr=>nV rs C m d k s l ls X I ua uc w i wr) (λi wr=>l.length-(intOf i).toNat);case atStart=>
   refine⟨0,[],zB,[],d,Be _,rfl,rfl,(λy hy=>by cases hy),Al _,hd,?_,?_,?_,bu.o,bw.o,A1.start _ _ _ _,Ak.ofBelow bb.o,by have:=bx.o; omega⟩
   ·rw[Nat.sub_self,Jy,CE];exact(OZ (JW _ _ _ _)).symm
   ·rw[Jy,CE]; exact G.o
   ·rw[Jy,CE]; exact E.o.below bb.o aU
  case round=>
   obtain⟨j,n,v,xs,d1,hj,rfl,bc,bd,bz,ai,bf,bg,bh,bj,B,aj,bk,bG⟩:=hrel;have aE:=Aa bd;have H:=Aa bf;have aF:=Aa bg;have Y:=Aa bh;have bl:=Aa bj;have bH:=Aa B;have af:=Aa aj;have ab:=Aa bk;have bm:=Aa bc;clear bd bf bg bh bj aj bk bc;by_cases Z:j<l.length
   ·obtain⟨b,o,a',c',rfl,e0,e1,hx⟩:=(HS.o.exq ab.o r.o).get (Ag wr.heap.size wr) (λ_ _ h=>h) j Z;have b0:=Aa hx;have b1:(j:Int)<(l.length:Int):=(by omega);have bn:=Aa (Wc s n (gT ls l[j]) (gL ls (l.drop (j+1))));have au:=Aa (nX ls Z);have b2:Hid (Ab [l[j]]<=2000):=by
     have h1:=DP l j Z;have h2:=Eu l (j+1);have h3:Ab [(⟨s,l⟩:Tm)]=1+Ab l:=(by simp[Ab]);unfold Hid;omega
    have b3:=Y.o.lt;have av:Below wr.heap.size wr (wr.alloc (ze l[j] a' c')):=(Ag _ _).alloc (Al _) _;have bo:=IH.o l[j] (AM Z) (λz=>C ⟨s,n++z::gL ls (l.drop (j+1))⟩) (1+Ab n+Ab (gL ls (l.drop (j+1)))+k) d1 ls mv a' c' (wr.alloc (ze l[j] a' c')) X (Gc.kid V.o (Gy.2 aE.o)) (by omega) ai ((HU.o.exqE ab.o r.o).later av) (by obtain⟨a2,c2,q2,h2⟩:=b0.o.alloc (ze l[j] a' c'); cases q2; exact h2) ((HM.o.exq ab.o E.o r.o).later av) aT.o r.o (by have h1:=aF.o; rw[au.o,bn.o] at h1; omega) b2.o (by
     have h1:=Y.o.below av b3;rw[au.o,bn.o,Nat.add_assoc]at h1;exact h1)
    have b4:=Aa bo;clear bo av hx;go_wp2_with fail;refine b4.o.mono ?_;rintro e w1 ⟨x1,x,A,J,D,rfl,L,hcs⟩;have b5:(wr.alloc (ze l[j] a' c')).heap.size=wr.heap.size+1:=(by simp);have aw:Ak (λb=>b=I) wr w1:=(Ak.ofBelow ((Ag _ _).alloc (Al _) (ze l[j] a' c'))).trans x1;have bI:wr.heap.size+1<=w1.heap.size:=by have:=x1.size; omega
    have ay:=Aa aw;have aG:Hid (Sl w1 (λb=>X b∨wr.heap.size<=b) A x.args):=L.mono λb hb _=>by
     rcases hb with h|h
     ·exact Ae h.1
     ·right; omega
    have M:=Aa hcs;have R1:=Aa (bl.o.exq aw (by omega));have O1:=Aa (B.exq aw (by omega));clear x1 L hcs aw b5 B;rcases M.o with ⟨rfl,d2,az,bp⟩|⟨h0,aH,a6⟩
    ·have b6:=Aa az;have b7:=Aa bp;have M:Hid True:=trivial;clear az bp;obtain⟨wm,aI,b8,bq⟩:=ay.o.mid;have aJ:A1 wm (w.heap.size+4) 31 X v n xs:=af.o.exqI bq (by omega) r.o;have hbx:Below wm.heap.size wm (w1.alloc (ze x A J)):=aI.alloc aI.size _;obtain⟨g,cap,w3,hrun,ad,a7,aK⟩:=ZH aJ (by omega) (λb hb=>by have:=U.o b hb; omega) hbx x A J ((aG.o.mono λb hb _=>by rcases hb with h|h; exact Ae h; exact Ad (by omega)).later ((Ag _ _).alloc (Al _) _)) (by have:=aD.o; have:=bm.o; omega);rw[Cp]at hrun;have aL:=Aa hrun;have ao:=Aa ad;have hne:∀b,b<w.heap.size+4->some b≠v.ownBlock:=λb hb=>aJ.ne hb;have kg:∀b cs T,b<w.heap.size+4->Ac w1 b cs T->Ac w3 b cs T:=λb cs T hb hk=>((hk.alloc _).alloc _).grown a7 (hne b hb);have N:=Aa (kg _ _ _ (by omega) R1.o);have O3:=Aa (kg _ _ _ (by omega) O1.o);have I3:=Aa (kg _ _ _ (by omega) b7.o);have bJ:w1.heap.size+2<=w3.heap.size:=by have:=a7.size; simp at this; omega
     have X3:Hid (Ak (λb=>b=I) w w3):=((ab.o.trans ay.o).alloc _).alloc _ |>.grown a7 (λq hq=>Ae (by have:=(aJ.own.lt q hq).1; omega));clear aI b8 bq hbx hrun ad a7 aK hne kg;have o1:∀o,(w1.alloc o).cell? (zD (w.heap.size+1+1+1) 1)=some v:=λo=>(O1.o.alloc o).cell 1;have p0:=O3.o.c1;have pf:=O3.o.frozen;obtain⟨O,vn,P,hv⟩:∃O vn P,v=.slice O vn P:=by obtain⟨q1,q2,q3,_⟩:=af.o.sl; exact⟨q1,_,q2,q3⟩
     subst hv;go_wp2_with (at_builtin; refine Gt rfl _ _ _ _ rfl rfl rfl aL.o ?_);refine⟨?_,by simp[intOf]; omega⟩;obtain⟨k1,k2,k3,k4,k5⟩:=b6.o;have e1:(n++[x])++gL ls (l.drop (j+1))=n++x::gL ls (l.drop (j+1)):=(by simp);have e2:=Wc s n x (gL ls (l.drop (j+1)));refine⟨j+1,n++[x],_,_,d2,by omega,by go_num,by rw[Cv,bm.o]; rfl,λy hy=>?_,by omega,k2,?_,?_,?_,N.o.setOther _ _ (by omega),O3.o.set 1 _,ao.o.setCell (by omega) (λh=>by have:=U.o _ h; omega) _,X3.o.setNew (by omega) 1 _,by simp[World.setCell]; omega⟩
     ·rcases Ba.1 hy with h|h
      ·exact aE.o y h
      ·simp at h; rw[h]; exact k3
     ·rw[H.o,au.o,k5,O0,e1];congr 1
      omega
     ·rw[e1];have:=k4;rw[V.o.2]at this;exact this
     ·have h9:Ab [x]+(1+Ab n+Ab (gL ls (l.drop (j+1)))+k)=Ab [(⟨s,n++x::gL ls (l.drop (j+1))⟩:Tm)]+k:=(by omega);have b9:I≠w.heap.size+1+1+1:=(by omega);rw[e1,<-h9];exact I3.o.setOther _ _ b9
    ·have hne:¬(D=0):=(by rcases h0 with h|h<;>omega);have bA:=Aa a6;have H0:=Aa h0;have M:Hid True:=trivial;have r0:∀o,(w1.alloc o).cell? (zD (w.heap.size+1) 0)=some (.string ⟨#[]⟩):=λo=>(R1.o.alloc o).cell 0;have r1:∀o,(w1.alloc o).cell? (zD (w.heap.size+1) 1)=some (zB):=λo=>(R1.o.alloc o).cell 1;have rf:∀o i,(w1.alloc o).frozen? (zD (w.heap.size+1) i)=false:=λo=>(R1.o.alloc o).frozen;clear a6 h0 aH;go_wp2_with fail;refine Aq (v:=.tuple #[.agg zd,zA D]) (by simp[results,results36,go_sem,Az,Aw,r0,r1]) rfl ?_;refine⟨by first|exact(((ab.o.trans ay.o).alloc _).setNew (by simp) 0 _).setNew (by simp) 1 _|exact(((ab.o.trans ay.o).setNew (by simp) 0 _).setNew (by simp) 1 _).alloc _,⟨⟨#[]⟩,[]⟩,none,0,D,rfl,⟨by simp,Ae rfl⟩,Ad ⟨H0.o,rfl,?_⟩⟩;rw[H.o,au.o,bA.o];exact Lo _ _ hne
   ·have bB:j=l.length:=(by omega);have bC:Hid (n++gL ls (l.drop j)=n):=Aa (by rw[bB,List.drop_length];simp[gL]);rw[bC.o]at H aF Y;have bK:¬((j:Int)<(l.length:Int)):=(by omega);obtain⟨O,P,hv,a8⟩:=af.o.sl;subst hv;have bD:=Aa (HK.o C k d1 ⟨s,n⟩ O P wr (λb=>X b∨w.heap.size+4<=b) V.o (by omega) ai ((HU.o.exqE ab.o r.o).mono λb hb _=>Ae hb) a8 aE.o (λb hb=>by rcases hb with h|h; exact r.o b h; omega) aF.o Y.o);have o0:=B.c0;have o1:wr.cell? (zD (w.heap.size+1+1+1) 1)=some (.slice O n.length P):=B.cell 1;clear a8 B;go_wp2_with fail;refine bD.o.mono ?_;rintro e w3 ⟨x3,x,A,J,D,rfl,L,hcs⟩;have X3:=Aa x3;have aG:=Aa L;have M:=Aa hcs;have bL:=x3.size;have N:=Aa (bl.o.exq x3 (by omega));clear x3 L hcs o0 o1;have r0:=N.o.c0;have r1:=N.o.c1;have rf:=N.o.frozen;go_wp2_with fail;refine Aq (v:=.tuple #[.agg (zF x A J),zA D]) (by simp[results,results36,go_sem,Az,Aw,r0,r1]) rfl ?_;refine⟨((ab.o.trans X3.o).setNew (by simp) 0 _).setNew (by simp) 1 _,x,A,J,D,rfl,?_,?_⟩
    ·have a8:Sl w3 (λb=>Qj w R b/\b≠w.heap.size+1) A x.args:=aG.o.mono λb hb hl=>by
      rcases hb with ⟨hb,_⟩|hb
      ·rcases hb with h|h
       ·have:=U.o b h;exact⟨Ae ⟨aS.o b h,this⟩,by omega⟩
       ·exact⟨Ad (by omega),by omega⟩
      ·exact⟨Ad (by omega),by omega⟩
     refine(a8.kept λb hb=>?_).mono λb hb _=>hb.1;rw[An _ _ _ _ (by simpa using hb.2),An _ _ _ _ (by simpa using hb.2)]
    ·rcases M.o with ⟨h0,d',az,bE⟩|⟨h0,aH,a6⟩
     ·exact Ae ⟨h0,d',GA.trans bz H.o az,(bE.setOther _ _ (by omega)).setOther _ _ (by omega)⟩
     ·refine Ad ⟨h0,aH,?_⟩;rw[H.o,a6];exact Lo _ _ (by rcases h0 with h|h<;>omega)
theorem nZ (rs:List Pr) (a:∀p∈rs,Br p=0) (ua:Option Addr) (uc I m:Nat) (hm:m<=400):∀f,Ql rs ua uc I m f:=by
 intro f;induction f using Nat.strongRecOn with
 |ind f b=>exact nY rs ua uc I m f (nS rs a ua uc I m f hm b)
