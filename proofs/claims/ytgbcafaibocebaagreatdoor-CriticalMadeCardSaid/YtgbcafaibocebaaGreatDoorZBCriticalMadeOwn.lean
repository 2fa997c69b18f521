/- Several texts in one. -/
import Derived.Test.YtgbcafaibocebaaGreatDoorZCriticalMadeOwn
import Derived.Deep.RegionHeld3
import Derived.WideMake
import Derived.Lib.Builder
import Derived.Lib.AppendStr
import Derived.Deep.AppendSrc
import Derived.Lib.ItoaNum
import Derived.Laws.IdiomStrings
import Derived.Deep.RegionHeld
import Derived.Test.YtgbcafaibocebaaGreatDoorShelf
import Derived.Deep.DeepCutAuto
import Derived.Laws.OwnMore
import Derived.Lib.AppendIntMem
namespace Go.Proofs.YtgbcafaibocebaaGreatDoor
set_option linter.all false
set_option maxRecDepth 20000
set_option maxHeartbeats 8000000
open Go.RowKit Go.Proofs.Tryz
def Gg (w:World) (F:Nat) (sv:Value) (t:Tm) (n:Nat) (e:Ending) (w':World):Prop:=
 ∃(s':ByteArray) (a':Option Addr) (l' c':Nat) (m:Int),e=.returned (.agg #[.string s',.slice a' l' c'])/\Ac w' F #[zA m,sv] 132/\Ex F w w'/\(Ab [t]<=n->m=(n:Int)-Ab [t]/\s'=t.name/\l'=t.args.length/\Sl w' (λb=>w.heap.size<=b) a' t.args)/\(n<Ab [t]->m=-1)
theorem VJ (F:Nat) (sv:Value) (t:Tm) (n:Nat) (a:Option Addr) (c:Nat) (w:World) (af:F<w.heap.size) (h:Calls prog 111 #[zC F,.agg (zF t a c),.func (.func 112) #[zC F] #[]] ((w.alloc (.cells (zF t a c) 33)).alloc (.cells #[.string ⟨#[]⟩,zB] 33)) λe w'=>Gg ((w.alloc (.cells (zF t a c) 33)).alloc (.cells #[.string ⟨#[]⟩,zB] 33)) F sv t n e w'):
  Calls prog 112 #[zC F,.agg (zF t a c)] w λe w'=>Gg w F sv t n e w':=by
 have ag:=@hmq prog;have H:=Aa h;clear h;go_enter func112,ntmps112;go_wp2_with fail;refine H.o.mono ?_;rintro e w1 ⟨s',f,l',c',m,rfl,ab,aa,g,i⟩;have d:Hid (Ac w1 (w.heap.size+1) #[.string ⟨#[]⟩,zB] 33):=Aa (by have h:=(Ac.new (w.alloc (.cells (zF t a c) 33)) #[.string ⟨#[]⟩,zB] 33).ex aa (by simp; omega);simpa using h);have j:=Aa ((((Ex.refl F w).alloc (.cells (zF t a c) 33)).alloc (.cells #[.string ⟨#[]⟩,zB] 33)).trans aa);have k:=Aa ab;have l:=Aa g;have q:=Aa i;clear ab aa g i;have r:=d.o.c0;have s:=d.o.c1;have rf:=d.o.frozen;go_wp2_with fail;refine An (v:=.agg #[.string s',.slice f l' c']) (by simp[results,results112,go_sem,Ay,Aw,r,s]) rfl ?_;refine⟨s',f,l',c',m,rfl,(k.o.setOther _ _ (by omega)).setOther _ _ (by omega),(j.o.setNew (by omega) _ _).setNew (by omega) _ _,λh=>?_,q.o⟩;obtain⟨h1,h2,h3,u⟩:=l.o h;refine⟨h1,h2,h3,(u.kept λb hb=>?_).mono λb hb _=>by simp at hb; omega⟩;simp at hb;rw[Aq _ _ _ _ (by simp; omega),Aq _ _ _ _ (by simp; omega)]
theorem Sl.ex {w w':World} {F:Nat} {X:Nat->Prop} {a:Option Addr} {l:List Tm} (h:Sl w X a l) (he:Ex F w w') (c:∀b,X b->b≠F):Sl w' X a l:=
 ((h.mono (Y:=λb=>X b/\b<w.heap.size) λb h1 h2=>⟨h1,h2⟩).kept λb hb=>he.block b hb.2 (c b hb.1)).mono λb hb _=>hb.1
def IU (w:World) (F O:Nat) (s:ByteArray) (u:Value) (cF:Array Value) (wr:World):Prop:=
 Ex F w wr/\Ac wr (w.heap.size+1) #[.string ⟨#[]⟩,zB] 33/\Ac wr O #[.string s,u] 33/\Ac wr F cF 132/\O<wr.heap.size
theorem KJ {w wr w1 w3:World} {F O:Nat} {s:ByteArray} {u v:Value} {f ab:Array Value} {a:Obj} (af:F<w.heap.size) (hO:w.heap.size+2<=O) (h:IU w F O s u f wr) (hu:∀k,u.ownBlock=some k->O+1<=k)
  (aa:Ex F wr w1) (g:Ac w1 F ab 132) (c:(w1.alloc a).grownBy w3 u.ownBlock):IU w F O s v ab (w3.setCell (zD O 1) v):=by
 obtain⟨h1,h2,h3,h4,h5⟩:=h;have d:∀b,b<O+1->some b≠u.ownBlock:=λb hb e=>by have:=hu b e.symm; omega
 have ag:=aa.size;have i:=c.size;simp at i;refine⟨(((h1.trans aa).alloc a).grown c (λk hk=>by have:=hu k hk; omega)).setNew (by omega) _ _,?_,?_,?_,by simp[World.setCell]; omega⟩
 ·exact(((h2.ex aa (by omega)).alloc a).grown c (d _ (by omega))).setOther _ _ (by omega)
 ·exact(((h3.ex aa (by omega)).alloc a).grown c (d _ (by omega))).set 1 _
 ·exact((g.alloc a).grown c (d _ (by omega))).setOther _ _ (by omega)
theorem OP {wr w1 w3:World} {F O:Nat} {u:Value} {L:List Tm} {xs:List Value} {a:Obj} {s':ByteArray} {a1:Option Addr} {c c1 g cap:Nat} {t:Tm} (ai:F<O) (hOr:O<wr.heap.size) (aa:AK wr (O+1) 33 (λ_=>False) u L xs)
  (d:Ex F wr w1) (ht:TV w1 (λb=>wr.heap.size<=b) (.agg #[.string s',.slice a1 c c1]) t)
  (ab:w3.ownsRow (O+1) 33 2 (.slice (some (zD g 0)) (L.length+1) cap) (L.length+1) (xs++[.string s',.slice a1 c c1])) (e:(w1.alloc a).grownBy w3 u.ownBlock) (f:u.ownBlock=some g∨g=(w1.alloc a).heap.size):
  AK (w3.setCell (zD O 1) (.slice (some (zD g 0)) (L.length+1) cap)) (O+1) 33 (λ_=>False) (.slice (some (zD g 0)) (L.length+1) cap) (L++[t]) (xs++[.string s',.slice a1 c c1]):=by
 obtain⟨wm,i,aj,j⟩:=d.mid;have k:=aa.ex j (by omega) (λh=>h);exact(k.push (w1:=w1) (w2:=w1.alloc a) (w3:=w3) (by omega) (λ_ h=>h.elim) i (ht.mono λb h _=>Ae (by omega)) a rfl ab e f).setCell (by omega) (λh=>h) _
def OQ (w:World) (F O:Nat) (s:ByteArray) (sv:Value) (l:List Tm) (n:Nat) (i:Value) (wr:World):Prop:=
 ∃(k:Nat) (u:Value),k<=l.length/\i=zA k/\
  ((∃(m:Nat) (xs:List Value),(m:Int)=(n:Int)-1-Ab (l.take k)/\IU w F O s u #[zA m,sv] wr/\AK wr (O+1) 33 (λ_=>False) u (l.take k) xs)∨
   (n<1+Ab l/\IU w F O s u #[zA (-1),sv] wr/\∃a9 l9 c9,u=.slice a9 l9 c9))
theorem KK (F:Nat) (sv:Value) (t:Tm):∀(n:Nat) (v:Value) (w:World) (X:Nat->Prop),TV w X v t->(∀b,X b->b≠F)->n<=1000000->Ac w F #[zA n,sv] 132->
  Calls prog 111 #[zC F,v,.func (.func 112) #[zC F] #[]] w λe w'=>Gg w F sv t n e w':=by
 induction t using Tm.ind with
 |h s l ih=>
  intro n v w X hv aC hn hF;obtain⟨a,c,rfl,hs⟩:=hv;have IH:=Aa ih;clear ih;obtain⟨i0,aD,aE,aF,aG⟩:=CE Tryz.infoTerm;have f0:∀o,(w.alloc o).cell? (zD F 0)=some (zA n):=λo=>(hF.alloc o).cell 0;have ff:∀o,(w.alloc o).frozen? (zD F 0)=false:=λo=>(hF.alloc o).frozen 0;have aH:F<w.heap.size:=hF.lt;go_enter func111,ntmps111;go_wp2_with fail;have E3:Hid (IU w F (w.heap.size+1+1) s zB #[zA ((n:Int)-1),sv] ((((w.setCell (zD F 0) (zA ((n:Int)-1))).alloc (.cells #[.string s,.slice a l.length c] 33)).alloc (.cells #[.string ⟨#[]⟩,zB] 33)).alloc (.cells #[.string s,zB] 33))):=by
   refine⟨((((Ex.refl F w).set 0 _).alloc _).alloc _).alloc _,?_,?_,(((hF.set 0 _).alloc _).alloc _).alloc _,by simp[World.setCell]⟩
   ·have h:=(Ac.new ((w.setCell (zD F 0) (zA ((n:Int)-1))).alloc (.cells #[.string s,.slice a l.length c] 33)) #[.string ⟨#[]⟩,zB] 33).alloc (.cells #[.string s,zB] 33);simpa [World.setCell] using h
   ·have h:=Ac.new (((w.setCell (zD F 0) (zA ((n:Int)-1))).alloc (.cells #[.string s,.slice a l.length c] 33)).alloc (.cells #[.string ⟨#[]⟩,zB] 33)) #[.string s,zB] 33;simpa [World.setCell] using h
  generalize ((((w.setCell (zD F 0) (zA ((n:Int)-1))).alloc (.cells #[.string s,.slice a l.length c] 33)).alloc (.cells #[.string ⟨#[]⟩,zB] 33)).alloc (.cells #[.string s,zB] 33))=w3 at *;generalize aK:w.heap.size+1+1=O at *;have hO:w.heap.size+2<=O:=by omega
  clear aK;clear f0 ff;have HS:=Aa hs;have hl:=hs.1;have P:=Aa aC;have hz:Ab [(⟨s,l⟩:Tm)]=1+Ab l:=by simp[Ab]
  clear hs aC;go_loopw [23] (λi wr=>OQ w F O s sv l n i wr) (λi wr=>l.length-(intOf i).toNat);case atStart=>
   refine⟨0,zB,AG _,rfl,?_⟩;by_cases aL:n=0
   ·subst aL;exact Ae ⟨by omega,E3.o,none,0,0,rfl⟩
   ·refine Ad ⟨n-1,[],by simp[Ab]; omega,?_,AK.start _ _ _ _⟩;rw[show((n-1:Nat):Int)=(n:Int)-1 by omega];exact E3.o
  case round=>
   obtain⟨k,u,hk,rfl,ak⟩:=hrel;rcases ak with ⟨m,xs,hm,C,al⟩|⟨aM,C,a9,D,c9,rfl⟩
   ·have d:=Aa C;have r:=Aa al;have I:=Aa hm;clear C al;by_cases y:k<l.length
    ·obtain⟨b,o,f,c',rfl,d0,d1,hx⟩:=(HS.o.ex d.o.1 P.o).get (Af _ _) (λ_ _ h=>h) k y;obtain⟨av,cv,ev,aN⟩:=hx;simp at ev;obtain⟨rfl,rfl⟩:=ev;have aO:m<=1000000:=(by omega);have A:Hid (O≠F):=Aa (by omega);have an:Hid (F<O+1):=Aa (by omega);have hlen:=EM l;have R:(l.take k).length=k:=by simp; omega
     have aU:k<=1000000:=by have h1:=EM (l.take k); rw[R] at h1; omega
     have J:Hid ((l.take k).length+1<=maxLen/\((l.take k).length+1)*40<=140737488355328):=Aa (by rw[R];exact⟨by unfold maxLen; omega,by omega⟩);clear R;have L:Hid (Calls prog 112 #[zC F,.agg (zF l[k] f c')] (wr.alloc (.cells (zF l[k] f c') 33)).drew λe q=>Gg (wr.alloc (.cells (zF l[k] f c') 33)).drew F sv l[k] m e q):=VJ F sv l[k] m f c' _ (by have:=d.o.1.size; simp; omega) (IH.o l[k] (AN y) m _ _ X ⟨f,c',rfl,((aN.later ((Af _ _).alloc (Ai _) (.cells (zF l[k] f c') 33))).later ((Af _ _).drew)).later (((Af _ _).alloc (Ai _) _).alloc (by simp) _)⟩ P.o aO (by exact((((d.o.2.2.2.1.alloc _).drewN 1).alloc _).alloc _)));have f0:∀o,(wr.alloc o).cell? (zD F 0)=some (zA m):=λo=>(d.o.2.2.2.1.alloc o).cell 0;have T:∀o,(wr.alloc o).cell? (zD O 1)=some u:=λo=>(d.o.2.2.1.alloc o).cell 1;have aV:¬(m:Int)<0:=(by omega);by_cases hle:Ab [l[k]]<=m
     ·have U:Hid (Calls prog 112 #[zC F,.agg (zF l[k] f c')] (wr.alloc (.cells (zF l[k] f c') 33)).drew λe q=>∃a1 c1,e=.returned (.agg (zF l[k] a1 c1))/\Ac q F #[zA ((m:Int)-Ab [l[k]]),sv] 132/\Ex F wr q/\Sl q (λb=>wr.heap.size<=b) a1 l[k].args):=L.o.mono λe q hp=>by
       obtain⟨s1,a1,l1,c1,m1,h1,h2,h3,V,_⟩:=hp;obtain⟨rfl,rfl,rfl,h5⟩:=V hle;exact⟨a1,c1,h1,h2,(((Ex.refl F wr).alloc _).drew).trans h3,h5.mono λb hb _=>by simp at hb; omega⟩
      clear L;go_wp2_with fail;go_region_law (first
       | (go_simp; go_at_call 112; refine U.o.mono ?_; rintro e w1 ⟨a1,c1,rfl,E,ab,aI⟩; have W:∀o,(w1.alloc o).cell? (zD O 1)=some u:=λo=>((Ac.ex d.o.2.2.1 ab A.o).alloc o).cell 1; have Y:w1.cell? (zD O 1)=some u:=(Ac.ex d.o.2.2.1 ab A.o).cell 1)
       | (refine step_append_lies _ rfl _ _ 31 rfl (O+1) 33 i0 _ 2 40 underlying31 aD aE aF aG rfl (by decide) u (l.take k).length xs rfl (by exact(AK.ex (B:=F) r.o ab an.o (λh=>h)).own.alloc _) (zD w1.heap.size 0) 1 1 [.string l[k].name,.slice a1 l[k].args.length c1] rfl rfl (cell_two_new _ _ _ _) (λx hx=>by simp at hx; rcases hx with rfl|rfl<;>rfl) (by decide) J.o.1 J.o.2 (by have:=ab.size; have:=d.o.2.2.2.2; simp; omega) _ rfl ?_; intro g cap w3 M aa N Z; have z:=Aa (((Ac.ex d.o.2.2.1 ab A.o).alloc _).grown aa (r.o.ne (D8 _))); have a8:w3.cell? (zD O 1)=some u:=z.o.cell 1; have aA:=z.o.frozen 1))
      all_goals
       have HK:=Aa (KJ (v:=.slice (some (zD g 0)) ((l.take k).length+1) cap) aH hO d.o (λj hj=>(r.o.own.lt j hj).1) ab E aa);have aP:=Aa (OP (by omega) d.o.2.2.2.2 r.o ab ⟨a1,c1,rfl,aI⟩ M aa N);clear M aa N W Y a8 aA z E ab aI Z;go_wp2_with fail;go_roundw
       case rel=>
        have aB:(l.take k).length=k:=by simp; omega
        have h1:=HK.o;have h2:=aP.o;have aJ:=I.o;simp only[aB] at h1 h2;refine⟨k+1,.slice (some (zD g 0)) (k+1) cap,by omega,by go_num,Ad ⟨m-Ab [l[k]],xs++[.string l[k].name,.slice a1 l[k].args.length c1],by rw[De l k y]; omega,?_,?_⟩⟩
        ·rw[show((m-Ab [l[k]]:Nat):Int)=(m:Int)-Ab [l[k]] by omega];exact h1
        ·rw[Bo y];exact h2
       case measure=>simp[intOf]; omega
     ·have U:Hid (Calls prog 112 #[zC F,.agg (zF l[k] f c')] (wr.alloc (.cells (zF l[k] f c') 33)).drew λe q=>∃s1 a1 l1 c1,e=.returned (.agg #[.string s1,.slice a1 l1 c1])/\Ac q F #[zA (-1),sv] 132/\Ex F wr q):=L.o.mono λe q hp=>by
       obtain⟨s1,a1,l1,c1,m1,h1,h2,h3,_,V⟩:=hp;obtain rfl:=V (by omega);exact⟨s1,a1,l1,c1,h1,h2,(((Ex.refl F wr).alloc _).drew).trans h3⟩
      clear L;go_wp2_with fail;go_region_law (first
       | (go_simp; go_at_call 112; refine U.o.mono ?_; rintro e w1 ⟨s1,a1,l1,c1,rfl,E,ab⟩; have W:∀o,(w1.alloc o).cell? (zD O 1)=some u:=λo=>((Ac.ex d.o.2.2.1 ab A.o).alloc o).cell 1; have Y:w1.cell? (zD O 1)=some u:=(Ac.ex d.o.2.2.1 ab A.o).cell 1)
       | (refine step_append_lies _ rfl _ _ 31 rfl (O+1) 33 i0 _ 2 40 underlying31 aD aE aF aG rfl (by decide) u (l.take k).length xs rfl (by exact(AK.ex (B:=F) r.o ab an.o (λh=>h)).own.alloc _) (zD w1.heap.size 0) 1 1 [.string s1,.slice a1 l1 c1] rfl rfl (cell_two_new _ _ _ _) (λx hx=>by simp at hx; rcases hx with rfl|rfl<;>rfl) (by decide) J.o.1 J.o.2 (by have:=ab.size; have:=d.o.2.2.2.2; simp; omega) _ rfl ?_; intro g cap w3 M aa N Z; have z:=Aa (((Ac.ex d.o.2.2.1 ab A.o).alloc _).grown aa (r.o.ne (D8 _))); have a8:w3.cell? (zD O 1)=some u:=z.o.cell 1; have aA:=z.o.frozen 1))
      all_goals
       have HK:=Aa (KJ (v:=.slice (some (zD g 0)) ((l.take k).length+1) cap) aH hO d.o (λj hj=>(r.o.own.lt j hj).1) ab E aa);clear M aa N W Y a8 aA z E ab Z;go_wp2_with fail;go_roundw
       case rel=>
        have aB:(l.take k).length=k:=by simp; omega
        have h0:=HK.o;have aJ:=I.o;simp only[aB] at h0;refine⟨k+1,.slice (some (zD g 0)) (k+1) cap,by omega,by go_num,Ae ⟨?_,h0,_,_,_,rfl⟩⟩;have h1:=De l k y;have h2:=Df l (k+1);omega
       case measure=>simp[intOf]; omega
    ·have aQ:l.take k=l:=AX (by omega);rw[aQ]at r I;obtain⟨a9,c9,aR,aq⟩:=r.o.sl;subst aR;have S9:=Aa aq;clear aq;have G:=d.o.2.1.c0;have H:=d.o.2.1.c1;have rf:=d.o.2.1.frozen;have o0:=d.o.2.2.1.c0;have T:=d.o.2.2.1.c1;go_wp2_with fail;refine An (v:=.agg #[.string s,.slice a9 l.length c9]) (by simp[results,results111,go_sem,Ay,Aw,G,H]) rfl ?_;have aJ:=I.o;refine⟨s,a9,l.length,c9,m,rfl,(d.o.2.2.2.1.setOther _ _ (by omega)).setOther _ _ (by omega),(d.o.1.setNew (by omega) _ _).setNew (by omega) _ _,λh=>⟨by rw[hz]; omega,rfl,rfl,(S9.o.kept λb hb=>?_).mono λb hb _=>?_⟩,λh=>by omega⟩
     ·have aS:O+1<=b:=hb.elim False.elim id;rw[Aq _ _ _ _ (by simp; omega),Aq _ _ _ _ (by simp; omega)]
     ·have aS:O+1<=b:=hb.elim False.elim id;omega
   ·have d:=Aa C;clear C;have f0:∀o,(wr.alloc o).cell? (zD F 0)=some (zA (-1)):=λo=>(d.o.2.2.2.1.alloc o).cell 0;by_cases y:k<l.length
    ·obtain⟨b,o,f,c',rfl,d0,d1,hx⟩:=(HS.o.ex d.o.1 P.o).get (Af _ _) (λ_ _ h=>h) k y;clear hx;have o0:∀o,(wr.alloc o).cell? (zD O 0)=some (.string s):=λo=>(d.o.2.2.1.alloc o).cell 0;have T:∀o,(wr.alloc o).cell? (zD O 1)=some (.slice a9 D c9):=λo=>(d.o.2.2.1.alloc o).cell 1;have G:=d.o.2.1.c0;have H:=d.o.2.1.c1;have rf:=d.o.2.1.frozen;have aT:w.heap.size+1<wr.heap.size:=d.o.2.1.lt;go_wp2_with fail;refine An (v:=.agg #[.string s,.slice a9 D c9]) (by simp[results,results111,go_sem,Ay,Aw,G,H,aT,Da]) rfl ?_;exact⟨s,a9,D,c9,-1,rfl,((d.o.2.2.2.1.setOther _ _ (by omega)).setOther _ _ (by omega)).alloc _,((d.o.1.setNew (by omega) _ _).setNew (by omega) _ _).alloc _,λh=>by omega,λ_=>rfl⟩
    ·have G:=d.o.2.1.c0;have H:=d.o.2.1.c1;have rf:=d.o.2.1.frozen;have o0:=d.o.2.2.1.c0;have T:=d.o.2.2.1.c1;go_wp2_with fail;refine An (v:=.agg #[.string s,.slice a9 D c9]) (by simp[results,results111,go_sem,Ay,Aw,G,H]) rfl ?_;exact⟨s,a9,D,c9,-1,rfl,(d.o.2.2.2.1.setOther _ _ (by omega)).setOther _ _ (by omega),(d.o.1.setNew (by omega) _ _).setNew (by omega) _ _,λh=>by omega,λ_=>rfl⟩
def Be:List (ByteArray×Value)->ByteArray->Option Value
 | [],_=>none
 |p::r,n=>if p.1=n then some p.2 else Be r n
def GL (es:Array MapEntry) (clk:Nat):Prop:=(∀x∈es.toList,x.born<clk)/\(es.toList.map (·.born)).Nodup
def Bm (w:World) (r:Nat) (L:List (ByteArray×Value)):Prop:=
 ∃es clk,w.heap[r]? = some (.map es clk)/\es.toList.map (λe=>(e.key,e.val))=L.map (λp=>(Value.string p.1,p.2))/\GL es clk
theorem GL.push {es:Array MapEntry} {aa:Nat} (h:GL es aa) (k v:Value):GL (es.push { key:=k,val:=v,born:=aa}) (aa+1):=by
 obtain⟨h1,h2⟩:=h;refine⟨λx hx=>?_,?_⟩
 ·rw[Array.toList_push,Bg]at hx;rcases hx with hx|hx
  ·have:=h1 x hx; omega
  ·have e:x={ key:=k,val:=v,born:=aa}:=(by simpa using hx);subst e; exact D8 _
 ·rw[Array.toList_push,Cr,List.nodup_append];refine⟨h2,by simp,λa c b hb=>?_⟩;obtain⟨x,hx,rfl⟩:=Ce.1 c;have:=h1 x hx;have e:b=aa:=by simpa using hb
  omega
theorem VK (j:Nat) (k v:Value):∀l:List MapEntry,(l.modify j λe=>{ e with key:=k,val:=v}).map (·.born)=l.map (·.born):=by
 induction j with
 |zero=>intro l; cases l<;>simp
 |succ j b=>intro l; cases l with
  |nil=>simp
  |cons a r=>simp[List.modify_succ_cons,b r]
theorem GL.modify {es:Array MapEntry} {aa:Nat} (h:GL es aa) (j:Nat) (k v:Value):GL (es.modify j λe=>{ e with key:=k,val:=v}) aa:=by
 obtain⟨h1,h2⟩:=h;have e:=VK j k v es.toList;refine⟨λx hx=>?_,by rw[Array.toList_modify,e]; exact h2⟩;rw[Array.toList_modify]at hx;have:x.born∈es.toList.map (·.born):=by rw[<-e]; exact Ce.2 ⟨x,hx,rfl⟩
 obtain⟨y,hy,hb⟩:=Ce.1 this;rw[<-hb]; exact h1 y hy
theorem Bm.new (w:World):Bm (w.alloc (.map #[] 0)) w.heap.size []:=⟨#[],0,Et w _,rfl,by simp[GL]⟩
theorem Bm.lt {w:World} {r:Nat} {L:List (ByteArray×Value)} (h:Bm w r L):r<w.heap.size:=by
 obtain⟨es,aa,h,_⟩:=h;exact(DV.1 h).1
theorem Bm.kept {w w':World} {r:Nat} {L:List (ByteArray×Value)} (h:Bm w r L) (hk:w'.heap[r]? = w.heap[r]?):Bm w' r L:=by
 obtain⟨es,aa,h1,h2⟩:=h;exact⟨es,aa,hk.trans h1,h2⟩
theorem Bm.below {w w':World} {r B:Nat} {L:List (ByteArray×Value)} (h:Bm w r L) (hb:Below B w w') (a:r<B):Bm w' r L:=h.kept (hb.block r a)
theorem KL (n:ByteArray):∀(l:List MapEntry) (L:List (ByteArray×Value)) (i:Nat),l.map (λe=>(e.key,e.val))=L.map (λp=>(Value.string p.1,p.2))->
  (Be L n=none->Instr.findNow .string (.string n) l i=some none)/\(∀v,Be L n=some v->∃j,Instr.findNow .string (.string n) l i=some (some (j,v)))
 | [],[],i,h=>⟨λ_=>rfl,λv h=>by simp[Be] at h⟩
 | [],p::L,i,h=>by simp at h
 |e::l,[],i,h=>by simp at h
 |e::l,p::L,i,h=>by
  simp only[Cb,GC,Prod.mk.injEq] at h;obtain⟨⟨hk,hv⟩,ht⟩:=h;obtain⟨aa,ab⟩:=KL n l L (i+1) ht;by_cases hn:p.1=n
  ·have hs:Instr.sameNow .string (.string n) e.key=some true:=(by rw[hk,hn];show some (n==n)=some true;rw[show(n==n)=true from (Kk _ _).2 rfl]);refine⟨λh=>by simp[Be,hn] at h,λv h=>⟨i,?_⟩⟩;simp only[Be,hn,if_true,H7] at h;simp[Instr.findNow,hs,hv,h]
  ·have hs:Instr.sameNow .string (.string n) e.key=some false:=by
    rw[hk];show some (n==p.1)=some false;have hb:(n==p.1)=false:=by
     cases a:(n==p.1) with
     |false=>rfl
     |true=>exact absurd ((Kk _ _).1 a).symm hn
    rw[hb]
   refine⟨λh=>?_,λv h=>?_⟩
   ·rw[Be,Aj hn]at h;simp[Instr.findNow,hs,aa h]
   ·rw[Be,Aj hn]at h;obtain⟨j,hj⟩:=ab v h;exact⟨j,by simp[Instr.findNow,hs,hj]⟩
theorem E9 {P:Program} {w:World} {T a c:TypeId} {r:Nat} {L:List (ByteArray×Value)} {z:Value} (hm:P.underlying T=some (.map a c)) (hk:P.underlying a=some .string) (hz:(zeroValue c).run P w=.ok z w) (h:Bm w r L) (n:ByteArray):
  (Instr.lookup T (.map (some r)) (.string n) true).run P w=.ok (.tuple #[(Be L n).getD z,.bool (Be L n).isSome]) w:=by
 obtain⟨es,aa,hb,he,ab⟩:=h;obtain⟨h1,h2⟩:=KL n es.toList L 0 he;have hc:∀b,(Instr.checkKey b 10000 a (.string n)).run P w=.ok () w:=λb=>Kl (k:=.string n) hk (by simp[MapKept.IsKey]) b 9999;cases d:Be L n with
 |none=>simp[Instr.lookup,Ga hm,H8 hb,hc,IA hk (h1 d),Result.andThen,hz]
 |some v=>obtain⟨j,hj⟩:=h2 v d;simp[Instr.lookup,Ga hm,H8 hb,hc,IA hk hj,Result.andThen]
theorem JN {P:Program} {w:World} {T a c:TypeId} {r:Nat} {L:List (ByteArray×Value)} (hm:P.underlying T=some (.map a c)) (hk:P.underlying a=some .string) (h:Bm w r L) (n:ByteArray) (v:Value) (hn:Be L n=none):
  ∃w',(Instr.mapUpdate T (.map (some r)) (.string n) v).run P w=.ok () w'/\Bm w' r (L++[(n,v)])/\w'.heap.size=w.heap.size/\w'.os=w.os/\w'.tape=w.tape/\w'.output=w.output/\(∀b,b≠r->w'.heap[b]? = w.heap[b]?):=by
 obtain⟨es,aa,hb,he,ab⟩:=h;obtain⟨h1,h2⟩:=KL n es.toList L 0 he;have hc:(Instr.checkKey false 10000 a (.string n)).run P w=.ok () w:=Kl (k:=.string n) hk (by simp[MapKept.IsKey]) false 9999;have hlt:r<w.heap.size:=(DV.1 hb).1;refine⟨{ w with heap:=w.heap.setIfInBounds r (.map (es.push { key:=.string n,val:=v,born:=aa}) (aa+1))},?_,⟨_,_,(IB hb).1,by simp[he],ab.push _ _⟩,by simp,rfl,rfl,rfl,λb d=>(IB hb).2 b d⟩;simp[Instr.mapUpdate,Ga hm,H8 hb,hc,IA hk (h1 hn),MapKept.run_setObj_map _ hb,Result.andThen]
def Ii (ls:List Bd):Prop:=∀k (h:k<ls.length),As (ls.take k) ls[k].nm=none
def DO (w:World) (X:Nat->Prop):List Bd->List (ByteArray×Value)->Prop
 | [],L=>L=[]
 |d::r,L=>∃a c L',L=(d.nm,.agg (zF d.t a c))::L'/\Sl w X a d.t.args/\DO w X r L'
theorem DO.imp {w w':World} {X Y:Nat->Prop} (hs:∀a l,Sl w X a l->Sl w' Y a l):∀ {l:List Bd} {L:List (ByteArray×Value)},DO w X l L->DO w' Y l L
 | [],L,h=>h
 |d::r,L,h=>by obtain⟨a,c,b,e,h1,h2⟩:=h; exact⟨a,c,b,e,hs _ _ h1,DO.imp hs h2⟩
theorem DO.push {w:World} {X:Nat->Prop} {d:Bd} {a:Option Addr} {c:Nat} (hs:Sl w X a d.t.args):∀ {l:List Bd} {L:List (ByteArray×Value)},DO w X l L->DO w X (l++[d]) (L++[(d.nm,.agg (zF d.t a c))])
 | [],L,h=>by
  have e:L=[]:=h;subst e;exact⟨a,c,[],rfl,hs,rfl⟩
 |d'::r,L,h=>by obtain⟨b,c',L',e,h1,h2⟩:=h; subst e; exact⟨b,c',_,rfl,h1,DO.push hs h2⟩
theorem DO.get {w:World} {X:Nat->Prop} (n:ByteArray):∀ {l:List Bd} {L:List (ByteArray×Value)},DO w X l L->(As l n=none->Be L n=none)/\(∀t,As l n=some t->∃a c,Be L n=some (.agg (zF t a c))/\Sl w X a t.args)
 | [],L,h=>by
  have e:L=[]:=h;subst e;exact⟨λ_=>rfl,λt h=>by simp[As] at h⟩
 |d::r,L,h=>by
  obtain⟨a,c,L',rfl,h1,h2⟩:=h;obtain⟨g1,g2⟩:=DO.get n h2;by_cases hd:d.nm=n
  ·refine⟨λh=>by simp[As,hd] at h,λt h=>?_⟩;rw[As,Ar hd]at h;cases h;exact⟨a,c,by simp[Be,hd],h1⟩
  ·refine⟨λh=>?_,λt h=>?_⟩
   ·rw[As,Aj hd]at h;simp only[Be,hd,if_false];exact g1 h
   ·rw[As,Aj hd]at h;simp only[Be,hd,if_false];exact g2 t h
def VL (w:World) (X:Nat->Prop) (ls:List Bd) (v:Value) (wr:World):Prop:=∃(k:Nat) (L:List (ByteArray×Value)),v=zA k/\k<=ls.length/\Bm wr w.heap.size L/\DO wr (λb=>X b/\b<w.heap.size) (ls.take k) L/\Below w.heap.size w wr
theorem VM (ls:List Bd) (ho:Ii ls) (u:Value) (w:World) (X:Nat->Prop) (hu:BV w X u ls):
  Calls prog 73 #[u] w λe w'=>∃L,e=.returned (.map (some w.heap.size))/\Bm w' w.heap.size L/\DO w' (λb=>X b/\b<w.heap.size) ls L/\Below w.heap.size w w':=by
 have D:=Aa hu;obtain⟨a,c,rfl,hl,ab⟩:=hu;clear ab;have av:=@run_makeMap prog;go_enter func73,ntmps73;go_wp2_with fail;go_loopw [9] (λv wr=>VL w X ls v wr) (λv wr=>ls.length-(intOf v).toNat);case atStart=>exact⟨0,[],rfl,AG _,Bm.new w,rfl,(Af _ _).alloc (Ai _) _⟩
 case round=>
  obtain⟨k,L,rfl,hk,g,hP,hb⟩:=hrel;have s:=Aa g;have i:=Aa hP;have m:=Aa hb;by_cases n:k<ls.length
  ·obtain⟨b,o,f,c',rfl,d0,d1,d2,hs⟩:=((D.o.mono (Y:=λb=>X b/\b<w.heap.size) λb h1 h2=>⟨h1,h2⟩).later hb).get k n;have ak:(k:Int)<(ls.length:Int):=(by omega);have E:=Aa hs;have x:=(hP.get ls[k].nm).1 (ho k n);have aa:ls.take (k+1)=ls.take k++[ls[k]]:=Bo n;have F:=Aa aa;have G:=g.lt;clear hb hs g hP aa;generalize ls[k]=d at *;obtain⟨w2,ao,y,z,A,B,ab,r⟩:=JN (P:=prog) (w:=wr.alloc (.cells #[.string d.nm,.string d.t.name,.slice f d.t.args.length c'] 90)) underlying110 underlying9 (s.o.kept (AL _ _ _ G)) d.nm (.agg (zF d.t f c')) x;have H:=Aa y;have I:Hid (Below w.heap.size w w2):=by
    have h0:=m.o.alloc m.o.size (.cells #[.string d.nm,.string d.t.name,.slice f d.t.args.length c'] 90);exact⟨A.trans h0.os,B.trans h0.tape,ab.trans h0.output,by rw[z]; exact h0.size,λj hj=>(r j (by omega)).trans (h0.block j hj)⟩
   have J:Hid (DO w2 (λb=>X b/\b<w.heap.size) (ls.take (k+1)) (L++[(d.nm,.agg (zF d.t f c'))])):=Aa (by have C:∀q l,Sl wr (λb=>X b/\b<w.heap.size) q l->Sl w2 (λb=>X b/\b<w.heap.size) q l:=λq l h=>h.kept λj hj=>(r j (by have:=hj.2; omega)).trans (AL _ _ _ (by have:=hj.2; omega));rw[F.o];exact DO.push (C _ _ E.o) (i.o.imp C));clear y z A B ab r x;go_wp2_with fail;go_roundw
   case rel=>exact⟨k+1,_,by go_num,by omega,H.o,J.o,I.o⟩
   case measure=>simp[intOf]; omega
  ·have aa:ls.take k=ls:=AX (by omega);rw[aa]at i;clear hP aa;go_wp2_with fail;go_ret;exact⟨L,rfl,s.o,i.o,m.o⟩
theorem VN (r:Nat) (w:World):
  Calls prog 72 #[.map (some r)] w λe w'=>e=.returned (.func (.func 95) #[] #[zC w.heap.size])/\w'=w.alloc (.cells #[.map (some r)] 110):=by
 have aa:=@hmq prog;go_enter func72,ntmps72;go_wp2_with fail;go_ret;exact⟨rfl,rfl⟩
theorem OR (ls:List Bd) (n:ByteArray) (B r:Nat) (L:List (ByteArray×Value)) (w:World) (X:Nat->Prop) (h:Ac w B #[.map (some r)] 110) (i:Bm w r L) (hP:DO w X ls L):
  Calls prog 95 #[.string n,zC B] w λe w'=>Below w.heap.size w w'/\((∃t a c,As ls n=some t/\e=.returned (.tuple #[.agg (zF t a c),.bool true])/\Sl w X a t.args)∨(As ls n=none/\e=.returned (.tuple #[.agg #[.string ⟨#[]⟩,zB],.bool false]))):=by
 have c0:∀o,(w.alloc o).cell? (zD B 0)=some (.map (some r)):=λo=>(h.alloc o).cell 0;have hlt:B<w.heap.size:=h.lt;have hz:∀w',(zeroValue 33).run prog w'=.ok (.agg #[.string ⟨#[]⟩,zB]) w':=λw'=>zeroValue33 w';have ab:=λo:Obj=>i.kept (AL w o _ i.lt);cases b:As ls n with
 |none=>
  have d:=(hP.get n).1 b;have aa:∀o,(Instr.lookup 110 (.map (some r)) (.string n) true).run prog (w.alloc o)=.ok (.tuple #[.agg #[.string ⟨#[]⟩,zB],.bool false]) (w.alloc o):=λo=>by
   rw[E9 (P:=prog) underlying110 underlying9 (hz _) (ab o) n,d]; rfl
  have j:=Aa b;clear b d ab hP i h;go_enter func95,ntmps95;go_wp2_with fail;have f:=((Ac.new w #[.string ⟨#[]⟩,zB] 33).alloc (.cells #[.string ⟨#[]⟩,zB] 33)).cell 0;have g:=((Ac.new w #[.string ⟨#[]⟩,zB] 33).alloc (.cells #[.string ⟨#[]⟩,zB] 33)).cell 1;simp at f g;refine An (v:=.tuple #[.agg #[.string ⟨#[]⟩,zB],.bool false]) (by simp[results,results95,go_sem,f,g]) rfl ?_;exact⟨((Af _ _).alloc (Ai _) _).alloc (by simp) _,Ae ⟨by trivial,rfl⟩⟩
 |some t=>
  obtain⟨a,c,d,hs⟩:=(hP.get n).2 t b;have aa:∀o,(Instr.lookup 110 (.map (some r)) (.string n) true).run prog (w.alloc o)=.ok (.tuple #[.agg (zF t a c),.bool true]) (w.alloc o):=λo=>by
   rw[E9 (P:=prog) underlying110 underlying9 (hz _) (ab o) n,d]; rfl
  have j:=Aa b;have k:=Aa hs;clear b d hs ab hP i h;go_enter func95,ntmps95;go_wp2_with fail;have f:=((Ac.new w (zF t a c) 33).alloc (.cells (zF t a c) 33)).cell 0;have g:=((Ac.new w (zF t a c) 33).alloc (.cells (zF t a c) 33)).cell 1;simp at f g;refine An (v:=.tuple #[.agg (zF t a c),.bool true]) (by simp[results,results95,go_sem,f,g]) rfl ?_;exact⟨((Af _ _).alloc (Ai _) _).alloc (by simp) _,Ad ⟨t,a,c,rfl,rfl,k.o⟩⟩
theorem Ij {x:Int} (hx:0<=x) {n:Nat} (hn:0<n):∃k:Nat,x % (n:Int)=k/\k<n:=by
 have h1:=Int.emod_nonneg x (b:=(n:Int)) (by omega);have h2:=Int.emod_lt_of_pos x (b:=(n:Int)) (by omega);exact⟨(x % (n:Int)).toNat,by omega,by omega⟩
theorem FP (c:Int) (n:Nat) (hn:0<n) (ab:n<=2000000) (hc:-9223372036854775808<=c/\c<=9223372036854775807) (w:World):
  Calls prog 6 #[zA c,zA n] w λe w'=>∃k:Nat,e=.returned (zA k)/\k<n/\w'=w:=by
 go_enter func6,ntmps6;by_cases h:c<0
 ·go_wp2_with fail;go_ret;obtain⟨k,hk,aa⟩:=Ij (x:=-(c+1)) (by omega) hn;refine⟨k,?_,aa,rfl⟩;have h1:-(c+1).tmod (n:Int)=k:=by rw[<-Int.neg_tmod,Int.tmod_eq_emod_of_nonneg (by omega)]; exact hk
  simp[h1]
 ·go_wp2_with fail;go_ret;obtain⟨k,hk,aa⟩:=Ij (x:=c) (by omega) hn;exact⟨k,by simp[hk],aa,rfl⟩
def Hb (c:Int) (n:Nat):Nat:=if c<0 then (-(c+1) % (n:Int)).toNat else (c % (n:Int)).toNat
theorem VO (c:Int) (n:Nat) (hn:0<n):Hb c n<n:=by
 unfold Hb;split
 ·obtain⟨k,hk,aa⟩:=Ij (x:=-(c+1)) (by omega) hn;rw[hk]; simpa using aa
 ·obtain⟨k,hk,aa⟩:=Ij (x:=c) (by omega) hn;rw[hk]; simpa using aa
theorem OS (c:Int) (n:Nat) (hn:0<n) (ab:n<=2000000) (hc:-9223372036854775808<=c/\c<=9223372036854775807) (w:World):
  Calls prog 6 #[zA c,zA n] w λe w'=>e=.returned (zA (Hb c n:Int))/\w'=w:=by
 go_enter func6,ntmps6;by_cases h:c<0
 ·have a:Hid (((Hb c n:Nat):Int)=-(c+1).tmod (n:Int)):=by
   obtain⟨k,hk,aa⟩:=Ij (x:=-(c+1)) (by omega) hn;have h1:-(c+1).tmod (n:Int)=k:=by rw[<-Int.neg_tmod,Int.tmod_eq_emod_of_nonneg (by omega)]; exact hk
   unfold Hid Hb;rw[h1,Ar h,hk]; simp
  go_wp2_with fail;go_ret;exact⟨by simp[a.o],rfl⟩
 ·have a:Hid (((Hb c n:Nat):Int)=c % (n:Int)):=Aa (by obtain⟨k,hk,aa⟩:=Ij (x:=c) (by omega) hn;unfold Hb;rw[Aj h,hk];simp);go_wp2_with fail;go_ret;exact⟨by simp[a.o],rfl⟩
theorem KM (x:Int) (h:-9223372036854775808<=x/\x<=9223372036854775807):IntKind.i64.wrap x=x:=by
 rw[EZ]; omega
def Fh (z:Int):Prop:=-9223372036854775808<=z/\z<=9223372036854775807
theorem VP (f:List Int) (u:Value) (w:World) (X:Nat->Prop) (hu:PV w X u f) (g:∀z∈f,Fh z) (i:Nat) (hi:i<=1000000) (ae:f.length<=1000000):
  Calls prog 30 #[u,zA i] w λe w'=>∃k:Nat,e=.returned (zA k)/\k<=100000000000/\Below w.heap.size w w':=by
 obtain⟨a,c,rfl,hl,h⟩:=hu;by_cases h0:f.length=0
 ·go_enter func30,ntmps30;go_wp2_with fail;go_ret;exact⟨i*31,by simp,by omega,Af _ _⟩
 ·rcases h with h|⟨b,o,rfl,hX,hc⟩
  ·subst h; simp at h0
  ·have aa:0<f.length:=(by omega);obtain⟨m,hm,j⟩:=Ij (x:=(i:Int)) (by omega) aa;obtain⟨d,hd,af⟩:∃d:Nat,(i:Int) / (f.length:Int)=d/\d<=i:=⟨i / f.length,by simp,Nat.div_le_self _ _⟩;have ag:(i:Int).tmod (f.length:Int)=m:=by rw[Int.tmod_eq_emod_of_nonneg (by omega)]; exact hm
   have ah:(i:Int).tdiv (f.length:Int)=d:=by rw[Int.tdiv_eq_ediv_of_nonneg (by omega)]; exact hd
   have ab:=hc m j;have l:=g _ (AN j);generalize f[m]=z at *;have ai:(0:Int)<=(m:Int):=(by omega);have aj:(m:Int)<(f.length:Int):=(by omega);clear hc g;go_enter func30,ntmps30;go_wp2_with fail;go_region_held3 (λw'=>w'.cell? ⟨b,o+m,none⟩=some (zA z)) (first|exact ab|go_keep)
    ((go_at_call 6; refine(FP z 1000003 (by decide) (by decide) l _).mono ?_; rintro e w1 ⟨k,rfl,hk,rfl⟩))
   go_wp2_with fail;go_ret;refine⟨k+d*7919,by simp[KM (d:Int) (by omega),KM ((d:Int)*7919) (by omega),KM ((k:Int)+(d:Int)*7919) (by omega)],by omega,?_⟩;exact(Af _ _).drew
def Hc (s:ByteArray):Nat->Nat->Nat
 |0,i=>i
 |f+1,i=>if i<s.size/\Ek (CA s i)=true then Hc s f (i+1) else i
def CS (s:ByteArray) (i:Nat):Nat:=Hc s (s.size-i) i
theorem OT (s:ByteArray):∀f i,i<=Hc s f i
 |0,i=>Ai _
 |f+1,i=>by
  unfold Hc; split
  ·have:=OT s f (i+1); omega
  ·exact Ai _
theorem OU (s:ByteArray):∀f i,i<=s.size->Hc s f i<=s.size
 |0,i,h=>h
 |f+1,i,h=>by
  unfold Hc; split
  ·rename_i hc; exact OU s f (i+1) hc.1
  ·exact h
theorem VQ (s:ByteArray) (i:Nat):i<=CS s i:=OT s _ i
theorem VR (s:ByteArray) {i:Nat} (h:i<=s.size):CS s i<=s.size:=OU s _ i h
theorem VS {s:ByteArray} {i:Nat} (h:i<s.size) (a:Ek (CA s i)=true):CS s i=CS s (i+1):=by
 have e:s.size-i=(s.size-(i+1))+1:=by omega
 unfold CS;rw[e,Hc,Ar ⟨h,a⟩]
theorem OV {s:ByteArray} {i:Nat} (h:¬(i<s.size/\Ek (CA s i)=true)):CS s i=i:=by
 unfold CS;cases hf:s.size-i with
 |zero=>rfl
 |succ f=>rw[Hc,Aj h]
structure Rd where
 err:Int
 t:Tm
 pos:Nat
 k:Nat
def BP (e:Int):Rd:=⟨e,⟨⟨#[]⟩,[]⟩,0,0⟩
def rd (s:ByteArray):Nat->Option (ByteArray×List Tm)->Nat->Nat->Rd
 |0,_,_,_=>BP 99
 |f+1,none,i,k=>
  if CS s i=i then BP (if i=s.size then 13 else 12)
  else if AW (s.extract i (CS s i))=false then BP 1
  else if 200<k+1 then BP 3
  else if CS s i<s.size/\CA s (CS s i)=40 then
   if Al (s.extract i (CS s i))=true then BP 2 else rd s f (some (s.extract i (CS s i),[])) (CS s i) (k+1)
  else ⟨0,⟨s.extract i (CS s i),[]⟩,CS s i,k+1⟩
 |f+1,some (nm,acc),i,k=>
  if (rd s f none (i+1) k).err≠0 then BP (rd s f none (i+1) k).err
  else if (rd s f none (i+1) k).pos=s.size then BP 13
  else if CA s (rd s f none (i+1) k).pos=41 then ⟨0,⟨nm,acc++[(rd s f none (i+1) k).t]⟩,(rd s f none (i+1) k).pos+1,(rd s f none (i+1) k).k⟩
  else if CA s (rd s f none (i+1) k).pos=44 then rd s f (some (nm,acc++[(rd s f none (i+1) k).t])) (rd s f none (i+1) k).pos (rd s f none (i+1) k).k
  else BP 12
theorem OW (s:ByteArray):∀f m i k,(rd s f m i k).err=0->i<=s.size->(m.isSome=true->i<s.size)->i<(rd s f m i k).pos/\(rd s f m i k).pos<=s.size:=by
 intro f;induction f with
 |zero=>intro m i k h; simp[rd,BP] at h
 |succ f c=>
  intro m i k h hi hm;match m with
  |none=>
   have h1:=VQ s i;have h2:=VR s (i:=i) (by omega);unfold rd at h ⊢;split at h
   ·exfalso; revert h; simp only[BP]; split<;>omega
   ·rename_i d;rw[Aj d];split at h
    ·exfalso; revert h; simp[BP]
    ·rename_i h3;rw[Aj h3];split at h
     ·exfalso; revert h; simp[BP]
     ·rename_i b;rw[Aj b];split at h
      ·rename_i a;rw[Ar a];split at h
       ·exfalso; revert h; simp[BP]
       ·rename_i h6;rw[Aj h6];have:=c _ _ _ h (by omega) (λ_=>a.1);omega
      ·rename_i a;rw[Aj a];exact⟨by show i<CS s i; omega,h2⟩
  |some (nm,acc)=>
   unfold rd at h ⊢;split at h
   ·rename_i h1;exact absurd h h1
   ·rename_i h1;rw[Aj h1];simp only[ne_eq,Decidable.not_not] at h1;split at h
    ·exfalso; revert h; simp[BP]
    ·rename_i h2;rw[Aj h2];have aa:i<s.size:=hm rfl
     ·have h3:=c none (i+1) k h1 (by omega) (λh=>by cases h);split at h
      ·rename_i b;rw[Ar b];exact⟨by show i<(rd s f none (i+1) k).pos+1; omega,by show(rd s f none (i+1) k).pos+1<=s.size; omega⟩
      ·rename_i b;rw[Aj b];split at h
       ·rename_i a;rw[Ar a];have:=c _ _ _ h (by omega) (λ_=>by omega);omega
       ·exfalso; revert h; simp[BP]
def nR (post:List UInt8):Prop:=post=[]∨∃c r,post=c::r/\(c=41∨c=44)
def OX (x:List UInt8):Prop:=x=[]∨∃c r,x=c::r/\(c=41∨c=44∨c=61)
def VT (x:List UInt8):Prop:=x=[]∨∃c r,x=c::r/\Ek (c.toNat:Int)=false
theorem OX.ends {x:List UInt8} (h:OX x):VT x:=by
 rcases h with h|⟨c,r,e,h⟩
 ·exact Ad h
 ·refine Ae ⟨c,r,e,?_⟩;rcases h with rfl|rfl|rfl<;>decide
theorem VU {s:ByteArray} {l:List Tm} (h:Ah [(⟨s,l⟩:Tm)]=0):Ah l=0:=by
 simp only[Ah] at h;repeat' split at h
 all_goals first|(cases h; done)|assumption|simp_all
def Hd (w w':World) (b:Nat) (v v':Value):Prop:=
 w'.os=w.os/\w'.tape=w.tape/\w'.output=w.output/\w.heap.size<=w'.heap.size/\(∀k,k<w.heap.size->k≠b->some k≠v.ownBlock->w'.heap[k]? = w.heap[k]?)/\(∀k,v'.ownBlock=some k->v.ownBlock=some k∨w.heap.size<=k)
theorem Hd.refl (w:World) (b:Nat) (v:Value):Hd w w b v v:=⟨rfl,rfl,rfl,Ai _,λ_ _ _ _=>rfl,λ_ h=>Ad h⟩
theorem Hd.trans {w w1 w2:World} {b:Nat} {v v1 v2:Value} (h:Hd w w1 b v v1) (h1:Hd w1 w2 b v1 v2):Hd w w2 b v v2:=by
 obtain⟨a1,a2,a3,a4,a5,a⟩:=h;obtain⟨c1,c2,c3,c4,c5,c⟩:=h1;refine⟨c1.trans a1,c2.trans a2,c3.trans a3,AY a4 c4,λk hk hb hv=>?_,λk hk=>?_⟩
 ·refine(c5 k (Cn hk a4) hb (λe=>?_)).trans (a5 k hk hb hv);rcases a k e.symm with h|h
  ·exact hv h.symm
  ·omega
 ·rcases c k hk with h|h
  ·exact a k h
  ·exact Ae (AY a4 h)
theorem Hd.of_below {w w':World} (hb:Below w.heap.size w w') (b:Nat) (v:Value):Hd w w' b v v:=⟨hb.os,hb.tape,hb.output,hb.size,λk hk _ _=>hb.block k hk,λ_ h=>Ad h⟩
structure Lm where
 kind:Int
 idx:Int
 subs:List Lm
abbrev zE (t:Lm) (a:Option Addr) (c:Nat):Array Value:=#[zA t.kind,zA t.idx,.slice a t.subs.length c]
theorem Lm.ind {P:Lm->Prop} (h:∀k x l,(∀y∈l,P y)->P ⟨k,x,l⟩) (t:Lm):P t:=
 Lm.rec (motive_1:=P) (motive_2:=λl=>∀x∈l,P x) (λk x l b=>h k x l b) (λx hx=>by cases hx)
  (λa l c d x hx=>by
   rcases Bq.1 hx with e|e
   ·subst e; exact c
   ·exact d x e) t
theorem Lm.indL {P:List Lm->Prop} (h0:P []) (h:∀k x l r,P l->P r->P (⟨k,x,l⟩::r)) (l:List Lm):P l:=
 Lm.rec_1 (motive_1:=λt=>P t.subs) (motive_2:=P) (λ_ _ _ b=>b) h0 (λa l c d=>by obtain⟨k,x,m⟩:=a; exact h k x m l c d) l
def EA (w:World) (X:Nat->Prop):Nat->Nat->List Lm->Prop
 |_,_,[]=>True
 |b,o,⟨k,x,l⟩::r=>X b/\w.cell? (zD b o)=some (zA k)/\w.cell? ⟨b,o+1,none⟩=some (zA x)/\
   (∃a c,w.cell? ⟨b,o+2,none⟩=some (.slice a l.length c)/\l.length<=9223372036854775807/\(l=[]∨∃b' o',a=some (zD b' o')/\EA w X b' o' l))/\EA w X b (o+3) r
def C1 (w:World) (X:Nat->Prop) (a:Option Addr) (l:List Lm):Prop:=l.length<=9223372036854775807/\(l=[]∨∃b o,a=some (zD b o)/\EA w X b o l)
def MV (w:World) (X:Nat->Prop) (v:Value) (t:Lm):Prop:=∃a c,v=.agg (zE t a c)/\C1 w X a t.subs
theorem VV {w w':World} {X:Nat->Prop} (h:∀b,X b->w'.heap[b]? = w.heap[b]?) (l:List Lm):∀b o,EA w X b o l->EA w' X b o l:=by
 induction l using Lm.indL with
 |h0=>intro b o _; simp[EA]
 |h k x l r aa ab=>
  intro b o d;simp only[EA] at d ⊢;obtain⟨hx,h1,e,⟨a,c,h2,f,h3⟩,g⟩:=d;refine⟨hx,by rw[CV (h b hx)]; exact h1,by rw[CV (h b hx)]; exact e,⟨a,c,by rw[CV (h b hx)]; exact h2,f,?_⟩,ab _ _ g⟩;rcases h3 with h3|⟨b',o',h3,i⟩
  ·exact Ad h3
  ·exact Ae ⟨b',o',h3,aa _ _ i⟩
theorem VW {w:World} {X Y:Nat->Prop} (h:∀b,X b->b<w.heap.size->Y b) (l:List Lm):∀b o,EA w X b o l->EA w Y b o l:=by
 induction l using Lm.indL with
 |h0=>intro b o _; simp[EA]
 |h k x l r aa ab=>
  intro b o d;simp only[EA] at d ⊢;obtain⟨hx,h1,f,⟨a,c,h2,g,h3⟩,i⟩:=d;have hb:b<w.heap.size:=by
   apply Hw;intro hn;have e:w.heap[b]? = none:=Jv (by omega);simp[World.cell?,e]at h1
  refine⟨h b hx hb,h1,f,⟨a,c,h2,g,?_⟩,ab _ _ i⟩;rcases h3 with h3|⟨b',o',h3,j⟩
  ·exact Ad h3
  ·exact Ae ⟨b',o',h3,aa _ _ j⟩
theorem C1.kept {w w':World} {X:Nat->Prop} {a:Option Addr} {l:List Lm} (h:C1 w X a l) (hk:∀b,X b->w'.heap[b]? = w.heap[b]?):C1 w' X a l:=by
 obtain⟨c,h⟩:=h;refine⟨c,?_⟩;rcases h with h|⟨b,o,e,h⟩
 ·exact Ad h
 ·exact Ae ⟨b,o,e,VV hk _ _ _ h⟩
theorem C1.mono {w:World} {X Y:Nat->Prop} {a:Option Addr} {l:List Lm} (h:C1 w X a l) (hk:∀b,X b->b<w.heap.size->Y b):C1 w Y a l:=by
 obtain⟨c,h⟩:=h;refine⟨c,?_⟩;rcases h with h|⟨b,o,e,h⟩
 ·exact Ad h
 ·exact Ae ⟨b,o,e,VW hk _ _ _ h⟩
theorem C1.below {w w':World} {X:Nat->Prop} {a:Option Addr} {l:List Lm} {B:Nat} (h:C1 w X a l) (hb:Below B w w') (c:∀b,X b->b<w.heap.size->b<B):C1 w' X a l:=by
 have h1:C1 w (λb=>X b/\b<B) a l:=h.mono λb hx hs=>⟨hx,c b hx hs⟩;have h2:C1 w' (λb=>X b/\b<B) a l:=h1.kept λb hx=>hb.block b hx.2;exact h2.mono λb hx _=>hx.1
theorem MV.kept {w w':World} {X:Nat->Prop} {v:Value} {t:Lm} (h:MV w X v t) (hk:∀b,X b->w'.heap[b]? = w.heap[b]?):MV w' X v t:=by
 obtain⟨a,c,e,h⟩:=h;exact⟨a,c,e,h.kept hk⟩
theorem MV.mono {w:World} {X Y:Nat->Prop} {v:Value} {t:Lm} (h:MV w X v t) (hk:∀b,X b->b<w.heap.size->Y b):MV w Y v t:=by
 obtain⟨a,c,e,h⟩:=h;exact⟨a,c,e,h.mono hk⟩
theorem MV.below {w w':World} {X:Nat->Prop} {v:Value} {t:Lm} {B:Nat} (h:MV w X v t) (hb:Below B w w') (d:∀b,X b->b<w.heap.size->b<B):MV w' X v t:=by
 obtain⟨a,c,e,h⟩:=h;exact⟨a,c,e,h.below hb d⟩
theorem MV.alloc {w:World} {X:Nat->Prop} {v:Value} {t:Lm} (h:MV w X v t) (o:Obj):MV (w.alloc o) X v t:=
 h.below ((Af _ _).alloc (Ai _) o) (λ_ _ h=>h)
theorem MV.later {w w':World} {X:Nat->Prop} {v:Value} {t:Lm} (h:MV w X v t) (hb:Below w.heap.size w w'):MV w' X v t:=h.below hb (λ_ _ h=>h)
theorem C1.later {w w':World} {X:Nat->Prop} {a:Option Addr} {l:List Lm} (h:C1 w X a l) (hb:Below w.heap.size w w'):C1 w' X a l:=h.below hb (λ_ _ h=>h)
theorem VX {w:World} {X:Nat->Prop}:∀(l:List Lm) (b o:Nat),EA w X b o l->∀i (h:i<l.length),
  X b/\w.cell? ⟨b,o+i*3,none⟩=some (zA l[i].kind)/\w.cell? ⟨b,o+i*3+1,none⟩=some (zA l[i].idx)/\∃a c,w.cell? ⟨b,o+i*3+2,none⟩=some (.slice a l[i].subs.length c)/\C1 w X a l[i].subs:=by
 intro l;induction l with
 |nil=>intro b o _ i h; simp at h
 |cons t r e=>
  intro b o d i h;obtain⟨s,x,k⟩:=t;simp only[EA] at d;obtain⟨hx,h1,aa,⟨a,c,h2,h3⟩,f⟩:=d;cases i with
  |zero=>exact⟨hx,h1,aa,a,c,h2,h3⟩
  |succ i=>have:=e b (o+3) f i (by simpa using h);simp only[Gw];rw[show o+(i+1)*3=o+3+i*3 by omega];exact this
theorem C1.get {w wr:World} {X:Nat->Prop} {a:Option Addr} {l:List Lm} {B:Nat} (h:C1 w X a l) (hb:Below B w wr) (d:∀b,X b->b<w.heap.size->b<B) (k:Nat) (hk:k<l.length):
  ∃b o c c',a=some (zD b o)/\wr.cell? ⟨b,o+k*3,none⟩=some (zA l[k].kind)/\wr.cell? ⟨b,o+k*3+1,none⟩=some (zA l[k].idx)/\wr.cell? ⟨b,o+k*3+2,none⟩=some (.slice c l[k].subs.length c')/\MV wr X (.agg (zE l[k] c c')) l[k]:=by
 have h':=h.below hb d;obtain⟨_,h1⟩:=h';rcases h1 with h1|⟨b,o,e,h1⟩
 ·subst h1; simp at hk
 ·obtain⟨_,h2,aa,c,c',h3,f⟩:=VX _ _ _ h1 k hk;exact⟨b,o,c,c',e,h2,aa,h3,c,c',rfl,f⟩
theorem IV (n:Nat):(Lib.decDigits n).length<=n+1:=by
 induction n using Nat.strongRecOn with
 |ind n a=>
  rw[Lib.decDigits];by_cases h:n<10
  ·rw[D7 h]; simp
  ·rw[dif_neg h];have:=a (n / 10) (by omega);simp only[Dx,Bu,E4];omega
theorem OY {n:Nat} (h:n<10):Lib.decDigits n=[UInt8.ofNat (48+n)]:=by rw[Lib.decDigits,D7 h]
theorem VY {n:Nat} (h:¬n<10):Lib.decDigits n=Lib.decDigits (n / 10)++Lib.decDigits (n % 10):=by
 conv=>lhs; rw[Lib.decDigits,dif_neg h]
 rw[OY (n:=n % 10) (by omega)]
theorem OZ {a b:ByteArray} (h:a.data.toList=b.data.toList):Ending.returned (.string a)=.returned (.string b):=by
 have:a=b:=by
  obtain⟨⟨x⟩⟩:=a; obtain⟨⟨y⟩⟩:=b; simp at h; rw[h]
 rw[this]
theorem O0 (n:Nat):n<=1000000->∀(w:World),Calls prog 52 #[zA n] w λe w'=>e=.returned (.string ⟨(Lib.decDigits n).toArray⟩)/\Below w.heap.size w w':=by
 induction n using Nat.strongRecOn with
 |ind n b=>
  intro hn w;by_cases h:n<10
  ·have a:=Aa (OY h);generalize Lib.decDigits n=D at a ⊢;have h':(n:Int)<10:=(by omega);have aa:48+(n:Int)=((UInt8.ofNat (48+n)).toNat:Int):=by
    have:(UInt8.ofNat (48+n)).toNat=48+n:=by simp; omega
    rw[this]; omega
   have af:(convert 118 9 (.slice (some (zD w.heap.size 0)) 1 1)).run prog (w.alloc (.cells #[.int .u8 (48+(n:Int))] 5))=.ok (.string ⟨([UInt8.ofNat (48+n)]).toArray⟩) (w.alloc (.cells #[.int .u8 (48+(n:Int))] 5)):=
    run_convert_bytes_back _ 118 9 5 (zD w.heap.size 0) 1 [UInt8.ofNat (48+n)] underlying118 underlying5 underlying9 (λj hj=>by
     have g:j=0:=by simp at hj; exact hj
     subst g;have:=(Ac.new w #[.int .u8 (48+(n:Int))] 5).cell 0;rw[aa]at this;rw[aa];exact this)
   clear aa;go_enter func52,ntmps52;go_wp2_with fail;go_ret;exact⟨OZ (by rw[a.o]; simp[UInt8.ofNat_add]),(Af _ _).alloc (Ai _) _⟩
  ·have c:=Aa b;have a:=Aa (VY h);clear b;have h':¬(n:Int)<10:=(by omega);have d:(n:Int) / 10=((n / 10:Nat):Int):=(by omega);have f:(n:Int) % 10=((n % 10:Nat):Int):=(by omega);have i:=Aa d;have k:=Aa f;clear d f;generalize Lib.decDigits n=D at a ⊢;go_enter func52,ntmps52;go_wp2_with fail;rw[i.o];refine(c.o (n / 10) (by omega) (by omega) _).mono ?_;rintro e w1 ⟨rfl,ab⟩;go_wp2_with fail;rw[k.o];refine(c.o (n % 10) (by omega) (by omega) _).mono ?_;rintro e w2 ⟨rfl,hb2⟩;have l:Hid (Below w.heap.size w w2):=ab.trans (hb2.mono ab.size);clear ab hb2;have l1:(Lib.decDigits (n / 10)).length<=1000001:=by have:=IV (n / 10); omega
   have l2:(Lib.decDigits (n % 10)).length<=1000001:=by have:=IV (n % 10); omega
   go_wp2_with fail;go_ret;exact⟨OZ (by rw[a.o]; simp),l.o⟩
def Ed (w:World) (X:Nat->Prop):List Lm->List Value->Prop
 | [],xs=>xs=[]
 |t::l,xs=>∃a c r,xs=zA t.kind::zA t.idx::.slice a t.subs.length c::r/\C1 w X a t.subs/\Ed w X l r
theorem Ed.len {w:World} {X:Nat->Prop}:∀ {l:List Lm} {xs:List Value},Ed w X l xs->xs.length=l.length*3
 | [],xs,h=>by simp[Ed] at h; simp[h]
 |t::l,xs,h=>by
  obtain⟨a,c,r,rfl,_,h⟩:=h;simp only[Bu];rw[Ed.len h]; omega
theorem Ed.append {w:World} {X:Nat->Prop}:∀ {l k:List Lm} {xs b:List Value},Ed w X l xs->Ed w X k b->Ed w X (l++k) (xs++b)
 | [],k,xs,b,h,h'=>by simp[Ed] at h; subst h; simpa using h'
 |t::l,k,xs,b,h,h'=>by
  obtain⟨a,c,r,rfl,hs,h⟩:=h;exact⟨a,c,r++b,rfl,hs,Ed.append h h'⟩
theorem Ed.imp {w w':World} {X Y:Nat->Prop} (hs:∀a l,C1 w X a l->C1 w' Y a l):∀ {l:List Lm} {xs:List Value},Ed w X l xs->Ed w' Y l xs
 | [],xs,h=>h
 |t::l,xs,h=>by
  obtain⟨a,c,r,e,h1,h⟩:=h;exact⟨a,c,r,e,hs _ _ h1,Ed.imp hs h⟩
theorem VZ {w w':World} {X Y:Nat->Prop} (b:Nat) (hb:Y b):∀(l:List Lm) (xs:List Value) (o:Nat),Ed w X l xs->(∀a k,C1 w X a k->C1 w' Y a k)->(∀j u,xs[j]? = some u->w'.cell? ⟨b,o+j,none⟩=some u)->EA w' Y b o l:=by
 intro l;induction l with
 |nil=>intro xs o _ _ _; simp[EA]
 |cons t r d=>intro xs o h hs hc;obtain⟨s,x,k⟩:=t;obtain⟨a,c,e,rfl,h1,h2⟩:=h;simp only[EA];obtain⟨h3,f⟩:=hs _ _ h1;refine⟨hb,hc 0 _ rfl,hc 1 _ rfl,⟨a,c,hc 2 _ rfl,h3,f⟩,d e (o+3) h2 hs λj u hj=>?_⟩;have:=hc (j+3) u (by simpa using hj);rwa [show o+(j+3)=o+3+j by omega] at this
structure EP (w:World) (N:Nat) (T:Nat) (Y:Nat->Prop) (v:Value) (l:List Lm) (xs:List Value):Prop where
 own:w.ownsRow N T 3 v l.length xs
 row:Ed w (λb=>Y b∨(N<=b/\some b≠v.ownBlock)) l xs
theorem EP.start (w:World) (N T:Nat) (Y:Nat->Prop):EP w N T Y zB [] []:=⟨Gy w N T 3,rfl⟩
theorem EP.below {w w':World} {N T:Nat} {Y:Nat->Prop} {v:Value} {l:List Lm} {xs:List Value} (h:EP w N T Y v l xs) (hb:Below w.heap.size w w'):EP w' N T Y v l xs:=
 ⟨h.own.kept (w' := w') (row := none) ⟨hb.os, hb.tape, hb.output, hb.size, λj hj _ => hb.block j hj⟩ (by rcases Gx (Value.ownBlock v) with h | ⟨x, h⟩; exact Ad h; exact Ae (by rw [h]; simp)),
  h.row.imp λa l h=>h.later hb⟩
theorem EP.ne {w:World} {N T:Nat} {Y:Nat->Prop} {v:Value} {l:List Lm} {xs:List Value} (h:EP w N T Y v l xs) {b:Nat} (hb:b<N):some b≠v.ownBlock:=λe=>by
 have:=(h.own.lt b e.symm).1; omega
theorem EP.push {w w1 w2 w3:World} {N T:Nat} {Y:Nat->Prop} {v:Value} {l:List Lm} {xs:List Value} (h:EP w N T Y v l xs) (hN:N<=w.heap.size) (i:∀b,Y b->b<N) (hb:Below w.heap.size w w1) {s s2:Int} {a:Option Addr} {n c:Nat} {t:Lm}
  (ht:MV w1 (λb=>Y b∨w.heap.size<=b) (.agg #[zA s,zA s2,.slice a n c]) t) (o:Obj) (q:w2=w1.alloc o) {g cap:Nat}
  (aa:w3.ownsRow N T 3 (.slice (some (zD g 0)) (l.length+1) cap) (l.length+1) (xs++[zA s,zA s2,.slice a n c])) (j:w2.grownBy w3 v.ownBlock) (ab:v.ownBlock=some g∨g=w2.heap.size):
  EP w3 N T Y (.slice (some (zD g 0)) (l.length+1) cap) (l++[t]) (xs++[zA s,zA s2,.slice a n c]):=by
 subst q;have d:=h.own.lt;refine⟨by simpa using aa,?_⟩;have ae:w1.heap.size<=(w1.alloc o).heap.size:=by simp
 have af:=hb.size;have ag:N<=g:=by
  rcases ab with e|e
  ·exact(d g e).1
  ·simp at e; omega
 refine Ed.append (h.row.imp λk m hs=>?_) ?_
 ·have h1:C1 w (λb=>(Y b∨(N<=b/\some b≠v.ownBlock))/\b<w.heap.size) k m:=hs.mono λb h1 h2=>⟨h1,h2⟩;have h2:C1 w3 (λb=>(Y b∨(N<=b/\some b≠v.ownBlock))/\b<w.heap.size) k m:=h1.kept λb hx=>by
   have f:some b≠v.ownBlock:=by
    rcases hx.1 with hy|hy
    ·exact h.ne (i b hy)
    ·exact hy.2
   rw[j.block b (by simp; omega) f,AL _ _ _ (by omega),hb.block b hx.2]
  refine h2.mono λb hx _=>?_;rcases hx.1 with hy|hy
  ·exact Ad hy
  ·refine Ae ⟨hy.1,λe=>?_⟩;simp[Value.ownBlock]at e;rcases ab with e'|e'
   ·exact hy.2 (by rw[e',e])
   ·simp at e'; omega
 ·obtain⟨a2,c2,e,hs⟩:=ht;simp at e;obtain⟨rfl,rfl,rfl,rfl,rfl⟩:=e;refine⟨a,c,[],rfl,?_,rfl⟩;have h1:C1 w1 (λb=>(Y b∨w.heap.size<=b)/\b<w1.heap.size) a t.subs:=hs.mono λb h1 h2=>⟨h1,h2⟩;have h2:C1 w3 (λb=>(Y b∨w.heap.size<=b)/\b<w1.heap.size) a t.subs:=h1.kept λb hx=>by
   have f:some b≠v.ownBlock:=by
    rcases hx.1 with hy|hy
    ·exact h.ne (i b hy)
    ·intro e; have:=(d b e.symm).2; omega
   rw[j.block b (by simp; omega) f,AL _ _ _ hx.2]
  refine h2.mono λb hx _=>?_;rcases hx.1 with hy|hy
  ·exact Ad hy
  ·refine Ae ⟨by omega,λe=>?_⟩;simp[Value.ownBlock]at e;rcases ab with e'|e'
   ·have:=(d g e').2; omega
   ·simp at e'; omega
theorem EP.setCell {w:World} {N T:Nat} {Y:Nat->Prop} {v:Value} {l:List Lm} {xs:List Value} (h:EP w N T Y v l xs) {b i:Nat} (hb:b<N) (d:¬Y b) (u:Value):EP (w.setCell (zD b i) u) N T Y v l xs:=
 ⟨ownsRow_setCell_below h.own (by simpa using hb) u, h.row.imp λa k hs => hs.kept λc hc => Aq _ _ _ _ (by
  simp;rcases hc with hc|hc
  ·intro e; subst e; exact d hc
  ·omega)⟩
theorem EP.sl {w:World} {N T:Nat} {Y:Nat->Prop} {v:Value} {l:List Lm} {xs:List Value} (h:EP w N T Y v l xs):∃a c,v=.slice a l.length c/\C1 w (λb=>Y b∨N<=b) a l:=by
 have aa:l.length<=9223372036854775807:=by
  rcases h.own.2 with ⟨_,h0⟩|⟨g,cap,cur,_,_,_,h1,h2,_⟩
  ·omega
  ·unfold maxLen at h2; omega
 by_cases h0:0<l.length
 ·obtain⟨g,cap,rfl,d,hlt,hc⟩:=EN h.own h0;exact⟨_,_,rfl,aa,Ae ⟨g,0,rfl,VZ g (Ae d) l xs 0 h.row (λa k hs=>hs.mono λb hb _=>hb.imp id (λh=>h.1)) (λj u hj=>by simpa using hc j u hj)⟩⟩
 ·have e:l=[]:=EK.1 (by omega);subst e;rcases h.own.2 with ⟨hv,_⟩|⟨g,cap,cur,hv,_⟩
  ·exact⟨none,0,hv,aa,Ad rfl⟩
  ·exact⟨_,_,hv,aa,Ad rfl⟩
def Fs:List Lm->Prop
 | []=>True
 | ⟨_,x,l⟩::r=>(0<=x/\x<=100000)/\Fs l/\Fs r
theorem V3:Fs []:=by simp[Fs]
theorem Mx (k x:Int) (l r:List Lm):Fs (⟨k,x,l⟩::r)↔(0<=x/\x<=100000)/\Fs l/\Fs r:=by simp[Fs]
theorem Fs.at:∀ {l:List Lm} (k:Nat) (h:k<l.length),Fs l->Fs [l[k]]
 | [],k,h,_=>by simp at h
 | ⟨s,x,l⟩::r,0,h,hb=>by
  rw[Mx]at hb;exact(Mx s x l []).2 ⟨hb.1,hb.2.1,V3⟩
 | ⟨s,x,l⟩::r,k+1,h,hb=>by
  rw[Mx]at hb;have:=Fs.at (l:=r) k (by simpa using h) hb.2.2;simpa using this
theorem Gh {P:Program} {ops:Array Oper} {o:Oper} {a:Act} {K:Act->World->Prop} {Q:Exit->Act->World->Prop} {E:Prop} {w w':World} {v u b:Value} (aa:o.guard=none) (s x:Operand) (t c:TypeId)
  (ho:o.op=.call { callee:=.builtin .append,args:=#[s,x],argTypes:=#[t,c]}) (hs:a.eval s=v) (hx:a.eval x=u)
  (d:(Builtin.append_ #[t,c] o.type #[v,u]).run P w=.ok b w') (h:K (a.put o.dst b) w'):if Region.wanted o (yielded ops a.tmps)=true then Oper.wp P o a w K Q else E:=by
 have hw:Region.wanted o (yielded ops a.tmps)=true:=by simp[Region.wanted,aa]
 rw[Ar hw];unfold Oper.wp execOp;simp only[ho,resolve,invoke,builtin,Sem.run_bind,Sem.run_pure,Result.andThen_ok,List.map_toArray,Cb,Hy,hs,hx,d];exact h
def Tb (B : Nat) (w : World) : Prop := Lib.TabBelow prog B w "internal/strconv.uint64pow10" .u64 Lib.pow10Tab
theorem Tb.on {B:Nat} {w w1:World} (h:Tb B w) (hb:Below B w w1):Tb B w1:=Lib.TabBelow.on h hb
theorem My (n B:Nat) (hn:n<=1000000) (w:World) (a:Tb B w):Calls prog 66 #[zA n] w λe w'=>e=.returned (.string ⟨(Lib.decDigits n).toArray⟩)/\Below w.heap.size w w':=by
 refine(Tryz.strconv_Itoa n (by omega) (by omega) w a.here).mono ?_;rintro e w' ⟨rfl,k,os,rfl⟩;refine⟨?_,Lib.below_grow _ _ (Ai _) _ _⟩;have:Lib.itoa (n:Int)=Lib.decDigits n:=by simp[Lib.itoa]
 rw[this]
def GM:List (ByteArray×Value)->ByteArray->Value->List (ByteArray×Value)
 | [],_,_=>[]
 |p::r,n,v=>if p.1=n then (p.1,v)::r else p::GM r n v
theorem O4 (n:ByteArray) (x:Value):∀(l:List MapEntry) (L:List (ByteArray×Value)) (i:Nat) (v:Value),l.map (λe=>(e.key,e.val))=L.map (λp=>(Value.string p.1,p.2))->Be L n=some v->
  ∃j e,Instr.findNow .string (.string n) l i=some (some (i+j,v))/\l[j]? = some e/\e.key=.string n/\(l.modify j λe=>{ e with key:=.string n,val:=x}).map (λe=>(e.key,e.val))=(GM L n x).map (λp=>(Value.string p.1,p.2))
 | [],[],i,v,h,hv=>by simp[Be] at hv
 | [],p::L,i,v,h,hv=>by simp at h
 |e::l,[],i,v,h,hv=>by simp at h
 |e::l,p::L,i,v,h,hv=>by
  simp only[Cb,GC,Prod.mk.injEq] at h;obtain⟨⟨hk,he⟩,ht⟩:=h;by_cases hn:p.1=n
  ·have hs:Instr.sameNow .string (.string n) e.key=some true:=(by rw[hk,hn];show some (n==n)=some true;rw[show(n==n)=true from (Kk _ _).2 rfl]);simp only[Be,hn,if_true,H7] at hv;refine⟨0,e,by simp[Instr.findNow,hs,he,hv],rfl,by rw[hk,hn],?_⟩;simp[GM,hn,ht]
  ·have hs:Instr.sameNow .string (.string n) e.key=some false:=by
    rw[hk];show some (n==p.1)=some false;have hb:(n==p.1)=false:=by
     cases a:(n==p.1) with
     |false=>rfl
     |true=>exact absurd ((Kk _ _).1 a).symm hn
    rw[hb]
   rw[Be,Aj hn]at hv;obtain⟨j,e',h1,h2,h3,b⟩:=O4 n x l L (i+1) v ht hv;refine⟨j+1,e',by simp[Instr.findNow,hs,h1]; omega,by simpa using h2,h3,?_⟩;rw[GM,Aj hn];simp[List.modify_succ_cons,b,hk,he]
theorem V4 {P:Program} {w:World} {T a c:TypeId} {r:Nat} {L:List (ByteArray×Value)} {z:Value} (hm:P.underlying T=some (.map a c)) (hk:P.underlying a=some .string) (hz:(zeroValue c).run P w=.ok z w) (h:Bm w r L) (n:ByteArray):
  (Instr.lookup T (.map (some r)) (.string n) false).run P w=.ok ((Be L n).getD z) w:=by
 obtain⟨es,ab,hb,he,aa⟩:=h;obtain⟨h1,h2⟩:=KL n es.toList L 0 he;have hc:∀b,(Instr.checkKey b 10000 a (.string n)).run P w=.ok () w:=λb=>Kl (k:=.string n) hk (by simp[MapKept.IsKey]) b 9999;cases d:Be L n with
 |none=>simp[Instr.lookup,Ga hm,H8 hb,hc,IA hk (h1 d),Result.andThen,hz]
 |some v=>obtain⟨j,hj⟩:=h2 v d;simp[Instr.lookup,Ga hm,H8 hb,hc,IA hk hj,Result.andThen]
theorem V5 {P:Program} {w:World} {T a c:TypeId} {r:Nat} {L:List (ByteArray×Value)} (hm:P.underlying T=some (.map a c)) (hk:P.underlying a=some .string) (h:Bm w r L) (n:ByteArray) (v ab:Value) (hn:Be L n=some ab):
  ∃w',(Instr.mapUpdate T (.map (some r)) (.string n) v).run P w=.ok () w'/\Bm w' r (GM L n v)/\w'.heap.size=w.heap.size/\w'.os=w.os/\w'.tape=w.tape/\w'.output=w.output/\(∀b,b≠r->w'.heap[b]? = w.heap[b]?):=by
 obtain⟨es,f,hb,he,aa⟩:=h;obtain⟨j,g,h1,h2,h3,i⟩:=O4 n v es.toList L 0 ab he hn;have hc:(Instr.checkKey false 10000 a (.string n)).run P w=.ok () w:=Kl (k:=.string n) hk (by simp[MapKept.IsKey]) false 9999;have hj:es[j]? = some g:=by simpa using h2
 rw[EL]at h1;have l:(Instr.keyThatStays (.string n) (.string n)).run P w=.ok (.string n) w:=MapKept.run_keyThatStays (d:=.string) (by simp[MapKept.IsKey]);refine⟨{ w with heap:=w.heap.setIfInBounds r (.map (es.modify j λe=>{ e with key:=.string n,val:=v}) f)},?_,⟨_,_,(IB hb).1,by rw[Array.toList_modify]; exact i,aa.modify _ _ _⟩,by simp,rfl,rfl,rfl,λb m=>(IB hb).2 b m⟩;simp[Instr.mapUpdate,Ga hm,H8 hb,hc,IA hk h1,hj,h3,l,MapKept.run_setObj_map _ hb,Result.andThen]
structure Am (Q:Nat->Prop) (w w':World):Prop where
 os:w'.os=w.os
 tape:w'.tape=w.tape
 output:w'.output=w.output
 size:w.heap.size<=w'.heap.size
 block:∀k,k<w.heap.size->¬Q k->w'.heap[k]? = w.heap[k]?
theorem Am.refl (Q:Nat->Prop) (w:World):Am Q w w:=⟨rfl,rfl,rfl,Ai _,λ_ _ _=>rfl⟩
theorem Am.trans {Q:Nat->Prop} {a b c:World} (h:Am Q a b) (k:Am Q b c):Am Q a c:=
 ⟨k.os.trans h.os,k.tape.trans h.tape,k.output.trans h.output,AY h.size k.size,λi hi hn=>(k.block i (Cn hi h.size) hn).trans (h.block i hi hn)⟩
theorem Am.transN {Q R:Nat->Prop} {a b c:World} (h:Am Q a b) (k:Am R b c) (d:∀i,R i->i<a.heap.size->Q i):Am Q a c:=
 ⟨k.os.trans h.os,k.tape.trans h.tape,k.output.trans h.output,AY h.size k.size,λi hi hn=>(k.block i (Cn hi h.size) (λe=>hn (d i e hi))).trans (h.block i hi hn)⟩
theorem Am.mono {Q R:Nat->Prop} {a b:World} (h:Am Q a b) (c:∀i,Q i->i<a.heap.size->R i):Am R a b:=⟨h.os,h.tape,h.output,h.size,λi hi hn=>h.block i hi (λhq=>hn (c i hq hi))⟩
theorem Am.drewN {Q:Nat->Prop} {a w:World} (h:Am Q a w) (n:Nat):Am Q a (w.drewN n):=⟨h.os,h.tape,h.output,h.size,h.block⟩
theorem Am.drew {Q:Nat->Prop} {a w:World} (h:Am Q a w):Am Q a w.drew:=⟨h.os,h.tape,h.output,h.size,h.block⟩
theorem Am.set {Q:Nat->Prop} {a w:World} (h:Am Q a w) {B:Nat} (b:Q B) (i:Nat) (v:Value):Am Q a (w.setCell (zD B i) v):=
 ⟨h.os,h.tape,h.output,by simpa [World.setCell] using h.size,λk hk hn=>(Aq _ _ _ _ (by simp; intro e; subst e; exact hn b)).trans (h.block k hk hn)⟩
theorem Am.alloc {Q:Nat->Prop} {a w:World} (h:Am Q a w) (o:Obj):Am Q a (w.alloc o):=
 ⟨h.os,h.tape,h.output,by have:=h.size; simp; omega,λk hk hn=>(AL _ _ _ (Cn hk h.size)).trans (h.block k hk hn)⟩
theorem Am.grown {Q:Nat->Prop} {a w w':World} {row:Option Nat} (h:Am Q a w) (b:w.grownBy w' row) (c:∀k,row=some k->a.heap.size<=k∨Q k):Am Q a w':=
 ⟨b.os.trans h.os,b.tape.trans h.tape,b.output.trans h.output,AY h.size b.size,λk hk hn=>(b.block k (Cn hk h.size) (λe=>by rcases c k e.symm with h1|h1; omega; exact hn h1)).trans (h.block k hk hn)⟩
theorem Am.setNew {Q:Nat->Prop} {a w:World} (h:Am Q a w) {b:Nat} (hb:a.heap.size<=b) (i:Nat) (v:Value):Am Q a (w.setCell (zD b i) v):=
 ⟨h.os,h.tape,h.output,by simpa [World.setCell] using h.size,λk hk hn=>(Aq _ _ _ _ (by simp; omega)).trans (h.block k hk hn)⟩
theorem Am.ofBelow {Q:Nat->Prop} {w w':World} (h:Below w.heap.size w w'):Am Q w w':=⟨h.os,h.tape,h.output,h.size,λk hk _=>h.block k hk⟩
theorem Am.ofEx {Q:Nat->Prop} {B:Nat} {w w':World} (h:Ex B w w') (a:Q B):Am Q w w':=⟨h.os,h.tape,h.output,h.size,λk hk hn=>h.block k hk (λe=>hn (by rw[e]; exact a))⟩
theorem Am.below {Q:Nat->Prop} {w w':World} {B:Nat} (h:Am Q w w') (hB:B<=w.heap.size) (a:∀b,Q b->B<=b):Below B w w':=
 ⟨h.os,h.tape,h.output,h.size,λk hk=>h.block k (by omega) (λhq=>by have:=a k hq; omega)⟩
theorem Ac.exq {w w':World} {Q:Nat->Prop} {b T:Nat} {cs:Array Value} (h:Ac w b cs T) (he:Am Q w w') (a:¬Q b):Ac w' b cs T:=by
 unfold Ac at *;rw[he.block b (Ac.lt h) a]; exact h
theorem Sl.exq {w w':World} {Q X:Nat->Prop} {a:Option Addr} {l:List Tm} (h:Sl w X a l) (he:Am Q w w') (c:∀b,X b->¬Q b):Sl w' X a l:=
 ((h.mono (Y:=λb=>X b/\b<w.heap.size) λb h1 h2=>⟨h1,h2⟩).kept λb hb=>he.block b hb.2 (c b hb.1)).mono λb hb _=>hb.1
theorem Am.mid {Q:Nat->Prop} {w w1:World} (h:Am Q w w1):∃a,Below a.heap.size a w1/\a.heap.size=w.heap.size/\Am Q w a:=by
 have hs:=h.size;have hz:(w1.heap.extract 0 w.heap.size).size=w.heap.size:=by simp; omega
 refine⟨{ w1 with heap:=w1.heap.extract 0 w.heap.size},⟨rfl,rfl,rfl,by simp; omega,λk hk=>?_⟩,hz,⟨h.os,h.tape,h.output,by simp[hz],λk hk hn=>?_⟩⟩
 ·have aa:k<w.heap.size:=by simp at hk; omega
  simp[Array.getElem?_extract,aa];omega
 ·rw[<-h.block k hk hn];simp[Array.getElem?_extract,hk];omega
theorem DP {w w':World} {base e size n:Nat} {v:Value} {xs:List Value} (h:w.ownsRow base e size v n xs) (hk:∀g,v.ownBlock=some g->w'.heap[g]? = w.heap[g]?):w'.ownsRow base e size v n xs:=by
 obtain⟨a,h1⟩:=h;refine⟨a,?_⟩;rcases h1 with h1|⟨g,cap,cur,hv,b,c,d⟩
 ·exact Ad h1
 ·refine Ae ⟨g,cap,cur,hv,b,?_,d⟩;rw[hk g (by rw[hv]; rfl)];exact c
theorem AK.exq {w w':World} {Q:Nat->Prop} {N T:Nat} {Y:Nat->Prop} {v:Value} {l:List Tm} {xs:List Value} (h:AK w N T Y v l xs) (he:Am Q w w') (c:∀b,Q b->b<N) (e:∀b,Q b->¬Y b):AK w' N T Y v l xs:=
 ⟨DP h.own λg d => he.block g (h.own.lt g d).2 (λhq => by have := c g hq; have := (h.own.lt g d).1; omega),
  h.row.imp λa l hs=>hs.exq he λb hb hq=>by
   rcases hb with h1|h1
   ·exact e b hq h1
   ·have:=c b hq; omega⟩
theorem Bj.exq {w w':World} {Q:Nat->Prop} {N:Nat} {Y:Nat->Prop} {v:Value} {cs:List Bc} (h:Bj w N Y v cs) (he:Am Q w w') (a:∀b,Q b->b<N) (d:∀b,Q b->¬Y b):Bj w' N Y v cs:=
 ⟨DP h.own λg c => he.block g (h.own.lt g c).2 (λhq => by have := a g hq; have := (h.own.lt g c).1; omega),
  λx hx=>(h.row x hx).exq he λb hb hq=>by
   rcases hb with h1|h1
   ·exact d b hq h1
   ·have:=a b hq; omega⟩
def Cc (k:Nat):ByteArray:=⟨(90::Lib.decDigits k).toArray⟩
def Fa:Nat->List ByteArray->List (ByteArray×Value)
 |_,[]=>[]
 |k,n::r=>(n,zA ((k+1:Nat):Int))::Fa (k+1) r
def AB (s:ByteArray):List ByteArray->Nat
 | []=>0
 |n::r=>if n=s then 0 else AB s r+1
def Cf (ns:List ByteArray) (s:ByteArray):List ByteArray:=if AB s ns<ns.length then ns else ns++[s]
theorem Mz (s:ByteArray):∀ns:List ByteArray,AB s ns<=ns.length
 | []=>by simp[AB]
 |n::r=>by
  have:=Mz s r;simp only[AB,Bu];split<;>omega
theorem O6:∀(k:Nat) (ns:List ByteArray),(Fa k ns).length=ns.length
 |_,[]=>rfl
 |k,n::r=>by simp[Fa,O6 (k+1) r]
theorem O8 (s:ByteArray):∀(k:Nat) (ns:List ByteArray),Be (Fa k ns) s=if AB s ns<ns.length then some (zA ((k+AB s ns+1:Nat):Int)) else none
 |_,[]=>by simp[Fa,Be]
 |k,n::r=>by
  have a:=O8 s (k+1) r;by_cases h:n=s
  ·have e:AB s (n::r)=0:=(by simp[AB,h]);rw[Ar (show AB s (n::r)<(n::r).length by rw[e]; simp),e];simp[Fa,Be,h]
  ·have e:AB s (n::r)=AB s r+1:=(by simp[AB,h]);have b:Be (Fa k (n::r)) s=Be (Fa (k+1) r) s:=(by simp[Fa,Be,h]);rw[b,a];by_cases h2:AB s r<r.length
   ·rw[Ar h2,Ar (show AB s (n::r)<(n::r).length by rw[e]; simp; omega),e];rw[show k+1+AB s r+1=k+(AB s r+1)+1 by omega]
   ·rw[Aj h2,Aj (show ¬AB s (n::r)<(n::r).length by rw[e]; simp; omega)]
theorem O9 (s:ByteArray):∀(k:Nat) (ns:List ByteArray),Fa k (ns++[s])=Fa k ns++[(s,zA ((k+ns.length+1:Nat):Int))]
 |k,[]=>by simp[Fa]
 |k,n::r=>by
  simp only[Cj,Fa,O9 s (k+1) r,Bu];rw[show k+1+r.length+1=k+(r.length+1)+1 by omega]
theorem MA (ns:List ByteArray) (s:ByteArray):(Cf ns s).length<=ns.length+1:=by
 unfold Cf; split<;>simp
theorem Pa (s:ByteArray):∀ns:List ByteArray,AB s (Cf ns s)=AB s ns:=by
 intro ns;unfold Cf;split
 ·rfl
 ·rename_i h;induction ns with
  |nil=>simp[AB]
  |cons n r a=>
   simp only[AB,Bu,Cj] at h ⊢;by_cases h2:n=s
   ·rw[Ar h2,Ar h2]
   ·rw[Aj h2]at h;rw[Aj h2,Aj h2,a (by omega)]
structure C2 (w:World) (B r:Nat) (ns:List ByteArray):Prop where
 box:Ac w B #[.map (some r)] 126
 map:Bm w r (Fa 0 ns)
 ne:B≠r
theorem C2.later {w w':World} {B r:Nat} {ns:List ByteArray} (h:C2 w B r ns) (hb:Below w.heap.size w w'):C2 w' B r ns:=⟨h.box.below hb h.box.lt,h.map.below hb h.map.lt,h.ne⟩
theorem C2.alloc {w:World} {B r:Nat} {ns:List ByteArray} (h:C2 w B r ns) (o:Obj):C2 (w.alloc o) B r ns:=h.later ((Af _ _).alloc (Ai _) o)
theorem Pb (k:Nat):(⟨#[90]⟩:ByteArray)++⟨(Lib.decDigits k).toArray⟩=Cc k:=by
 apply ByteArray.ext;unfold Cc;apply Array.ext';simp[ByteArray.toList_data_append]
theorem V6 {P:Program} {w:World} {T a b:TypeId} {r:Nat} {L:List (ByteArray×Value)} (hm:P.underlying T=some (.map a b)) (h:Bm w r L) (ty:TypeId):(Builtin.len_ #[T] ty #[.map (some r)]).run P w=.ok (zA (L.length:Int)) w:=by
 obtain⟨es,aa,hb,he,_⟩:=h;have c:es.size=L.length:=by have:=Bx List.length he; simpa using this
 simp[Builtin.len_,Ga hm,H8 hb,goInt,Result.andThen,c]
theorem Pd (w:World):
  Calls prog 64 #[] w λe w'=>∃B r,e=.returned (.func (.func 89) #[] #[zC B])/\C2 w' B r []/\w.heap.size<=r/\w.heap.size<=B/\Below w.heap.size w w':=by
 have aa:=@hmq prog;have ab:=@run_makeMap prog;go_enter func64,ntmps64;go_wp2_with fail;go_ret;have h:=Ac.new (w.alloc (.map #[] 0)) #[.map (some w.heap.size)] 126;have hz:(w.alloc (.map #[] 0)).heap.size=w.heap.size+1:=by simp
 rw[hz]at h;have hb:Below w.heap.size w ((w.alloc (.map #[] 0)).alloc (.cells #[.map (some w.heap.size)] 126)):=((Af _ _).alloc (Ai _) _).alloc (by simp) _;exact⟨w.heap.size+1,w.heap.size,rfl,⟨h,(Bm.new w).below (B:=w.heap.size+1) ((Af _ _).alloc (by simp) _) (by omega),by omega⟩,Ai _,by omega,hb⟩
theorem Pe (a:Nat) (s:ByteArray) (ns:List ByteArray) (B r:Nat) (w:World) (h:C2 w B r ns) (A:Tb a w) (aA:a<=r) (C:a<=w.heap.size) (hl:ns.length<=100000):
  Calls prog 89 #[.string s,zC B] w λe w'=>e=.returned (.string (Cc (AB s ns+1)))/\C2 w' B r (Cf ns s)/\Am (λb=>b=r) w w':=by
 have D:=Aa h;have m:=Aa A;have n:=h.box.c0;have aa:=O8 s 0 ns;have hz:=zeroValue3 w;have q:=Mz s ns;by_cases c:AB s ns<ns.length
 ·rw[Ar c]at aa;have ab:(Instr.lookup 126 (.map (some r)) (.string s) true).run prog w=.ok (.tuple #[zA ((AB s ns+1:Nat):Int),.bool true]) w:=by
   rw[E9 (P:=prog) underlying126 underlying9 hz h.map _,aa];simp
  have g:Hid (Cf ns s=ns):=Aa (by unfold Cf;rw[Ar c]);obtain⟨k,hk⟩:∃k,k=AB s ns+1:=⟨_,rfl⟩;rw[<-hk]at ab;rw[<-hk];have i:k<=1000000:=by omega
  have j:=Aa (Pb k);have E:(Lib.decDigits k).length<=1000001:=by have:=IV k; omega
  have F:1+(Lib.decDigits k).length<=9223372036854775807:=by omega
  have G:¬9223372036854775807<1+(Lib.decDigits k).length:=by omega
  clear aa hz c q hk h;go_enter func89,ntmps89;go_wp2_with fail;refine(My k a i _ m.o).mono ?_;rintro e w1 ⟨rfl,d⟩;have f:=Aa d;clear d n ab;go_wp2_with fail;rw[j.o];go_ret;exact⟨rfl,by rw[g.o]; exact D.o.later f.o,Am.ofBelow f.o⟩
 ·rw[Aj c]at aa;have ab:(Instr.lookup 126 (.map (some r)) (.string s) true).run prog w=.ok (.tuple #[zA 0,.bool false]) w:=by
   rw[E9 (P:=prog) underlying126 underlying9 hz h.map _,aa];simp
  have hlen:(Builtin.len_ #[126] 3 #[.map (some r)]).run prog w=.ok (zA (ns.length:Int)) w:=(by rw[V6 underlying126 h.map,O6]);have g:Hid (Cf ns s=ns++[s]):=Aa (by unfold Cf;rw[Aj c]);have a1:AB s ns=ns.length:=by omega
  obtain⟨k,hk⟩:∃k,k=ns.length+1:=⟨_,rfl⟩;have t:(ns.length:Int)+1=(k:Int):=by omega
  have i:k<=1000000:=by omega
  have aB:IntKind.i64.wrap ((ns.length:Int)+1)=(k:Int):=by rw[EZ]; omega
  obtain⟨w2,aq,u,H,v,x,y,l⟩:=JN (P:=prog) underlying126 underlying9 h.map s (zA k) aa;have z:Hid (Am (λb=>b=r) w w2):=⟨v,x,y,by omega,λb _ hn=>l b hn⟩;have I:Hid (C2 w2 B r (Cf ns s)):=⟨(l B h.ne).trans h.box,by rw[g.o,O9]; rw[show 0+ns.length+1=k by omega]; exact u,h.ne⟩;have J:Hid (Tb a w2):=m.o.on (z.o.below (B:=a) C (λb hb=>by omega));rw[show AB s ns+1=k by omega];have j:=Aa (Pb k);have E:(Lib.decDigits k).length<=1000001:=by have:=IV k; omega
  have F:1+(Lib.decDigits k).length<=9223372036854775807:=by omega
  have G:¬9223372036854775807<1+(Lib.decDigits k).length:=by omega
  have aC:=Aa t;generalize (ns.length:Int)=nl at *;clear aa hz c q hk h u H v x y l a1 t;go_enter func89,ntmps89;go_wp2_with fail;refine(My k a i _ J.o).mono ?_;rintro e w1 ⟨rfl,d⟩;have f:=Aa d;clear d n ab;go_wp2_with fail;rw[j.o];go_ret;exact⟨rfl,I.o.later f.o,z.o.trans (Am.ofBelow f.o)⟩
theorem KN (s:ByteArray):∀(l:List ByteArray) (h:AB s l<l.length),l[AB s l]=s
 |n::r,h=>by
  by_cases e:n=s
  ·simp[AB,e]
  ·have h2:AB s r<r.length:=by simp[AB,e] at h; omega
   have:=KN s r h2;simp[AB,e,this]
theorem V7 {t:Tm} {r:List Tm} (h:Ah (t::r)=0):Ah [t]=0/\Ah r=0:=by
 rw[GG]at h;split at h
 ·rename_i h1; exact⟨h1,h⟩
 ·rename_i h1; exact absurd h h1
