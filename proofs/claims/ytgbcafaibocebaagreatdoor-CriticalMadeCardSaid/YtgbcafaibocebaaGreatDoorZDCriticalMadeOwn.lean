/- Several texts in one. -/
import Derived.Test.YtgbcafaibocebaaGreatDoorZCCriticalMadeOwn
import Derived.Deep.RegionHeld
import Derived.Deep.RegionHeld3
import Derived.Lib.Builder
import Derived.RangeFuncNested
import Derived.RangeFuncBound
import Derived.RangeFuncCalls
import Derived.RangeFuncLeaves
import Derived.RangeFuncWrites
import Derived.Shelf.Abstract
import Derived.Shelf.RegionOpen
import Derived.OwnWalkIn
import Derived.TacticsInMore
import Derived.LoopNIn
import Derived.LoopIn
namespace Go.Proofs.YtgbcafaibocebaaGreatDoor
set_option linter.all false
set_option maxRecDepth 20000
set_option maxHeartbeats 8000000
open Go.RowKit Go.Proofs.Tryz
theorem PG (y:Bc):∀(cs:List Bc) (i:Nat),i<cs.length->Dg (cs.set i y)=(((Dg cs).set (i*3) (.string y.1.nm)).set (i*3+1) (.string y.1.t.name)).set (i*3+2) (.slice y.2.1 y.1.t.args.length y.2.2)
 | [],i,h=>by simp at h
 |x::r,0,h=>by simp[Dg,Dt]
 |x::r,i+1,h=>by
  have a:=PG y r i (by simpa using h);rw[List.set_cons_succ,Dg,Dg,a];rw[show(i+1)*3=i*3+3 by omega,show i*3+3+1=(i*3+1)+3 by omega,show i*3+3+2=(i*3+2)+3 by omega];simp[Dt]
def put3 (w:World) (g i:Nat) (y:Bc):World:=(((w.setCell ⟨g,i*3,none⟩ (.string y.1.nm)).setCell ⟨g,i*3+1,none⟩ (.string y.1.t.name)).setCell ⟨g,i*3+2,none⟩ (.slice y.2.1 y.1.t.args.length y.2.2))
theorem Wz {w:World} {g i b:Nat} {y:Bc} (h:b≠g):(put3 w g i y).heap[b]? = w.heap[b]? := by
 unfold put3;rw[Aq _ _ _ _ (by simpa using h),Aq _ _ _ _ (by simpa using h),Aq _ _ _ _ (by simpa using h)]
theorem PH {w:World} {g i:Nat} {y:Bc}:(put3 w g i y).heap.size=w.heap.size:=by simp[put3,World.setCell]
theorem PI {b w:World} {B g i:Nat} {y:Bc} (h:Below B b w) (a:B<=g):Below B b (put3 w g i y):=((h.setCell (by exact a) _).setCell (by exact a) _).setCell (by exact a) _
theorem Sl.put3 {w:World} {N g n cap i:Nat} {Y:Nat->Prop} {a:Option Addr} {l:List Tm} {y:Bc} (h:Sl w (λb=>Y b∨(N<=b/\some b≠(Value.slice (some (zD g 0)) n cap).ownBlock)) a l) (c:∀b,Y b->b<N) (hg:N<=g):Sl (put3 w g i y) (λb=>Y b∨(N<=b/\some b≠(Value.slice (some (zD g 0)) n cap).ownBlock)) a l:=
 h.kept λb hb=>Wz (by
  rcases hb with hb|hb
  ·have:=c b hb; omega
  ·intro e; exact hb.2 (by simp[Value.ownBlock,e]))
theorem Bj.put {w:World} {N:Nat} {Y:Nat->Prop} {cs:List Bc} {g n cap:Nat} (h:Bj w N Y (.slice (some (zD g 0)) n cap) cs) (a:∀b,Y b->b<N) (i:Nat) (hi:i<cs.length) (y:Bc) (hy:Sl w (λb=>Y b∨(N<=b/\some b≠(Value.slice (some (zD g 0)) n cap).ownBlock)) y.2.1 y.1.t.args):Bj (put3 w g i y) N Y (.slice (some (zD g 0)) n cap) (cs.set i y):=by
 have ab:N<=g:=(h.own.lt g rfl).1;refine⟨?_,λx hx=>?_⟩
 ·rcases h.own.2 with ⟨e,_⟩|⟨g',ad,cur,e,aa,hb,h1,h2,h3,c⟩
  ·cases e
  ·simp at e;obtain⟨rfl,rfl,rfl⟩:=e;have d:Ac w g cur 90:=hb;have f:=((d.set (i*3) (.string y.1.nm)).set (i*3+1) (.string y.1.t.name)).set (i*3+2) (.slice y.2.1 y.1.t.args.length y.2.2);refine⟨Ox _,Ae ⟨g,cap,_,by simp,aa,f,by simpa using h1,h2,by simpa using h3,?_⟩⟩;rw[PG y cs i hi,<-c];simp[List.take_set]
 ·rcases List.mem_or_eq_of_mem_set hx with h1|h1
  ·exact(h.row x h1).put3 a ab
  ·rw[h1]; exact hy.put3 a ab
theorem Bj.swap {w:World} {N:Nat} {Y:Nat->Prop} {A B:List Bc} {x y:Bc} {g n cap:Nat} (h:Bj w N Y (.slice (some (zD g 0)) n cap) ((A++[y])++x::B)) (a:∀b,Y b->b<N):Bj (put3 (put3 w g (A.length+1) y) g A.length x) N Y (.slice (some (zD g 0)) n cap) (A++x::y::B):=by
 have aa:N<=g:=(h.own.lt g rfl).1;have h1:=h.put a (A.length+1) (by simp) y (h.row y (by simp));have h2:=h1.put a A.length (by simp) x ((h.row x (by simp)).put3 a aa);have e:(((A++[y])++x::B).set (A.length+1) y).set A.length x=A++x::y::B:=(by rw[List.set_append_right _ _ (by simp)];simp[List.set_append_right]);rw[e]at h2;exact h2
def JR (l:List Bc):Prop:=l.Pairwise λa b=>Cw b.1.nm a.1.nm=false
theorem PJ {A B:List Bc} {x:Bc} (hw:JR (A++B)) (d:∀b∈B,Cw x.1.nm b.1.nm=true) (e:∀a∈A,Cw x.1.nm a.1.nm=false):JR (A++x::B):=by
 obtain⟨h1,h2,h3⟩:=Km.1 hw;refine Km.2 ⟨h1,JB.2 ⟨λb hb=>OG (d b hb),h2⟩,λa c b hb=>?_⟩;rcases Bq.1 hb with rfl|hb
 ·exact e a c
 ·exact h3 a c b hb
theorem WA {A B:List Bc} {a x:Bc} (hw:JR (A++[a]++B)) (h:Cw x.1.nm a.1.nm=false):∀y∈A++[a],Cw x.1.nm y.1.nm=false:=λy hy=>by
 rcases Bg.1 hy with hy|hy
 ·obtain⟨h1,_⟩:=Km.1 hw;exact Vq h ((Km.1 h1).2.2 y hy a (by simp))
 ·have e:y=a:=by simpa using hy
  rw[e]; exact h
theorem Bj.atk {w:World} {N:Nat} {Y:Nat->Prop} {P Q:List Bc} {z:Bc} {g n cap:Nat} (h:Bj w N Y (.slice (some (zD g 0)) n cap) (P++z::Q)):
  w.cell? ⟨g,P.length*3,none⟩=some (.string z.1.nm)/\w.cell? ⟨g,P.length*3+1,none⟩=some (.string z.1.t.name)/\w.cell? ⟨g,P.length*3+2,none⟩=some (.slice z.2.1 z.1.t.args.length z.2.2)/\∀j,w.frozen? (zD g j)=false:=by
 obtain⟨g',aa,e,_,_,hc⟩:=EN h.own (by simp only[Dx,Bu]; omega);simp at e;obtain⟨rfl,_,rfl⟩:=e;have b:∀j,w.frozen? (zD g j)=false:=by
  rcases h.own.2 with ⟨e,_⟩|⟨g',aa,cur,e,_,hb,_⟩
  ·cases e
  ·simp at e;obtain⟨rfl,_,rfl⟩:=e;intro j;simp[World.frozen?,hb]
 have a:∀j,j<3->(Dg (P++z::Q))[P.length*3+j]? = (Dt z)[j]? := λj hj=>by
  rw[JK _ P.length (by simp) j hj];simp
 exact⟨hc _ _ (by have h0:=a 0 (by decide); rw[F9] at h0; rw[h0]; rfl),hc _ _ (by rw[a 1 (by decide)]; rfl),hc _ _ (by rw[a 2 (by decide)]; rfl),b⟩
theorem PK {A B cs:List Bc} {x:Bc} {l:List Bd} (h:A++B=cs) (hp:(cs.map (·.1)++[x.1]).Perm l):((A++x::B).map (·.1)).Perm l:=by
 refine List.Perm.trans ?_ hp;have h1:(A++x::B).Perm (cs++[x]):=by
  rw[<-h];exact List.perm_middle.trans (List.perm_append_singleton x (A++B)).symm
 simpa using h1.map (·.1)
def WB (w:World) (Y:Nat->Prop) (ls:List Bd) (u v:Value) (wr:World):Prop:=
 ∃(k:Nat) (cs:List Bc),v=zA k/\k<=ls.length/\Bj wr w.heap.size Y u cs/\(cs.map (·.1)).Perm (ls.take k)/\JR cs/\Below w.heap.size w wr
def WC (w:World) (Y:Nat->Prop) (cs:List Bc) (x:Bc) (g cap:Nat) (v:Value) (wr:World):Prop:=
 ∃(A B:List Bc),v=zA (A.length:Int)/\A++B=cs/\(∀b∈B,Cw x.1.nm b.1.nm=true)/\Bj wr w.heap.size Y (.slice (some (zD g 0)) (cs.length+1) cap) (A++x::B)/\Below w.heap.size w wr
theorem MQ (ls:List Bd) (u:Value) (w:World) (X:Nat->Prop) (hu:BV w X u ls) (hn:ls.length<=1000000):
  Calls prog 54 #[u] w λe w'=>∃(v:Value) (cs:List Bc),e=.returned v/\Bj w' w.heap.size (λb=>X b/\b<w.heap.size) v cs/\(cs.map (·.1)).Perm ls/\JR cs/\Below w.heap.size w w':=by
 have HU:=Aa (hu.mono (Y:=λb=>X b/\b<w.heap.size) λb h1 h2=>⟨h1,h2⟩);obtain⟨a,c,rfl,hl,aA⟩:=hu;clear aA;go_enter func54,ntmps54;go_wp2_with fail;go_loopw [3,4] (λu v wr=>WB w (λb=>X b/\b<w.heap.size) ls u v wr) (λu v wr=>ls.length-(intOf v).toNat);case atStart=>exact⟨0,[],rfl,AG _,Bj.start _ _ _,by simp,List.Pairwise.nil,Af _ _⟩
 case round=>
  obtain⟨k,cs,rfl,hk,aa,L,M,hb⟩:=hrel;have s:=Aa aa;have x:=Aa L;have r:=Aa M;have q:=Aa hb;clear aa L M;by_cases N:k<ls.length
  ·obtain⟨b,o,f,c',rfl,d0,d1,d2,hs⟩:=(HU.o.later hb).get k N;have aB:(k:Int)<(ls.length:Int):=(by omega);have HS:=Aa hs;have O:Hid ((cs.map (·.1)++[ls[k]]).Perm (ls.take (k+1))):=by
    unfold Hid;rw[Bo N];exact x.o.append_right _
   have aC:cs.length<=1000000:=by have:=x.o.length_eq; simp at this; omega
   clear hb hs;generalize ls[k]=d at *;obtain⟨v2,w2,P,BH,R⟩:=MP s.o q.o.size (λb h=>h.2) (Af wr.heap.size wr) (d,f,c') (HS.o.mono λb h _=>Ad h) aC wr.heap.size rfl;obtain⟨g,cap,rfl,aD,aH⟩:=BH.own.form (by simp);have T:=Aa P;have U:=Aa BH;have aE:Hid (Below w.heap.size w w2):=(q.o.alloc q.o.size _).grown R (by have:=q.o.size; simp; omega) (λj hj=>by have:=(s.o.own.lt j hj).1; omega);have ak:(cs++[(d,f,c')]).length=cs.length+1:=(by simp);rw[ak]at U T;clear P BH R;have V:w.heap.size<=g:=aD;go_wp2_with (at_builtin; refine DD rfl _ _ _ _ rfl rfl rfl T.o ?_);go_loopw [5] (λv wr=>WC w (λb=>X b/\b<w.heap.size) cs (d,f,c') g cap v wr) (λv wr=>(intOf v).toNat);case atStart=>
    exact⟨cs,[],by go_num,by simp,by simp,U.o,aE.o⟩
   case round=>
    obtain⟨A,B,rfl,z,W,aa,hb⟩:=hrel;have ab:=Aa aa;have C:=Aa hb;have D:=Aa W;have n:=Aa z;have aF:Hid (A.length+B.length=cs.length):=Aa (by have:=Bx List.length z;simpa using this);clear W z;rcases List.eq_nil_or_concat A with rfl|⟨l,y,Z⟩
    ·clear aa hb;go_wp2_with fail;go_quiet (fail)
     go_wp2_with fail;go_roundw
     case rel=>exact⟨k+1,[]++(d,f,c')::B,by go_num,by omega,ab.o.below (below_drewN (Af _ _) _),PK n.o O.o,PJ (by rw[n.o]; exact r.o) D.o (by simp),below_drewN C.o _⟩
     case measure=>simp[intOf]; omega
    ·rw[List.concat_eq_append]at Z;subst Z;have hlen:(l++[y]).length=l.length+1:=(by simp);have aI:l.length+1<cs.length+1:=by have:=aF.o; simp at this; omega
     have e1:(l++[y])++(d,f,c')::B=l++y::(d,f,c')::B:=(by simp);obtain⟨E,F,G,xf⟩:=aa.atk;rw[e1]at aa;obtain⟨y0,y1,y2,_⟩:=aa.atk;simp only[Dx,Bu,E4,EL] at E F G ⊢;clear aa hb hlen e1;generalize a1:l.length=m at *;have a6:=Aa a1;clear a1;have aJ:(0:Int)<=(m:Int):=(by omega);have aK:IntKind.i64.wrap ((m:Int)+1-1)=(m:Int):=by rw[EZ]; omega
     have aL:IntKind.i64.wrap (m:Int)=(m:Int):=by rw[EZ]; omega
     cases H:Op.bytesLess d.nm.toList y.1.nm.toList with
     |true=>
      have I:=Aa H;go_wp2_with fail;go_quiet (fail)
      have al:=Aa (ab.o.below (below_drewN (Af wr.heap.size wr) nq));have a7:=Aa (below_drewN C.o nq);have aG:(wr.drewN nq).cell? ⟨g,(m+1)*3,none⟩=some (.string d.nm):=E;have aM:(wr.drewN nq).cell? ⟨g,(m+1)*3+1,none⟩=some (.string d.t.name):=F;have aN:(wr.drewN nq).cell? ⟨g,(m+1)*3+2,none⟩=some (.slice f d.t.args.length c'):=G;have aO:(wr.drewN nq).cell? ⟨g,m*3,none⟩=some (.string y.1.nm):=y0;have aP:(wr.drewN nq).cell? ⟨g,m*3+1,none⟩=some (.string y.1.t.name):=y1;have aQ:(wr.drewN nq).cell? ⟨g,m*3+2,none⟩=some (.slice y.2.1 y.1.t.args.length y.2.2):=y2;have aR:∀j,(wr.drewN nq).frozen? (zD g j)=false:=xf;have aS:g<(wr.drewN nq).heap.size:=Ej aG;clear E F G y0 y1 y2 xf H;generalize wr.drewN nq=w5 at *;go_wp2_with fail;go_roundw
      case rel=>
       have J:=(al.o.swap λb h=>h.2).below ((Af _ _).alloc (Ai _) (.cells #[.string d.nm,.string d.t.name,.slice f d.t.args.length c'] 90));rw[a6.o]at J;have a8:=(PI (i:=m) (y:=(d,f,c')) (PI (i:=m+1) (y:=y) a7.o V) V).alloc (by rw[PH,PH]; exact a7.o.size) (.cells #[.string d.nm,.string d.t.name,.slice f d.t.args.length c'] 90);simp only[put3] at J a8;refine⟨l,y::B,by rw[a6.o],by have:=n.o; simpa using this,λb hb=>?_,J,a8⟩;rcases Bq.1 hb with rfl|hb
       ·exact I.o
       ·exact D.o b hb
      case measure=>simp[intOf]
     |false=>
      have I:=Aa H;go_wp2_with fail;go_quiet (fail)
      go_wp2_with fail;go_roundw
      case rel=>exact⟨k+1,(l++[y])++(d,f,c')::B,by go_num,by omega,ab.o.below (below_drewN (Af _ _) _),PK n.o O.o,PJ (by rw[n.o]; exact r.o) D.o (WA (by rw[n.o]; exact r.o) I.o),below_drewN C.o _⟩
      case measure=>simp[intOf]; omega
  ·go_wp2_with fail;go_ret;exact⟨u3,cs,rfl,s.o,by have h:=x.o; rwa [AX (by omega)] at h,r.o,q.o⟩
def WD (w:World) (N:Nat) (Y:Nat->Prop) (hv:Value) (r:Option (List Bd)) (e:Ending) (w':World):Prop:=
 w.grownBy w' hv.ownBlock/\((r=none/\∃v,e=.returned (.tuple #[v,.bool false]))∨
  ∃(h':List Bd) (v:Value) (cs':List Bc),r=some h'/\e=.returned (.tuple #[v,.bool true])/\cs'.map (·.1)=h'/\Bj w' N Y v cs'/\(∀k,v.ownBlock=some k->hv.ownBlock=some k∨w.heap.size<=k))
theorem PL (w:World) (o o':Obj) (row:Option Nat):w.grownBy ((w.alloc o).alloc o') row:=(L3 w o row).andThen (L3 (w.alloc o) o' none) (by simp)
theorem JS {w w' aa:World} {row:Option Nat} (h:w.grownBy w' row) (hb:Below w'.heap.size w' aa):w.grownBy aa row:=
 h.andThen (row':=none) ⟨hb.os,hb.tape,hb.output,hb.size,λj hj _=>hb.block j hj⟩ (by simp)
theorem WE {w:World} {N:Nat} {Y:Nat->Prop} {v:Value} {cs:List Bc} (h:Bj w N Y v cs) (c:N<=w.heap.size) (d:∀b,Y b->b<N) (x:Bc) (ht:Sl w (λb=>Y b∨w.heap.size<=b) x.2.1 x.1.t.args) (hn:cs.length<=1000000) (A:Nat) (f:w.heap.size=A):
  ∃v2 w3,(Builtin.append_ #[71,71] 71 #[v,.slice (some (zD A 0)) 1 1]).run prog (w.alloc (.cells #[.string x.1.nm,.string x.1.t.name,.slice x.2.1 x.1.t.args.length x.2.2] 90))=.ok v2 w3/\Bj w3 N Y v2 (cs++[x])/\w.grownBy w3 v.ownBlock/\∀k,v2.ownBlock=some k->v.ownBlock=some k∨w.heap.size<=k:=by
 subst f;obtain⟨i0,hi,ab,i,l⟩:=CE Tryz.infoBind;have hb:=Af w.heap.size w;obtain⟨g,cap,w3,m,ho,a,aa,hlt⟩:=run_append_lies (P:=prog) (w:=w.alloc (.cells #[.string x.1.nm,.string x.1.t.name,.slice x.2.1 x.1.t.args.length x.2.2] 90)) 71 71 N 90 i0 _ 3 56 underlying71 hi ab i l rfl (by decide) v cs.length (Dg cs) (h.own.alloc _)
  (zD w.heap.size 0) 1 1 (Dt x) rfl (IY _ _ _ _ _) (λy hy=>by simp[Dt] at hy; rcases hy with rfl|rfl|rfl<;>rfl) (by decide) (by unfold maxLen; omega) (by omega) (by simp; omega) _ rfl
 refine⟨_,w3,m,h.push c d hb ht _ rfl ho a aa,(L3 w _ _).andThen a (λj hj=>Ae hj),λk hk=>?_⟩;have e:g=k:=by simpa [Value.ownBlock] using hk
 rcases aa with h1|h1
 ·exact Ad (by rw[h1,e])
 ·right; simp at h1; omega
def WF (w2:World) (N:Nat) (Y:Nat->Prop) (hv:Value) (l m:List Tm) (h:List Bd) (v i:Value) (wr:World):Prop:=
 ∃(k:Nat) (cs':List Bc),k<=l.length/\i=zA k/\BM (l.take k) (m.take k) h=some (cs'.map (·.1))/\Bj wr N Y v cs'/\w2.grownBy wr hv.ownBlock/\(∀j,v.ownBlock=some j->hv.ownBlock=some j∨w2.heap.size<=j)
theorem WG (p:Tm):∀(t:Tm) (cs:List Bc) (pv tv hv:Value) (w:World) (N:Nat) (Y:Nat->Prop),TV w Y pv p->TV w Y tv t->Bj w N Y hv cs->N<=w.heap.size->(∀b,Y b->b<N)->cs.length+Ab [p]<=1000000->Cx (cs.map (·.1))->
  Calls prog 101 #[pv,tv,hv] w λe w'=>WD w N Y hv (A7 p t (cs.map (·.1))) e w':=by
 induction p using Tm.ind with
 |h s l ih=>
  intro t cs pv tv hv w N Y hp ht C hN hY bk aS;obtain⟨s2,m⟩:=t;obtain⟨a,c,rfl,hs⟩:=hp;obtain⟨a2,c2,rfl,aH⟩:=ht;have IH:=Aa ih;have HS:=Aa hs;have aI:=Aa aH;have ah:=Aa C;have D:=Aa hY;have bl:=Aa aS;have hlt:=C.own.lt;have hl:=hs.1;have bm:=aH.1;clear ih hs aH C hY aS;(try dsimp only[zF]);(try dsimp only[zG]);(try dsimp only[zE]);(try dsimp only);have E:=Aa (PL w (.cells #[.string s,.slice a l.length c] 33) (.cells #[.string s2,.slice a2 m.length c2] 33) hv.ownBlock);have r:Hid (Below w.heap.size w ((w.alloc (.cells #[.string s,.slice a l.length c] 33)).alloc (.cells #[.string s2,.slice a2 m.length c2] 33))):=CX _ _;have PA:=Aa ((Ac.new w #[.string s,.slice a l.length c] 33).alloc (.cells #[.string s2,.slice a2 m.length c2] 33));have PB:Hid (Ac ((w.alloc (.cells #[.string s,.slice a l.length c] 33)).alloc (.cells #[.string s2,.slice a2 m.length c2] 33)) (w.heap.size+1) #[.string s2,.slice a2 m.length c2] 33):=by
   have h:=Ac.new (w.alloc (.cells #[.string s,.slice a l.length c] 33)) #[.string s2,.slice a2 m.length c2] 33;unfold Hid;simpa using h
  have bn:((w.alloc (.cells #[.string s,.slice a l.length c] 33)).alloc (.cells #[.string s2,.slice a2 m.length c2] 33)).heap.size=w.heap.size+2:=by simp
  cases hvb:Al s with
  |true=>
   have f:=Aa hvb;clear hvb;go_enter func101,ntmps101;go_wp2_with (go_at_call 21; refine(Dy _ _).mono ?_; rintro e w' ⟨rfl,rfl⟩; rw[f.o]);have bo:Hid (∀o o',w.grownBy ((w.alloc o).alloc o') hv.ownBlock):=λo o'=>PL w o o' _;clear bo;generalize (w.alloc (.cells #[.string s,.slice a l.length c] 33)).alloc (.cells #[.string s2,.slice a2 m.length c2] 33)=w2 at *;refine(MN (cs.map (·.1)) s hv w2 _ (ah.o.below r.o).bv).mono ?_;rintro e w3 ⟨F,bp⟩;have O:=Aa (r.o.trans (F.mono r.o.size));have aT:=Aa (JS E.o F);have az:=Aa (ah.o.below O.o);have aJ:=Aa (PA.o.below F PA.o.lt);have G:=Aa (PB.o.below F PB.o.lt);have bA:=F.size;clear F;rcases bp with ⟨x,P,R,T,rfl,aU⟩|⟨T,rfl⟩
   ·have bq:=Aa aU;have g:=Aa (Po (l:=l) (t:=⟨s2,m⟩) f.o T);clear T aU;have b0:∀o,(w3.alloc o).cell? (zD (w.heap.size+1) 0)=some (.string s2):=λo=>(G.o.alloc o).cell 0;have b1:∀o,(w3.alloc o).cell? (zD (w.heap.size+1) 1)=some (.slice a2 m.length c2):=λo=>(G.o.alloc o).cell 1;go_wp2_with fail;have U:=Aa (O.o.alloc O.o.size (.cells (zF x P R) 33));have aG:=Aa (JS aT.o ((Af _ _).alloc (Ai _) (.cells (zF x P R) 33)));have aK:=Aa (bq.o.later ((Af _ _).alloc (Ai _) (.cells (zF x P R) 33)));generalize w3.alloc (.cells (zF x P R) 33)=w4 at *;refine(KT x ⟨s2,m⟩ _ _ w4 _ _ ⟨P,R,rfl,aK.o⟩ ⟨a2,c2,rfl,aI.o.later U.o⟩).mono ?_;rintro e w5 ⟨rfl,aL⟩;have aM:=Aa (JS aG.o aL);have a7:=Aa (ah.o.below (U.o.trans (aL.mono U.o.size)));clear aL b0 b1;go_wp2_with fail;refine An (v:=.tuple #[hv,.bool (BK x ⟨s2,m⟩)]) (by simp[results,results101,go_sem]) rfl ?_;rw[g.o];refine⟨aM.o,?_⟩;cases bB:BK x ⟨s2,m⟩ with
    |true=>exact Ae ⟨_,hv,cs,by rw[Ar rfl],rfl,rfl,a7.o,λk hk=>Ad hk⟩
    |false=>exact Ad ⟨by rw[Aj (by simp)],hv,rfl⟩
   ·have g:=Aa (Pn (l:=l) (t:=⟨s2,m⟩) f.o T);clear T;have u:Below w3.heap.size w3 (w3.alloc (.cells #[.string ⟨#[]⟩,zB] 33)):=(Af _ _).alloc (Ai _) _;have U:=Aa (O.o.trans (u.mono O.o.size));have aG:=Aa (JS aT.o u);have a8:=Aa (az.o.below u);have a0:(w3.alloc (.cells #[.string ⟨#[]⟩,zB] 33)).cell? (zD w.heap.size 0)=some (.string s):=(aJ.o.below u aJ.o.lt).cell 0;have b0:(w3.alloc (.cells #[.string ⟨#[]⟩,zB] 33)).cell? (zD (w.heap.size+1) 0)=some (.string s2):=(G.o.below u G.o.lt).cell 0;have b1:(w3.alloc (.cells #[.string ⟨#[]⟩,zB] 33)).cell? (zD (w.heap.size+1) 1)=some (.slice a2 m.length c2):=(G.o.below u G.o.lt).cell 1;have br:=λo=>(aJ.o.alloc o).cell 0;clear u;have bC:w3.heap.size<=(w3.alloc (.cells #[.string ⟨#[]⟩,zB] 33)).heap.size:=(by simp);have aN:cs.length<=1000000:=(by omega);obtain⟨v5,w5,aA,aV,aW,V⟩:=WE a8.o (by omega) D.o (⟨s,⟨s2,m⟩⟩,a2,c2) ((aI.o.later U.o).mono λb h _=>Ad h) aN (w3.heap.size+1) (by simp);have aO:=Aa aA;have bs:=Aa aV;have aM:Hid (w.grownBy w5 hv.ownBlock):=aG.o.andThen aW (λj hj=>Ae hj);have H:Hid (∀k,v5.ownBlock=some k->hv.ownBlock=some k∨w.heap.size<=k):=λk hk=>(V k hk).imp id (λh=>AY aG.o.size h);clear aA aV aW V br;go_wp2_with (at_builtin; refine DD rfl _ _ _ _ rfl rfl rfl aO.o ?_);refine An (v:=.tuple #[v5,.bool true]) (by simp[results,results101,go_sem]) rfl ?_;rw[g.o];exact⟨aM.o,Ae ⟨_,v5,_,rfl,rfl,by simp,bs.o,H.o⟩⟩
  |false=>
   have f:=Aa hvb;clear hvb;cases hn:(s.toList==s2.toList) with
   |false=>have g:=Aa (MF (h:=cs.map (·.1)) f.o (show((s.toList==s2.toList)&&(l.length==m.length))=false by rw[hn]; rfl));go_enter func101,ntmps101;go_wp2_with (go_at_call 21; refine(Dy _ _).mono ?_; rintro e w' ⟨rfl,rfl⟩; rw[f.o]);refine An (v:=.tuple #[zB,.bool false]) (by simp[results,results101,go_sem]) rfl ?_;rw[g.o];exact⟨E.o,Ad ⟨rfl,_,rfl⟩⟩
   |true=>
    by_cases hm:l.length=m.length;case neg=>
     have g:=Aa (MF (h:=cs.map (·.1)) f.o (show((s.toList==s2.toList)&&(l.length==m.length))=false by rw[hn]; simpa using hm));have bD:((l.length:Int)==(m.length:Int))=false:=DU.2 (by omega);clear hm;go_enter func101,ntmps101;go_wp2_with (go_at_call 21; refine(Dy _ _).mono ?_; rintro e w' ⟨rfl,rfl⟩; rw[f.o]);refine An (v:=.tuple #[zB,.bool false]) (by simp[results,results101,go_sem]) rfl ?_;rw[g.o];exact⟨E.o,Ad ⟨rfl,_,rfl⟩⟩
    case pos=>
     have g:=Aa (ME (h:=cs.map (·.1)) f.o hn hm);have HM:=Aa hm;rw[<-hm]at E r PA PB bn bm ⊢;clear hm;go_enter func101,ntmps101;go_wp2_with (go_at_call 21; refine(Dy _ _).mono ?_; rintro e w' ⟨rfl,rfl⟩; rw[f.o]);generalize (w.alloc (.cells #[.string s,.slice a l.length c] 33)).alloc (.cells #[.string s2,.slice a2 l.length c2] 33)=w2 at *;go_loopw [2,10] (λv i wr=>WF w2 N Y hv l m (cs.map (·.1)) v i wr) (λv i wr=>l.length-(intOf i).toNat);case atStart=>exact⟨0,cs,AG _,rfl,by simp[BM],ah.o.below r.o,⟨rfl,rfl,rfl,Ai _,λ_ _ _=>rfl⟩,λj hj=>Ad hj⟩
     case round=>
      obtain⟨k,I,hk,rfl,hT,C,A,V⟩:=hrel;have HT:=Aa hT;have ae:=Aa C;have aP:=Aa A;have H:=Aa V;have hne:∀b,b<w.heap.size+2->(b<N∨w.heap.size<=b)->some b≠hv.ownBlock:=λb _ h e=>by
       have h1:=hlt b e.symm;rcases h with h|h
       ·omega
       ·omega
      have bE:w.heap.size+2<=wr.heap.size:=by have:=A.size; omega
      have bt:Hid (Ac wr w.heap.size #[.string s,.slice a l.length c] 33):=(A.block w.heap.size (by omega) (hne _ (by omega) (Ae (Ai _)))).trans PA.o;have bu:Hid (Ac wr (w.heap.size+1) #[.string s2,.slice a2 l.length c2] 33):=(A.block (w.heap.size+1) (by omega) (hne _ (by omega) (Ae (by omega)))).trans PB.o;have aX:Hid (Sl wr Y a l):=(HS.o.later r.o).kept λb hb=>by
       have h1:=D.o b hb;exact A.block b (by omega) (hne _ (by omega) (Ad h1))
      have aC:Hid (Sl wr Y a2 m):=(aI.o.later r.o).kept λb hb=>by
       have h1:=D.o b hb;exact A.block b (by omega) (hne _ (by omega) (Ad h1))
      have a1:=bt.o.c1;clear hT C A V;by_cases aa:k<l.length
      ·have W:k<m.length:=by have:=HM.o; omega
       obtain⟨b,o,J,c',rfl,d0,d1,hx⟩:=aX.o.get (Af _ _) (λ_ _ h=>h) k aa;obtain⟨d,n,L,M,rfl,e0,e1,aY⟩:=aC.o.get (Af _ _) (λ_ _ h=>h) k W;have HX:=Aa hx;have bw:=Aa aY;have b1:wr.cell? (zD (w.heap.size+1) 1)=some (.slice (some (zD d n)) l.length c2):=bu.o.cell 1;have q:=Aa (And.intro a1 (And.intro b1 (And.intro d0 (And.intro d1 (And.intro e0 e1)))));have aZ:b<N:=by
        obtain⟨_,h1⟩:=aX.o;rcases h1 with h1|⟨b',o',e',h1⟩
        ·rw[h1]at aa; simp at aa
        ·cases e'; exact D.o _ (Ge _ _ _ h1 k aa).1
       have aD:d<N:=by
        obtain⟨_,h1⟩:=aC.o;rcases h1 with h1|⟨b',o',e',h1⟩
        ·rw[h1]at W; simp at W
        ·cases e'; exact D.o _ (Ge _ _ _ h1 k W).1
       have aE:∀j,(j<N∨(w.heap.size<=j/\j<w.heap.size+2))->some j≠u2.ownBlock:=λj hj e=>by
        have h1:=ae.o.own.lt j e.symm;rcases hj with hj|hj
        ·omega
        ·rcases H.o j e.symm with h2|h2
         ·have:=(hlt j h2).2; omega
         ·omega
       have aQ:=Pq _ _ _ _ HT.o bl.o;have ba:I.length+Ab [l[k]]<=1000000:=(by have h1:=aQ.2;have h2:=De l k aa;have h3:=Df l (k+1);have h4:Ab [(⟨s,l⟩:Tm)]=1+Ab l:=(by simp[Ab]);rw[h4]at bk;simp at h1;omega);have bb:=Aa (IH.o l[k] (AN aa) m[k] I (.agg (zF l[k] J c')) (.agg (zF m[k] L M)) u2 wr.drew N Y (by exact HX.o.later (below_drewN (Af _ _) 1)) (by exact bw.o.later (below_drewN (Af _ _) 1)) (by exact ae.o.below (below_drewN (Af _ _) 1)) (by simp; omega) D.o ba aQ.1);have bc:Hid (∀w1,wr.drew.grownBy w1 u2.ownBlock->w1.cell? (zD w.heap.size 1)=some (.slice (some (zD b o)) l.length c)/\w1.cell? (zD (w.heap.size+1) 1)=some (.slice (some (zD d n)) l.length c2)/\w1.cell? ⟨b,o+k*2,none⟩=some (.string l[k].name)/\w1.cell? ⟨b,o+k*2+1,none⟩=some (.slice J l[k].args.length c')/\w1.cell? ⟨d,n+k*2,none⟩=some (.string m[k].name)/\w1.cell? ⟨d,n+k*2+1,none⟩=some (.slice L m[k].args.length M)):=λw1 ab=>by
        have kp:∀b o,(b<N∨(w.heap.size<=b/\b<w.heap.size+2))->w1.cell? (zD b o)=wr.cell? (zD b o):=λb o hb=>ab.cell_far (zD b o) (by simp; omega) (by simpa using aE b hb);exact⟨(kp _ _ (Ae (by omega))).trans q.o.1,(kp _ _ (Ae (by omega))).trans q.o.2.1,(kp _ _ (Ad aZ)).trans q.o.2.2.1,(kp _ _ (Ad aZ)).trans q.o.2.2.2.1,(kp _ _ (Ad aD)).trans q.o.2.2.2.2.1,(kp _ _ (Ad aD)).trans q.o.2.2.2.2.2⟩
       have bx:=Aa (λh0=>Pl aa HM.o HT.o h0);have bz:=Aa (λbd (h0:A7 l[k] m[k] (I.map (·.1))=some bd)=>Pm aa W HT.o h0);have bf:Hid (∀w1,wr.drew.grownBy w1 u2.ownBlock->w2.grownBy w1 hv.ownBlock):=λw1 ab=>(JS aP.o (below_drewN (Af _ _) 1)).andThen ab (λj hj=>(H.o j hj).symm);have b3:Hid (w.grownBy w2 hv.ownBlock):=E.o;clear hx aY aQ ba aE;generalize l[k]=y at *;generalize m[k]=z at *;go_wp2_with fail;cases Z:A7 y z (I.map (·.1)) with
       |none=>
        have b4:Hid (Calls prog 101 #[.agg (zF y J c'),.agg (zF z L M),u2] wr.drew λe w'=>∃v1,e=.returned (.tuple #[v1,.bool false])/\wr.drew.grownBy w' u2.ownBlock):=by
         refine bb.o.mono ?_;rintro e w1 ⟨ab,⟨_,v1,rfl⟩|⟨h',v1,B,h0,_⟩⟩
         ·exact⟨v1,rfl,ab⟩
         ·rw[Z]at h0; cases h0
        have HF:Hid (A7 ⟨s,l⟩ ⟨s2,m⟩ (cs.map (·.1))=none):=Aa (by rw[g.o,bx.o Z]);go_region_held3 (λw'=>w'.cell? (zD w.heap.size 1)=some (.slice (some (zD b o)) l.length c)/\w'.cell? (zD (w.heap.size+1) 1)=some (.slice (some (zD d n)) l.length c2)/\w'.cell? ⟨b,o+k*2,none⟩=some (.string y.name)/\w'.cell? ⟨b,o+k*2+1,none⟩=some (.slice J y.args.length c')/\w'.cell? ⟨d,n+k*2,none⟩=some (.string z.name)/\w'.cell? ⟨d,n+k*2+1,none⟩=some (.slice L z.args.length M)) (first|exact q.o|exact aF|go_keep)
         ((go_at_call 101; refine b4.o.mono ?_; rintro e w1 ⟨v1,rfl,ab⟩; have aF:=bc.o w1 ab))
        have aR:=Aa (bf.o w1 ab);clear ab aF;go_wp2_with fail;refine An (v:=.tuple #[zB,.bool false]) (by simp[results,results101,go_sem]) rfl ?_;rw[HF.o];exact⟨b3.o.andThen aR.o (λj hj=>Ae hj),Ad ⟨rfl,_,rfl⟩⟩
       |some h'=>
        have b5:Hid (Calls prog 101 #[.agg (zF y J c'),.agg (zF z L M),u2] wr.drew λe w'=>∃v1 B,e=.returned (.tuple #[v1,.bool true])/\wr.drew.grownBy w' u2.ownBlock/\B.map (·.1)=h'/\Bj w' N Y v1 B/\(∀k,v1.ownBlock=some k->u2.ownBlock=some k∨wr.heap.size<=k)):=by
         refine bb.o.mono ?_;rintro e w1 ⟨ab,⟨h0,_⟩|⟨bd,v1,B,h0,rfl,h2,h3,h4⟩⟩
         ·rw[Z]at h0; cases h0
         ·rw[Z]at h0;cases h0;exact⟨v1,B,rfl,ab,h2,h3,h4⟩
        have HN:=Aa (bz.o h' Z);go_region_held3 (λw'=>w'.cell? (zD w.heap.size 1)=some (.slice (some (zD b o)) l.length c)/\w'.cell? (zD (w.heap.size+1) 1)=some (.slice (some (zD d n)) l.length c2)/\w'.cell? ⟨b,o+k*2,none⟩=some (.string y.name)/\w'.cell? ⟨b,o+k*2+1,none⟩=some (.slice J y.args.length c')/\w'.cell? ⟨d,n+k*2,none⟩=some (.string z.name)/\w'.cell? ⟨d,n+k*2+1,none⟩=some (.slice L z.args.length M)) (first|exact q.o|exact aF|go_keep)
         ((go_at_call 101; refine b5.o.mono ?_; rintro e w1 ⟨v1,B,rfl,ab,bg,bh,bj⟩; have aF:=bc.o w1 ab))
        have aR:=Aa (bf.o w1 ab);have b6:=Aa bg;have b7:=Aa bh;have b8:Hid (∀j,v1.ownBlock=some j->hv.ownBlock=some j∨w2.heap.size<=j):=λj hj=>by
         rcases bj j hj with h1|h1
         ·exact H.o j h1
         ·right; have:=aP.o.size; omega
        clear ab aF bg bh bj;go_wp2_with fail;go_roundw
        case rel=>exact⟨k+1,B,by omega,by go_num,by rw[b6.o]; exact HN.o,b7.o,aR.o,b8.o⟩
        case measure=>simp[intOf]; omega
      ·have HF:Hid (A7 ⟨s,l⟩ ⟨s2,m⟩ (cs.map (·.1))=some (I.map (·.1))):=Aa (by rw[g.o,<-HT.o,AX (by omega),AX (by have:=HM.o; omega)]);have b9:=Aa (E.o.andThen aP.o (λj hj=>Ae hj));go_wp2_with fail;refine An (v:=.tuple #[u2,.bool true]) (by simp[results,results101,go_sem]) rfl ?_;rw[HF.o];exact⟨b9.o,Ae ⟨_,u2,I,rfl,rfl,rfl,ae.o,λj hj=>(H.o j hj).imp id (λh=>by omega)⟩⟩
def FQ (p t:Tm):Bool:=(A7 p t []).isSome
def WH (w:World) (Z:Nat->Prop) (p t:Tm) (e:Ending) (w':World):Prop:=
 Below w.heap.size w w'/\((A7 p t []=none/\e=.returned (.tuple #[zB,.bool false]))∨
  ∃h' v l',A7 p t []=some h'/\e=.returned (.tuple #[v,.bool true])/\BV w' Z v l'/\l'.Perm h'/\l'.Pairwise λa b=>Cw b.nm a.nm=false)
theorem PM (p t:Tm) (g i:Value) (w:World) (X:Nat->Prop) (hp:TV w X g p) (ht:TV w X i t) (x:Ab [p]<=1000000):
  Calls prog 82 #[g,i] w λe w'=>WH w (λb=>(X b/\b<w.heap.size)∨w.heap.size<=b) p t e w':=by
 obtain⟨a,c,rfl,hs⟩:=hp;obtain⟨a2,c2,rfl,k⟩:=ht;have y:=Aa (hs.mono (Y:=λb=>X b/\b<w.heap.size) λb h1 h2=>⟨h1,h2⟩);have z:=Aa (k.mono (Y:=λb=>X b/\b<w.heap.size) λb h1 h2=>⟨h1,h2⟩);clear hs k;have aa:Hid (Below w.heap.size w ((w.alloc (.cells (zF p a c) 33)).alloc (.cells (zF t a2 c2) 33))):=CX _ _;go_enter func82,ntmps82;go_wp2_with fail;generalize (w.alloc (.cells (zF p a c) 33)).alloc (.cells (zF t a2 c2) 33)=w2 at *;refine(WG p t [] _ _ zB w2 w.heap.size (λb=>X b/\b<w.heap.size) ⟨a,c,rfl,y.o.later aa.o⟩ ⟨a2,c2,rfl,z.o.later aa.o⟩ (Bj.start _ _ _) aa.o.size (λb h=>h.2) (by simpa using x) List.Pairwise.nil).mono ?_;rintro e w3 ⟨l,A⟩;have d:Hid (Below w.heap.size w w3):=aa.o.grown l aa.o.size (λj hj=>by simp[Value.ownBlock] at hj);clear l;rcases A with ⟨h0,v3,rfl⟩|⟨h',v3,m,h0,rfl,hcs,ab,_⟩
 ·have f:=Aa h0;clear h0;go_wp2_with fail;refine An (v:=.tuple #[zB,.bool false]) (by simp[results,results82,go_sem]) rfl ?_;exact⟨d.o,Ad ⟨f.o,rfl⟩⟩
 ·have f:=Aa h0;have B:=Aa hcs;have C:=Aa ab;have D:m.length<=1000000:=(by have h1:=(Ps h0 List.Pairwise.nil).2;rw[<-hcs]at h1;simp at h1;omega);clear h0 hcs ab;go_wp2_with fail;refine(MQ (m.map (·.1)) v3 w3 _ C.o.bv (by simpa using D)).mono ?_;rintro e w5 ⟨v5,n,rfl,q,r,s,u⟩;have E:=Aa q;have F:=Aa r;have G:=Aa s;have H:=Aa (d.o.trans (u.mono d.o.size));have a1:=d.o.size;clear q r s u;go_wp2_with fail;refine An (v:=.tuple #[v5,.bool true]) (by simp[results,results82,go_sem]) rfl ?_;refine⟨H.o,Ae ⟨h',v5,n.map (·.1),f.o,rfl,E.o.bv.mono λb hb _=>?_,by rw[<-B.o]; exact F.o,Gc.2 (show n.Pairwise (λa b=>Cw b.1.nm a.1.nm=false) from G.o)⟩⟩;rcases hb with ⟨hb,_⟩|hb
  ·exact hb
  ·exact Ae (by omega)
def PN (w0:World) (M:Nat) (ls:List Bd) (l:List Tm) (most:Int) (n i:Value) (wr:World):Prop:=∃k:Nat,k<=l.length/\i=zA k/\n=zA (min (1+Ab (Ap ls (l.take k))) (most+1))/\Below M w0 wr
theorem WI (ls:List Bd) (t:Tm):∀(u v:Value) (most:Int) (w:World) (X:Nat->Prop),BV w X u ls->TV w X v t->0<=most->most<=1000000->
  Calls prog 55 #[u,v,zA most] w λe w'=>e=.returned (zA (min (Ab [Ag ls t]) (most+1)))/\Below w.heap.size w w':=by
 induction t using Tm.ind with
 |h s l L=>
  intro u v most w X hu hv O P;obtain⟨a,c,rfl,hs⟩:=hv;have M:=Aa L;have D:=Aa hu;have N:=Aa hs;have hl:=hs.1;clear L hu hs;go_enter func55,ntmps55;go_wp2_with fail;refine(MN ls s u _ X (by exact D.o.alloc _)).mono ?_;rintro e w1 ⟨E,ab⟩;have q:=Aa ((Ac.new w #[.string s,.slice a l.length c] 33).below E (by simp));have g:=Aa (((Af w.heap.size w).alloc (Ai _) (.cells #[.string s,.slice a l.length c] 33)).trans (E.mono (by simp)));have an:w.heap.size<w1.heap.size:=q.o.lt;clear E;have t0:∀o,(w1.alloc o).cell? (zD w.heap.size 0)=some (.string s):=λo=>(q.o.alloc o).cell 0;have t1:∀o,(w1.alloc o).cell? (zD w.heap.size 1)=some (.slice a l.length c):=λo=>(q.o.alloc o).cell 1;rcases ab with ⟨x,B,C,m,rfl,F⟩|⟨m,rfl⟩
  ·by_cases G:l=[]
   ·subst G;have r:=Aa (IM m);have R:=Aa F;clear m F;go_wp2_with fail;refine(IG x _ most _ _ ⟨B,C,rfl,R.o.later ((Af w1.heap.size w1).alloc (Ai _) _)⟩ O P).mono ?_;rintro e w3 ⟨rfl,y⟩;go_wp2_with fail;go_ret;exact⟨BI (by rw[r.o]),(g.o.alloc g.o.size _).trans (y.mono (by have:=g.o.size; simp; omega))⟩
   ·have z:=Aa (FN (l:=ls) (s:=s) (Ad G));have ar:((l.length:Int)==0)=false:=DU.2 (by have:=Fp.2 G; omega);clear m F;go_wp2_with fail;have d:=Aa (q.o.alloc (.cells (zF x B C) 33));have A:=Aa (g.o.alloc g.o.size (.cells (zF x B C) 33));generalize w1.alloc (.cells (zF x B C) 33)=w2 at *;clear t0 t1;go_loopw [9,10] (λn i wr=>PN w2 w2.heap.size ls l most n i wr) (λn i wr=>l.length-(intOf i).toNat);case atStart=>exact⟨0,AG _,rfl,by simp[Ap,Ab]; omega,Af _ _⟩
    case round=>
     obtain⟨k,hk,rfl,rfl,hb⟩:=hrel;have c0:wr.cell? (zD w.heap.size 0)=some (.string s):=(d.o.below hb d.o.lt).cell 0;have c1:wr.cell? (zD w.heap.size 1)=some (.slice a l.length c):=(d.o.below hb d.o.lt).cell 1;have hn:0<=((1:Int)+Ab (Ap ls (l.take k))):=(by omega);have f:=Aa (A.o.trans (hb.mono A.o.size));have T:=Aa hb;by_cases j:k<l.length
     ·obtain⟨b,o,U,c',rfl,d0,d1,hx⟩:=N.o.get f.o (λ_ _ h=>h) k j;by_cases hle:1+(Ab (Ap ls (l.take k)):Int)<=most
      ·have aa:min (1+(Ab (Ap ls (l.take k)):Int)) (most+1)=1+(Ab (Ap ls (l.take k)):Int):=(by omega);rw[aa];go_wp2_with fail;refine(M.o _ (AN j) _ _ _ _ X (D.o.later f.o) hx (by omega) (by omega)).mono ?_;rintro e w3 ⟨rfl,y⟩;have H:=Aa (Ou ls l k j);have V:0<=min ((Ab [Ag ls l[k]]:Int)) (most-(1+(Ab (Ap ls (l.take k)):Int))+1):=(by omega);have W:min ((Ab [Ag ls l[k]]:Int)) (most-(1+(Ab (Ap ls (l.take k)):Int))+1)<=1000001:=(by omega);go_wp2_with fail;go_roundw
       case rel=>exact⟨k+1,by omega,by go_num,by rw[H.o]; congr 1; omega,hb.trans (y.mono hb.size)⟩
       case measure=>simp[intOf]; omega
      ·have aa:min (1+(Ab (Ap ls (l.take k)):Int)) (most+1)=most+1:=(by omega);rw[aa];have hz:(Ab [(⟨s,Ap ls l⟩:Tm)]:Int)=1+Ab (Ap ls l):=(by simp[Ab]);have Y:=Ov ls l k;have r:=Aa (show(most+1:Int)=min (Ab [(⟨s,Ap ls l⟩:Tm)]:Int) (most+1) by omega);clear hz;go_wp2_with fail;go_ret;exact⟨BI (by rw[z.o]; exact r.o),f.o⟩
     ·have I:l.take k=l:=AX (by omega);rw[I];have hz:(Ab [(⟨s,Ap ls l⟩:Tm)]:Int)=1+Ab (Ap ls l):=(by simp[Ab]);have J:=Aa hz;clear hz;go_wp2_with fail;all_goals (go_ret; exact⟨BI (by rw[z.o]; have:=J.o; omega),f.o⟩)
  ·have z:Hid (Ag ls ⟨s,l⟩=⟨s,Ap ls l⟩):=FN (Ae m);clear m;go_wp2_with fail;have d:=Aa (q.o.alloc (.cells #[.string ⟨#[]⟩,zB] 33));have A:=Aa (g.o.alloc g.o.size (.cells #[.string ⟨#[]⟩,zB] 33));generalize w1.alloc (.cells #[.string ⟨#[]⟩,zB] 33)=w2 at *;clear t0 t1;go_loopw [9,10] (λn i wr=>PN w2 w2.heap.size ls l most n i wr) (λn i wr=>l.length-(intOf i).toNat);case atStart=>exact⟨0,AG _,rfl,by simp[Ap,Ab]; omega,Af _ _⟩
   case round=>
    obtain⟨k,hk,rfl,rfl,hb⟩:=hrel;have c0:wr.cell? (zD w.heap.size 0)=some (.string s):=(d.o.below hb d.o.lt).cell 0;have c1:wr.cell? (zD w.heap.size 1)=some (.slice a l.length c):=(d.o.below hb d.o.lt).cell 1;have hn:0<=((1:Int)+Ab (Ap ls (l.take k))):=(by omega);have f:=Aa (A.o.trans (hb.mono A.o.size));have T:=Aa hb;by_cases j:k<l.length
    ·obtain⟨b,o,U,c',rfl,d0,d1,hx⟩:=N.o.get f.o (λ_ _ h=>h) k j;by_cases hle:1+(Ab (Ap ls (l.take k)):Int)<=most
     ·have aa:min (1+(Ab (Ap ls (l.take k)):Int)) (most+1)=1+(Ab (Ap ls (l.take k)):Int):=(by omega);rw[aa];go_wp2_with fail;refine(M.o _ (AN j) _ _ _ _ X (D.o.later f.o) hx (by omega) (by omega)).mono ?_;rintro e w3 ⟨rfl,y⟩;have H:=Aa (Ou ls l k j);have V:0<=min ((Ab [Ag ls l[k]]:Int)) (most-(1+(Ab (Ap ls (l.take k)):Int))+1):=(by omega);have W:min ((Ab [Ag ls l[k]]:Int)) (most-(1+(Ab (Ap ls (l.take k)):Int))+1)<=1000001:=(by omega);go_wp2_with fail;go_roundw
      case rel=>exact⟨k+1,by omega,by go_num,by rw[H.o]; congr 1; omega,hb.trans (y.mono hb.size)⟩
      case measure=>simp[intOf]; omega
     ·have aa:min (1+(Ab (Ap ls (l.take k)):Int)) (most+1)=most+1:=(by omega);rw[aa];have hz:(Ab [(⟨s,Ap ls l⟩:Tm)]:Int)=1+Ab (Ap ls l):=(by simp[Ab]);have Y:=Ov ls l k;have r:=Aa (show(most+1:Int)=min (Ab [(⟨s,Ap ls l⟩:Tm)]:Int) (most+1) by omega);clear hz;go_wp2_with fail;go_ret;exact⟨BI (by rw[z.o]; exact r.o),f.o⟩
    ·have I:l.take k=l:=AX (by omega);rw[I];have hz:(Ab [(⟨s,Ap ls l⟩:Tm)]:Int)=1+Ab (Ap ls l):=(by simp[Ab]);have J:=Aa hz;clear hz;go_wp2_with fail;all_goals (go_ret; exact⟨BI (by rw[z.o]; have:=J.o; omega),f.o⟩)
def IZ (p:Pr):Bool:=decide (3000<Ab [p.l])||decide (3000<Ab [p.r])
def Hj (l:List Pr):Bool:=l.any IZ
def I0 (ls:List Pr):Bool:=Hj ls||decide (100<ls.length)
theorem WJ {l:List Pr} {k:Nat} (h:k<l.length):Hj (l.take (k+1))=(Hj (l.take k)||IZ l[k]):=by
 unfold Hj; rw[Bo h,HH]; simp
theorem WK {l:List Pr} {k:Nat} (h:k<l.length) (h0:IZ l[k]=true):I0 l=true:=by
 have e:Hj l=true:=(by unfold Hj;rw[Ei];exact⟨l[k],AN h,h0⟩);unfold I0;rw[e]; rfl
def WL (ls:List Pr) (w:World) (v:Value) (wr:World):Prop:=∃k:Nat,v=zA k/\k<=ls.length/\Hj (ls.take k)=false/\Below w.heap.size w wr
theorem WM (ls:List Pr) (u:Value) (w:World) (X:Nat->Prop) (hu:QV w X u ls):
  Calls prog 9 #[u] w λe w'=>e=.returned (.bool (I0 ls))/\Below w.heap.size w w':=by
 have x:=Aa (hu.mono (Y:=λb=>X b/\b<w.heap.size) λb h1 h2=>⟨h1,h2⟩);obtain⟨a,c,rfl,hl,y⟩:=hu;clear y;go_enter func9,ntmps9;go_wp2_with fail;go_loopw [3] (λv wr=>WL ls w v wr) (λv wr=>ls.length-(intOf v).toNat);case atStart=>exact⟨0,rfl,AG _,rfl,Af _ _⟩
 case round=>
  obtain⟨k,rfl,hk,j,hb⟩:=hrel;have g:=Aa hb;have m:=Aa j;clear j;by_cases i:k<ls.length
  ·obtain⟨b,o,a1,c1,a2,c2,rfl,d0,d1,d2,d3,n,q⟩:=(x.o.later hb).get k i;have ah:(k:Int)<(ls.length:Int):=(by omega);have z:=Aa n;have A:=Aa q;have s:=Aa (WK i);have B:=Aa (WJ i);clear n q hb;generalize ls[k]=d at *;go_wp2_with fail;refine(Oq d.l _ _ _ ⟨a1,c1,rfl,z.o⟩).mono ?_;rintro e w1 ⟨rfl,aa⟩;have ab:=Aa (g.o.trans (aa.mono g.o.size));have C:=Aa (A.o.later aa);have al:=cell_later aa d2;have an:=cell_later aa d3;clear aa;cases hq:decide (3000<Ab [d.l]) with
   |true=>have f:=Aa (s.o (by unfold IZ; rw[hq]; rfl));clear hq;go_wp2_with fail;go_ret;exact⟨BJ f.o.symm,ab.o⟩
   |false=>
    have D:=Aa hq;clear hq;go_wp2_with fail;refine(Oq d.r _ _ _ ⟨a2,c2,rfl,C.o⟩).mono ?_;rintro e w2 ⟨rfl,hb2⟩;have t:=Aa (ab.o.trans (hb2.mono ab.o.size));clear hb2;cases hq:decide (3000<Ab [d.r]) with
    |true=>have f:=Aa (s.o (by unfold IZ; rw[hq]; simp));clear hq;go_wp2_with fail;go_ret;exact⟨BJ f.o.symm,t.o⟩
    |false=>
     have f:Hid (Hj (ls.take (k+1))=false):=Aa (by rw[B.o,m.o];unfold IZ;rw[D.o,hq];rfl);clear hq;go_wp2_with fail;go_roundw
     case rel=>exact⟨k+1,by go_num,by omega,f.o,t.o⟩
     case measure=>simp[intOf]; omega
  ·have f:Hid (decide (100<ls.length)=I0 ls):=Aa (by have h:=m.o;rw[AX (by omega)]at h;unfold I0;rw[h];rfl);go_wp2_with fail;go_ret;exact⟨BJ (by rw[<-f.o,FL]; simp; omega),g.o⟩
def WN (ls:List Pr) (w:World) (v:Value) (wr:World):Prop:=∃k:Nat,v=zA k/\k<=ls.length/\Ey ls k=0/\Below w.heap.size w wr
theorem PO {a b:Tm} (h:AA a≠0):CH a b=AA a:=by unfold CH; rw[Aj h]
theorem WP {a b:Tm} (h:AA a=0):CH a b=AA b:=by unfold CH; rw[Ar h]
theorem PP (ls:List Pr) (u:Value) (w:World) (X:Nat->Prop) (hu:QV w X u ls):
  Calls prog 70 #[u] w λe w'=>e=.returned (zA (Co ls))/\Below w.heap.size w w':=by
 have A:=Aa (hu.mono (Y:=λb=>X b/\b<w.heap.size) λb h1 h2=>⟨h1,h2⟩);obtain⟨a,c,rfl,hl,B⟩:=hu;clear B;go_enter func70,ntmps70;by_cases ab:40<ls.length
 ·go_wp2_with fail;go_ret;exact⟨BI (by unfold Co; rw[Ar ab]),Af _ _⟩
 ·go_wp2_with fail;go_loopw [12] (λv wr=>WN ls w v wr) (λv wr=>ls.length-(intOf v).toNat);case atStart=>exact⟨0,rfl,AG _,rfl,Af _ _⟩
  case round=>
   obtain⟨k,rfl,hk,m,hb⟩:=hrel;have C:=Aa hb;have g:=Aa m;clear m;by_cases h:k<ls.length
   ·obtain⟨b,o,a1,c1,a2,c2,rfl,d0,d1,d2,d3,n,q⟩:=(A.o.later hb).get k h;have ak:(k:Int)<(ls.length:Int):=(by omega);have aa:Below wr.heap.size wr (wr.alloc (.cells #[.string ls[k].l.name,.slice a1 ls[k].l.args.length c1,.string ls[k].r.name,.slice a2 ls[k].r.args.length c2] 38)):=(Af _ _).alloc (Ai _) _;have D:=Aa (n.later aa);have E:=Aa (q.later aa);have s:=Aa (Ac.new wr #[.string ls[k].l.name,.slice a1 ls[k].l.args.length c1,.string ls[k].r.name,.slice a2 ls[k].r.args.length c2] 38);have t:=Aa (hb.trans (aa.mono hb.size));have x:=Aa (Vo h ab g.o);have F:=Aa (Mm h g.o);clear n q hb aa;generalize ls[k]=d at *;go_wp2_with fail;generalize wr.alloc (.cells #[.string d.l.name,.slice a1 d.l.args.length c1,.string d.r.name,.slice a2 d.r.args.length c2] 38)=w1 at *;generalize wr.heap.size=P at *;refine(Kw d.l _ _ _ ⟨a1,c1,rfl,D.o⟩).mono ?_;rintro e w2 ⟨rfl,hb2⟩;have G:=Aa (E.o.later hb2);have i:=Aa (t.o.trans (hb2.mono t.o.size));have p2:=cell_later hb2 (s.o.cell 2);have p3:=cell_later hb2 (s.o.cell 3);clear hb2;by_cases hm:AA d.l=0
    ·have j:=Aa (WP (b:=d.r) hm);rw[hm];clear hm;go_wp2_with fail;refine(Kw d.r _ _ _ ⟨a2,c2,rfl,G.o⟩).mono ?_;rintro e w3 ⟨rfl,y⟩;have z:=Aa (i.o.trans (y.mono i.o.size));clear y;by_cases hm:AA d.r=0
     ·have f:Hid (Ey ls (k+1)=0):=Aa (by rw[F.o,j.o,hm]);rw[hm];clear hm;go_wp2_with fail;go_roundw
      case rel=>exact⟨k+1,by go_num,by omega,f.o,z.o⟩
      case measure=>simp[intOf]; omega
     ·have H:(AA d.r==0)=false:=(by simpa using hm);have f:Hid (Co ls=AA d.r):=Aa (by rw[x.o (by rw[j.o]; exact hm),j.o]);clear hm;go_wp2_with fail;go_ret;exact⟨BI f.o.symm,z.o⟩
    ·have H:(AA d.l==0)=false:=(by simpa using hm);have f:Hid (Co ls=AA d.l):=Aa (by rw[x.o (by rw[PO hm]; exact hm),PO hm]);clear hm;go_wp2_with fail;go_ret;exact⟨BI f.o.symm,i.o⟩
   ·have I:k=ls.length:=(by omega);go_wp2_with fail;go_ret;exact⟨BI (by unfold Co; rw[Aj ab,<-I]; exact g.o.symm),C.o⟩
def PQ (ls:List Pr) (w:World) (v:Value) (wr:World):Prop:=∃k:Nat,v=zA k/\k<=ls.length/\EC ls k=0/\Below w.heap.size w wr
theorem CM {t:Tm} (h:AA t=0):Ab [t]<=200:=by
 unfold AA at h;split at h
 ·exact absurd h (by decide)
 ·omega
theorem WQ {l:List ByteArray} {f:ByteArray->Bool} {k:Nat} (h:k<l.length) (h0:(l.take k).all f=true) (h1:f l[k]=true):(l.take (k+1)).all f=true:=by
 rw[Bo h,List.all_append,h0];simpa using h1
theorem WR (ls:List Pr) (u:Value) (w:World) (X:Nat->Prop) (hu:QV w X u ls):
  Calls prog 10 #[u] w λe w'=>e=.returned (zA (Ck ls))/\Below w.heap.size w w':=by
 have HU:=Aa (hu.mono (Y:=λb=>X b/\b<w.heap.size) λb h1 h2=>⟨h1,h2⟩);obtain⟨a,c,rfl,hl,aB⟩:=hu;clear aB;go_enter func10,ntmps10;by_cases C:40<ls.length
 ·go_wp2_with fail;go_ret;exact⟨BI (by unfold Ck; rw[Ar C]),Af _ _⟩
 go_wp2_with fail;go_loopw [3] (λv wr=>PQ ls w v wr) (λv wr=>ls.length-(intOf v).toNat);case atStart=>exact⟨0,rfl,AG _,rfl,Af _ _⟩
 case round=>
  obtain⟨k,rfl,hk,L,hb⟩:=hrel;have m:=Aa hb;have D:=Aa L;clear L;by_cases E:k<ls.length
  ·obtain⟨b,o,a1,c1,a2,c2,rfl,d0,d1,d2,d3,M,N⟩:=(HU.o.later hb).get k E;have aC:(k:Int)<(ls.length:Int):=(by omega);have O:=Aa M;have P:=Aa N;have F:=Aa (Pz E C D.o);have HN:=Aa (KW E D.o);clear M N hb;generalize ls[k]=d at *;go_wp2_with fail;have R:=Aa (And.intro d0 (And.intro d1 (And.intro d2 d3)));have T:Hid (∀w',Below wr.heap.size wr w'->Calls prog 20 #[.agg (zF d.l a1 c1),.agg (zF d.r a2 c2)] w' λe aa=>e=.returned (zA (CH d.l d.r))/\Below wr.heap.size wr aa/\aa.cell? ⟨b,o+k*4,none⟩=some (.string d.l.name)/\aa.cell? ⟨b,o+k*4+1,none⟩=some (.slice a1 d.l.args.length c1)/\aa.cell? ⟨b,o+k*4+2,none⟩=some (.string d.r.name)/\aa.cell? ⟨b,o+k*4+3,none⟩=some (.slice a2 d.r.args.length c2)):=λw' hb=>by
    refine(Vn d.l d.r _ _ w' _ ⟨_,_,rfl,O.o.later hb⟩ ⟨_,_,rfl,P.o.later hb⟩).mono ?_;rintro e aa ⟨rfl,hb2⟩;have ab:=hb.trans (hb2.mono hb.size);exact⟨rfl,ab,cell_later ab d0,cell_later ab d1,cell_later ab d2,cell_later ab d3⟩
   go_region_held3 (λw'=>w'.cell? ⟨b,o+k*4,none⟩=some (.string d.l.name)/\w'.cell? ⟨b,o+k*4+1,none⟩=some (.slice a1 d.l.args.length c1)/\w'.cell? ⟨b,o+k*4+2,none⟩=some (.string d.r.name)/\w'.cell? ⟨b,o+k*4+3,none⟩=some (.slice a2 d.r.args.length c2)) (first|exact G|exact R.o|go_keep)
    (first
     | (go_at_call 20; refine(T.o _ (by first|exact Af _ _|exact(Af _ _).drew)).mono ?_; rintro e w5 ⟨rfl,U,G⟩))
   have s:=Aa U;have y:=Aa G;clear U G T R d0 d1 d2 d3;by_cases hm:CH d.l d.r=0
   ·have V:Hid (AA d.l=0/\AA d.r=0):=by
     unfold CH at hm;split at hm
     ·rename_i h; exact⟨h,hm⟩
     ·rename_i h; exact absurd hm h
    have H:Hid (Bv d=if Al d.l.name=true then 2 else if (At [] (Ao [d.r])).all (λn=>AJ n (At [] (Ao [d.l])))=true then 0 else 15):=Aa (by unfold Bv;rw[Ar hm]);rw[hm];clear hm;obtain⟨d0,d1,d2,d3⟩:=y.o;go_wp2_with fail;refine(Dy _ _).mono ?_;rintro e z ⟨rfl,W⟩;rw[W];clear W z;cases hv:Al d.l.name with
    |true=>have t:Hid (2=Ck ls):=Aa (by have h1:=H.o;rw[Ar hv]at h1;have h2:=F.o (by rw[h1]; decide);rw[h2,h1]);clear hv;go_wp2_with fail;go_ret;exact⟨BI t.o,m.o.trans (s.o.mono m.o.size)⟩
    |false=>
     have Z:Hid (Bv d=if (At [] (Ao [d.r])).all (λn=>AJ n (At [] (Ao [d.l])))=true then 0 else 15):=(by have h1:=H.o;rw[Aj (by rw[hv]; decide)]at h1;exact h1);clear hv H;go_wp2_with fail;refine(IR d.l _ _ _ ⟨_,_,rfl,O.o.later s.o⟩ (by have:=CM V.o.1; omega)).mono ?_;rintro e z ⟨v6,rfl,ae,A⟩;have I:=Aa (s.o.trans (A.mono s.o.size));have L6:=Aa (ae.mono (Y:=λ_=>True) λ_ _ _=>trivial);clear ae d0 d1 d2 d3;have d2:z.cell? ⟨b,o+k*4+2,none⟩=some (.string d.r.name):=cell_later A y.o.2.2.1;have d3:z.cell? ⟨b,o+k*4+3,none⟩=some (.slice a2 d.r.args.length c2):=cell_later A y.o.2.2.2;clear A;go_wp2_with fail;refine(IR d.r _ _ _ ⟨_,_,rfl,P.o.later I.o⟩ (by have:=CM V.o.2; omega)).mono ?_;rintro e w7 ⟨v7,rfl,an,J⟩;have a6:=Aa (m.o.trans ((I.o.trans (J.mono I.o.size)).mono m.o.size));have aD:=Aa (L6.o.later J);clear J d2 d3 L6 y;generalize At [] (Ao [d.l])=q at *;generalize At [] (Ao [d.r])=g at *;obtain⟨a7,c7,rfl,⟨aK,aE⟩,h7⟩:=an;go_wp2_with fail;go_loop [7] (λi=>∃j:Nat,j<=g.length/\i=zA j/\Hid ((g.take j).all (λn=>AJ n q)=true)) (λi=>g.length-(intOf i).toNat)
     case atStart=>exact⟨0,AG _,rfl,by unfold Hid; simp⟩
     case round=>
      obtain⟨j,hj,rfl,HA⟩:=hrel;by_cases x:j<g.length
      ·obtain⟨b7,o7,rfl,_,a8⟩:=h7.resolve_left (λh=>by rw[h] at x; simp at x);have e7:=a8 j x;have aF:(j:Int)<(g.length:Int):=(by omega);clear a8;have aG:=Aa (WQ (f:=λn=>AJ n q) x HA.o);have aH:Hid (AJ g[j] q=false->g.all (λn=>AJ n q)=false):=λh=>by
        rw[Jw];intro h2;have h3:=Hx.1 h2 _ (AN x);rw[h]at h3;cases h3
       generalize g[j]=nm at *;go_wp2_with fail;refine(Id nm q _ _ (λ_=>True) (by exact aD.o)).mono ?_;rintro e w8 ⟨rfl,aA⟩;rw[aA];clear aA w8;cases B:AJ nm q with
       |true=>
        have aI:=Aa (aG.o B);clear B;go_wp2_with fail;go_round
        case rel=>exact⟨j+1,by omega,by go_num,aI⟩
        case measure=>simp[intOf]; omega
       |false=>have t:Hid (15=Ck ls):=Aa (by have h1:=Z.o;rw[aH.o B,Aj (by decide)]at h1;have h2:=F.o (by rw[h1]; decide);rw[h2,h1]);clear B;go_wp2_with fail;go_ret;exact⟨BI t.o,a6.o⟩
      ·have HZ:Hid (EC ls (k+1)=0):=Aa (by have h1:=Z.o;have h2:=HA.o;rw[AX (by omega)]at h2;rw[h2,Ar rfl]at h1;rw[HN.o,h1]);go_wp2_with fail;go_roundw
       case rel=>exact⟨k+1,by go_num,by omega,HZ.o,a6.o⟩
       case measure=>simp[intOf]; omega
   ·have aL:(CH d.l d.r==0)=false:=(by simpa using hm);have t:Hid (CH d.l d.r=Ck ls):=by
     have h1:Bv d=CH d.l d.r:=by unfold Bv; rw[Aj hm]
     have h2:=F.o (by rw[h1]; exact hm);unfold Hid;rw[h2,h1]
    clear hm;go_wp2_with fail;go_ret;exact⟨BI t.o,m.o.trans (s.o.mono m.o.size)⟩
  ·have aJ:k=ls.length:=(by omega);go_wp2_with fail;go_ret;exact⟨BI (by unfold Ck; rw[Aj C,<-aJ]; exact D.o.symm),m.o⟩
theorem PR {w:World} {b b' e z n:Nat} {v:Value} {xs:List Value} (h:w.ownsRow b e z v n xs) (hb:b'<=b):w.ownsRow b' e z v n xs:=by
 obtain⟨h1,h2⟩:=h;exact⟨h1,h2.imp id λ⟨g,cap,cur,h3,a,c⟩=>⟨g,cap,cur,h3,AY hb a,c⟩⟩
def EE (w0:World) (N:Nat) (q0:Value) (ps:List (List Int)) (q:Value) (xs:List Value) (wr:World):Prop:=
 wr.ownsRow N 22 1 q ps.length xs/\Dl wr (λb=>N<=b/\some b≠q.ownBlock) ps xs/\w0.grownBy wr q0.ownBlock/\(∀k,q.ownBlock=some k->q0.ownBlock=some k∨w0.heap.size<=k)
theorem PV.grownBy {w w':World} {Z:Nat->Prop} {u:Value} {z:List Int} {r:Option Nat} (h:PV w Z u z) (a:w.grownBy w' r) (c:∀b,Z b->some b≠r):PV w' Z u z:=by
 have h1:PV w (λb=>Z b/\b<w.heap.size) u z:=h.mono λb h1 h2=>⟨h1,h2⟩;have h2:PV w' (λb=>Z b/\b<w.heap.size) u z:=h1.kept λb hx=>a.block b hx.2 (c b hx.1);exact h2.mono λb hx _=>hx.1
theorem EE.push {i wr w1:World} {N:Nat} {l q:Value} {ps:List (List Int)} {xs:List Value} (h:EE i N l ps q xs wr) (hN:N<=wr.heap.size) (hb:Below wr.heap.size wr w1) {u:Value} {z:List Int} (hu:PV w1 (λb=>wr.heap.size<=b) u z) (hn:ps.length<=1000000) (A:Nat) (s:w1.heap.size=A):
  ∃m w3,(Builtin.append_ #[67,67] 67 #[q,.slice (some (zD A 0)) 1 1]).run prog (w1.alloc (.cells #[u] 22))=.ok m w3/\EE i N l (ps++[z]) m (xs++[u]) w3:=by
 subst s;obtain⟨i0,hi,t,v,y⟩:=CE Tryz.infoInts;obtain⟨aa,B,n,c⟩:=h;have d:=aa.lt;have ak:=hb.size;have ab:w1.ownsRow N 22 1 q ps.length xs:=aa.kept (w':=w1) (row:=none) ⟨hb.os,hb.tape,hb.output,hb.size,λj hj _=>hb.block j hj⟩ (by rcases Gx (Value.ownBlock q) with h|⟨x,h⟩; exact Ad h; exact Ae (by rw[h]; simp));obtain⟨g,cap,w3,C,ho,f,a,al⟩:=run_append_lies (P:=prog) (w:=w1.alloc (.cells #[u] 22)) 67 67 N 22 i0 _ 1 24 underlying67 hi t v y rfl (by decide) q ps.length xs (ab.alloc _)
  (zD w1.heap.size 0) 1 1 [u] rfl (cell_one_new _ _ _) (λx hx=>by simp at hx; subst hx; exact hu.one) (by decide) (by unfold maxLen; omega) (by omega) (by simp; omega) _ rfl
 have an:N<=g:=by
  rcases a with e|e
  ·exact(d g e).1
  ·simp at e; omega
 refine⟨_,w3,C,by simpa using ho,?_,?_,λk hk=>?_⟩
 ·refine Dl.append (B.imp λo r hp=>?_) ?_
  ·have h1:PV wr (λb=>(N<=b/\some b≠q.ownBlock)/\b<wr.heap.size) o r:=hp.mono λb h1 h2=>⟨h1,h2⟩;have h2:PV w3 (λb=>(N<=b/\some b≠q.ownBlock)/\b<wr.heap.size) o r:=h1.kept λb hx=>by
    rw[f.block b (by simp; omega) hx.1.2,AL _ _ _ (by omega),hb.block b hx.2]
   refine h2.mono λb hx _=>⟨hx.1.1,λe=>?_⟩;simp[Value.ownBlock]at e;rcases a with e'|e'
   ·exact hx.1.2 (by rw[e',e])
   ·simp at e'; omega
  ·refine⟨u,[],rfl,?_,rfl⟩;have h1:PV w1 (λb=>wr.heap.size<=b/\b<w1.heap.size) u z:=hu.mono λb h1 h2=>⟨h1,h2⟩;have h2:PV w3 (λb=>wr.heap.size<=b/\b<w1.heap.size) u z:=h1.kept λb hx=>by
    rw[f.block b (by simp; omega) (λe=>by have:=(d b e.symm).2; omega),AL _ _ _ hx.2]
   refine h2.mono λb hx _=>⟨by omega,λe=>?_⟩;simp[Value.ownBlock]at e;rcases a with e'|e'
   ·have:=(d g e').2; omega
   ·simp at e'; omega
 ·exact Ha (Ha n (GK hb q.ownBlock) c) (Ha (GK ((Af _ _).alloc (Ai _) (.cells #[u] 22)) q.ownBlock) f (λk hk=>Ad hk)) c
 ·simp[Value.ownBlock]at hk;subst hk;rcases a with e|e
  ·exact c _ e
  ·right; simp at e; have:=n.size; omega
theorem WT {W:World} {Z:Nat->Prop} {u:Value} {z:List Int} (h:PV W Z u z) (i:Int) (F:Nat) (hF:W.heap[F]? = some (.cells #[zA i] 3 (0,0))) (hn:z.length<=1000000):
  ∃q w2,(Builtin.append_ #[22,22] 22 #[.slice (some (zD F 0)) 1 1,u]).run prog W=.ok q w2/\PV w2 (λb=>b=F∨W.heap.size<=b) q (i::z)/\Below W.heap.size W w2:=by
 obtain⟨i0,hi,d,ab,e⟩:=CE Tryz.infoInt;have aa:=Wk h;rw[<-ab]at aa;have ai:F<W.heap.size:=by
  apply Hw;intro hn;rw[Jv (by omega)]at hF; cases hF
 have c:W.cell? (zD F 0)=some (zA i):=by simp[World.cell?,hF]
 by_cases h0:z=[]
 ·subst h0;have a:=run_append_room_src (P:=prog) W 22 22 22 3 i0 underlying22 hi F 0 1 1 u 0 [] aa (by omega) (by simp) (by simp);refine⟨_,_,a,⟨_,_,rfl,by simp,Ae ⟨F,0,rfl,Ad rfl,λj hj=>?_⟩⟩,?_⟩
  ·simp at hj; subst hj; simpa [World.setCells] using c
  ·simpa [World.setCells] using Af W.heap.size W
 ·have aj:=Fp.2 h0;have f:=run_firstCells_some (P:=prog) W.drew i0.size 1 (zD F 0) 1 1 [zA i] (by rw[ab]; rfl) (λj v hj=>by
   match j,hj with
   |0,hj=>simp at hj; subst hj; simpa [Addr.add] using c)
  have a:=run_append_grow_src (P:=prog) W 22 22 22 3 i0 (zA 0) underlying22 hi d (some (zD F 0)) 1 1 [zA i] f u z.length _ aa (by omega) (by omega) (by rw[e]; exact growslice_fits (by omega) (by omega));have ak:=grownCap_ge W (1+z.length) 1 3;have al:=grownCap_le_maxLen W (1+z.length) 1 3 (by unfold maxLen; omega);refine⟨_,_,a,⟨some (zD W.heap.size 0),grownCap W (1+z.length) 1 3,by rw[Bu,Nat.add_comm],⟨by simp; omega,by simp; omega⟩,Ae ⟨W.heap.size,0,rfl,Ae (Ai _),λj hj=>?_⟩⟩,?_⟩
  ·have hb:=Et W.drew (.cells (([Value.int .i64 i]++z.map λx=>Value.int .i64 x).toArray++Builtin.zeroCells (Value.int .i64 0).cells (grownCap W (1+z.length) 1 3-(1+z.length))) 3);have g:(W.drew.alloc (.cells (([Value.int .i64 i]++z.map λx=>Value.int .i64 x).toArray++Builtin.zeroCells (Value.int .i64 0).cells (grownCap W (1+z.length) 1 3-(1+z.length))) 3)).heap[W.heap.size]? = _:=hb;rw[Lib.cell_of_heap g,EL,Array.getElem?_append_left (by simp at hj ⊢; omega)];simp at hj;cases j with
   |zero=>simp
   |succ j=>simp
  ·exact((Af W.heap.size W).drew).alloc (Ai _) _
def WU (w1:World) (N:Nat) (q1:Value) (ps:List (List Int)) (i:Nat) (ls:List (List Int)) (q j:Value) (wr:World):Prop:=
 ∃(k:Nat) (xs:List Value),k<=ls.length/\j=zA k/\EE w1 N q1 (ps++(ls.take k).map λp=>(i:Int)::p) q xs wr
def WV (w0:World) (N:Nat) (l:List Tm) (q i:Value) (wr:World):Prop:=
 ∃(k:Nat) (xs:List Value),k<=l.length/\i=zA k/\EE w0 N zB ([]::Cd 0 (l.take k)) q xs wr
theorem EE.mono {a w1 wr:World} {N:Nat} {b c q:Value} {ps aa:List (List Int)} {xs ab:List Value} (h:EE a N b aa c ab w1) (h1:EE w1 N c ps q xs wr):EE a N b ps q xs wr:=by
 refine⟨h1.1,h1.2.1,Ha h.2.2.1 h1.2.2.1 h.2.2.2,λk hk=>?_⟩;rcases h1.2.2.2 k hk with e|e
 ·exact h.2.2.2 k e
 ·exact Ae (AY h.2.2.1.size e)
theorem EE.later {a w1 w2:World} {N:Nat} {b q:Value} {ps:List (List Int)} {xs:List Value} (h:EE a N b ps q xs w1) (hb:Below w1.heap.size w1 w2):EE a N b ps q xs w2:=
 ⟨h.1.kept (w' := w2) (row := none) ⟨hb.os, hb.tape, hb.output, hb.size, λj hj _ => hb.block j hj⟩ (by rcases Gx (Value.ownBlock q) with h | ⟨x, h⟩; exact Ad h; exact Ae (by rw [h]; simp)),
  h.2.1.imp λu z hp=>hp.later hb,Ha h.2.2.1 (GK hb q.ownBlock) h.2.2.2,h.2.2.2⟩
theorem EE.here {w1:World} {N:Nat} {a q:Value} {ps:List (List Int)} {xs:List Value} {b:World} (h:EE b N a ps q xs w1):EE w1 N q ps q xs w1:=⟨h.1,h.2.1,GK (Af _ _) _,λ_ h=>Ad h⟩
theorem PS (t:Tm):∀(v:Value) (w:World) (X:Nat->Prop),TV w X v t->Ab [t]<=900000->
  Calls prog 37 #[v] w λe w'=>∃y xs,e=.returned y/\w'.ownsRow w.heap.size 22 1 y (Bs t).length xs/\Dl w' (λb=>w.heap.size<=b/\some b≠y.ownBlock) (Bs t) xs/\Below w.heap.size w w':=by
 induction t using Tm.ind with
 |h s l E=>
  intro v w X0 F aK;obtain⟨X,hX,hv⟩:∃X:Nat->Prop,(∀b,X b->b<w.heap.size)/\TV w X v ⟨s,l⟩:=⟨λb=>X0 b/\b<w.heap.size,λ_ h=>h.2,F.mono λb h1 h2=>⟨h1,h2⟩⟩;clear F;obtain⟨a,c,rfl,hs⟩:=hv;have IH:=Aa E;clear E;have hl:=hs.1;have hz:Ab [(⟨s,l⟩:Tm)]=1+Ab l:=by simp[Ab]
  rw[hz]at aK;clear hz;go_enter func37,ntmps37;go_wp2_with fail;go_loopw [3,4] (λq i wr=>WV (w.alloc (Obj.cells #[Value.string s,Value.slice a l.length c] 33)) (w.heap.size+1) l q i wr) (λq i wr=>l.length-(intOf i).toNat);case atStart=>
   refine⟨0,[zB],AG _,rfl,⟨by simp[Cd],Ae ⟨w.heap.size+1,1,#[zB],by simp[Cd],Ai _,?_,by simp[Cd],by decide,by simp,by simp[Cd]⟩⟩,⟨_,[],rfl,⟨none,0,rfl,by simp,Ad rfl⟩,by simp[Cd,Dl]⟩,GK ((Af _ _).alloc (Ai _) _) _,λk hk=>?_⟩
   ·have:=Et (w.alloc (Obj.cells #[Value.string s,Value.slice a l.length c] 33)) (Obj.cells #[Value.slice none 0 0] 22);simpa using this
   ·simp[Value.ownBlock]at hk; right; simp; omega
  case round=>
   obtain⟨k,xs,hk,rfl,aa⟩:=hrel;have A:=Aa aa;have K0:=Aa ((Ac.new w #[.string s,.slice a l.length c] 33).grown aa.2.2.1 (by simp[Value.ownBlock]));have c1:=K0.o.c1;have ao:w.heap.size+1<=wr.heap.size:=by have:=aa.2.2.1.size; simpa using this
   have B:Below w.heap.size w wr:=((Af w.heap.size w).alloc (Ai _) (.cells #[.string s,.slice a l.length c] 33)).trans ⟨aa.2.2.1.os,aa.2.2.1.tape,aa.2.2.1.output,aa.2.2.1.size,λj hj=>aa.2.2.1.block j (by simp; omega) (by simp[Value.ownBlock])⟩;have aL:=Aa B;clear aa;by_cases d:k<l.length
   ·obtain⟨b,o,a',c',rfl,d0,d1,hx⟩:=hs.get B (λ_ _ h=>h) k d;have aM:=De l k d;have au:=Df l (k+1);have HT:=Aa (We l k d);have HX:=Aa hx;have av:Ab [l[k]]<=900000:=(by omega);have aY:(([]:List Int)::Cd 0 (l.take k)).length+Ab [l[k]]<=1000000:=by simp[Pt]; omega
    clear B hx aM au;go_wp2_with fail;refine(IH.o _ (AN d) _ _ X (by exact HX.o) av).mono ?_;rintro e w1 ⟨v1,ys,rfl,G,H,f⟩;have aN:0<(Bs l[k]).length:=(by simp[Bs]);obtain⟨g1,aO,rfl,aP,aw,I⟩:=EN G aN;have J:∀p∈Bs l[k],p.length<=1000000:=λp hp=>by
     unfold Bs at hp;rcases Bq.1 hp with rfl|hp
     ·simp
     ·have h1:=Wi _ _ p hp;generalize l[k]=tk at *;obtain⟨s',l'⟩:=tk;have:Ab [(⟨s',l'⟩:Tm)]=1+Ab l':=(by simp[Ab]);simp only at h1;omega
    have aQ:=Aa J;have ai:=Aa H;have ax:=Aa I;have aZ:=Aa f;have L:=Aa (A.o.later f);have aR:=MG l[k];have aS:Hid (w.heap.size+1<=w1.heap.size):=AY ao f.size;have M:Hid (∀b,wr.heap.size<=b->some b≠Value.ownBlock u3):=λb hb e=>by have:=(A.o.1.lt b e.symm).2; omega
    generalize ay:Bs l[k]=ls at *;have aT:(([]:List Int)::Cd 0 (l.take k)).length+ls.length<=1000000:=(by omega);generalize ba:wr.heap.size=n0 at *;clear G H I f ay J aR;go_wp2_with fail;go_loopw [3,6] (λq j N=>WU w1 (w.heap.size+1) u3 ([]::Cd 0 (l.take k)) k ls q j N) (λq j N=>ls.length-(intOf j).toNat);case atStart=>exact⟨0,_,AG _,rfl,by simpa using L.o.here⟩
    case round=>
     obtain⟨m,bb,hm,rfl,ab⟩:=hrel;have g:=Aa ab;have az:=ab.2.2.1.size;clear ab;by_cases a1:m<ls.length
     ·obtain⟨u,O,P⟩:=ai.o.get m a1;have e1:∀o,(wr.alloc o).cell? (zD g1 m)=some u:=λo=>by
       have h1:=ax.o m u O;have h2:=g.o.2.2.1.block g1 aw (M.o g1 aP);have h3:(wr.alloc o).heap[g1]? = w1.heap[g1]? :=(by rw[AL _ _ _ (by omega),h2]);simpa [World.cell?,h3] using h1
      have R:=PV.grownBy P g.o.2.2.1 (λb hb=>M.o b hb.1);obtain⟨q2,w2,T,C,U⟩:=WT (R.later ((Af _ _).alloc (Ai _) (.cells #[zA k] 3))) (k:Int) wr.heap.size (by simpa using Et wr (.cells #[zA k] 3)) (aQ.o _ (AN a1));obtain⟨n,r,rfl,-⟩:∃n r,q2=.slice n (ls[m].length+1) r/\True:=by obtain⟨n,r,h,_⟩:=C; exact⟨n,r,by simpa using h,trivial⟩
      have V:Below wr.heap.size wr w2:=((Af _ _).alloc (Ai _) _).trans (U.mono (by simp));have W:((([]:List Int)::Cd 0 (l.take k))++(ls.take m).map λp=>(k:Int)::p).length<=1000000:=(by rw[Dx,Ea,H9]; omega);obtain⟨q3,w3,Y,Z⟩:=EE.push g.o (AY aS.o az) V (C.mono λb hb _=>by simp at hb; omega) W w2.heap.size rfl;have aU:=Aa T;have aV:=Aa Y;have aW:=Aa Z;have aX:Hid ((ls.take (m+1)).map (λp=>(k:Int)::p)=(ls.take m).map (λp=>(k:Int)::p)++[(k:Int)::ls[m]]):=Aa (by rw[Bo a1,Cr];rfl);clear P O R T Y Z C U V W;go_wp2_with first
       | (at_builtin; refine DD rfl _ _ _ _ rfl rfl rfl aU.o ?_)
       | (at_builtin; refine DD rfl _ _ _ _ rfl rfl rfl aV.o ?_)
      go_roundw
      case rel=>exact⟨m+1,_,by omega,by go_num,by rw[aX.o,<-Gz]; exact aW.o⟩
      case measure=>simp[intOf]; omega
     ·have D:ls.take m=ls:=AX (by omega);have h1:=g.o;rw[D,Cj,<-HT.o]at h1;have x:=Aa (L.o.mono h1);clear h1;go_wp2_with fail;go_roundw
      case rel=>exact⟨k+1,_,by omega,by go_num,x.o⟩
      case measure=>simp[intOf]; omega
   ·have D:l.take k=l:=AX (by omega);have ho:=A.o;rw[D]at ho;have x:=Aa ho;clear ho;go_wp2_with fail;go_ret;exact⟨_,_,rfl,PR x.o.1 (by omega),x.o.2.1.imp λu z hp=>hp.mono λb hb _=>⟨by omega,hb.2⟩,aL.o⟩
theorem PW (b o n a:Nat) (hn:n+1<=a) (w':World):Sem.run prog (Instr.slice 22 (.slice (some (zD b o)) (n+1) a) (some (zA 1)) none none) w'=.ok (.slice (if a=1 then some (zD b o) else some ⟨b,o+1,none⟩) n (a-1)) w':=by
 have ab:(1:Int)<=(n:Int)+1:=by omega
 have c:(1:Int)<=((n+1:Nat):Int):=by omega
 rw[run_slice_l (P:=prog) (ht:=underlying22) (h0:=by omega) (h1:=c)];by_cases aa:a=1
 ·subst aa;simp[go_sem,sliced]
 ·simp[go_sem,sliced,aa]
theorem WW {P:Program} {ops:Array Oper} {o:Oper} {a:Act} {K:Act->World->Prop} {Q:Exit->Act->World->Prop} {E:Prop} {w w':World} {v u b:Value} (aa:o.guard=none) (s x:Operand) (t c:TypeId)
  (ho:o.op=.call { callee:=.builtin .append,args:=#[s,x],argTypes:=#[t,c]}) (hs:a.eval s=v) (hx:a.eval x=u)
  (d:(Builtin.append_ #[t,c] o.type #[v,u]).run P w=.ok b w') (h:K (a.put o.dst b) w'):if Region.wanted o (yielded ops a.tmps)=true then Oper.wp P o a w K Q else E:=by
 have hw:Region.wanted o (yielded ops a.tmps)=true:=by simp[Region.wanted,aa]
 rw[Ar hw];unfold Oper.wp execOp;simp only[ho,resolve,invoke,builtin,Sem.run_bind,Sem.run_pure,Result.andThen_ok,List.map_toArray,Cb,Hy,hs,hx,d];exact h
theorem PX {w:World} {N b T a n m:Nat} {q u:Value} {xs c:List Value} (h:w.ownsRow N T 1 q n xs) (h':w.ownsRow b a 1 u m c) (d:T≠a) (k:Nat) (hk:q.ownBlock=some k):u.ownBlock≠some k:=by
 intro e;obtain⟨_,h⟩:=h;obtain⟨_,h'⟩:=h';rcases h with ⟨rfl,_⟩|⟨g,cap,cur,rfl,_,f,_⟩
 ·simp[Value.ownBlock]at hk
 ·rcases h' with ⟨rfl,_⟩|⟨g',ab,ad,rfl,_,aa,_⟩
  ·simp[Value.ownBlock]at e
  ·simp[Value.ownBlock]at hk e;subst hk; subst e;rw[f]at aa; simp at aa; exact d aa.2
def Hk (W W':World) (u u':Value) (n:Nat):Prop:=
 (∃g cap,u=.slice (some (zD g 0)) n cap/\u'=.slice (some (zD g 0)) (n+1) cap)∨((∀k,u'.ownBlock=some k->W.heap.size<=k)/\Below W.heap.size W W')
theorem WX {W:World} {N:Nat} {u:Value} {hs:List Int} (h:W.ownsRow N 3 1 u hs.length (hs.map λz=>zA z)) (q:N<=W.heap.size) (i:Int) (F:Nat) (hF:W.heap[F]? = some (.cells #[zA i] 3 (0,0))) (hn:hs.length<=1000000):
  ∃a W',(Builtin.append_ #[22,22] 22 #[u,.slice (some (zD F 0)) 1 1]).run prog W=.ok a W'/\W'.ownsRow N 3 1 a (hs++[i]).length ((hs++[i]).map λz=>zA z)/\W.grownBy W' u.ownBlock/\Hk W W' u a hs.length:=by
 obtain⟨i0,hi,r,ab,s⟩:=CE Tryz.infoInt;have t:W.cell? (zD F 0)=some (zA i):=by simp[World.cell?,hF]
 have f:Src prog i0.size 22 (.slice (some (zD F 0)) 1 1) 1 [zA i] W:=by
  rw[ab];refine Src.ofSlice W underlying22 ⟨F,0,none⟩ 1 1 _ (by simp) (λj v hj=>?_) (by intro v hv; simp at hv; subst hv; rfl);match j,hj with
  |0,hj=>simp at hj; subst hj; simpa [Addr.add] using t
 have h':=h;obtain⟨hl,h1⟩:=h;have grow:∀(base:Option Addr) (cap:Nat),u=.slice base hs.length cap->(Builtin.firstCells i0.size hs.length (.slice base hs.length cap)).run prog W.drew=.ok (hs.map λz=>Value.int .i64 z).toArray W.drew->cap<hs.length+1->cap<=1000000 ->
   ∃a W',(Builtin.append_ #[22,22] 22 #[u,.slice (some (zD F 0)) 1 1]).run prog W=.ok a W'/\W'.ownsRow N 3 1 a (hs++[i]).length ((hs++[i]).map λz=>zA z)/\W.grownBy W' u.ownBlock/\Hk W W' u a hs.length:=by
  intro base cap hu x aq c;subst hu;have b:=run_append_grow_src (P:=prog) W 22 22 22 3 i0 (zA 0) underlying22 hi r base hs.length cap _ x _ 1 _ f (by omega) (by omega) (by rw[s]; exact growslice_fits (by omega) (by omega));have au:=grownCap_ge W (hs.length+1) cap 3;have c:=grownCap_le_maxLen W (hs.length+1) cap 3 (by unfold maxLen; omega);have l:Below W.heap.size W (W.drew.alloc (.cells (((hs.map λz=>Value.int .i64 z)++[Value.int .i64 i]).toArray++Builtin.zeroCells (Value.int .i64 0).cells (grownCap W (hs.length+1) cap 3-(hs.length+1))) 3)):=((Af W.heap.size W).drew).alloc (Ai _) _;refine⟨_,_,b,⟨by simp,Ae ⟨W.heap.size,_,_,by simp,q,Et W.drew _,by simp; omega,c,?_,?_⟩⟩,GK l _,Ae ⟨λk hk=>?_,l⟩⟩
  ·simp[Builtin.zeroCells,Value.cells]; omega
  ·rw[Array.toList_append,G6 (by simp),AX (by simp)]; simp
  ·simp[Value.ownBlock]at hk; omega
 rcases h1 with ⟨hu,h0⟩|⟨g,cap,cur,hu,y,d,av,c,hcs,m⟩
 ·have e:hs=[]:=EK.1 h0;subst e;exact grow none 0 hu (by simp[Builtin.firstCells,go_sem]) (by simp) (by omega)
 ·by_cases aa:hs.length+1<=cap
  ·subst hu;simp only[Nat.mul_one] at hcs m;have aw:g<W.heap.size:=(h'.lt g rfl).2;have n:hs.length<cur.size:=(by omega);have b:=run_append_room_src (P:=prog) W 22 22 22 3 i0 underlying22 hi g 0 hs.length cap _ 1 _ f aa (λj hj=>by simp at hj; subst hj; rw[ab]; simp[World.cell?,d,n]) (λj hj=>by simp at hj; subst hj; rw[ab]; simp[World.frozen?,d]);rw[ab]at b;simp only[World.setCells,EL,Nat.mul_one] at b;refine⟨_,_,b,⟨by simp,Ae ⟨g,cap,cur.setIfInBounds hs.length (zA i),by simp,y,?_,by simpa using aa,c,by simp[hcs],?_⟩⟩,⟨rfl,rfl,rfl,by simp[World.setCell],λk hk o=>Aq _ _ _ _ (by simp[Value.ownBlock] at o; simpa using o)⟩,Ad ⟨g,cap,rfl,rfl⟩⟩
   ·simp[World.setCell,Array.getElem?_modify,d]
   ·simp only[Array.toList_setIfInBounds,Dx,ID,Nat.mul_one,Cr,Cb,Hy];rw[Bo (by simpa using n),List.take_set_of_le (by omega),m];simp
  ·exact grow (some (zD g 0)) cap hu (by
    have hc:=h'.cells (g:=g) (by rw[hu]; rfl);exact run_firstCells_some (P:=prog) W.drew i0.size hs.length (zD g 0) hs.length cap _ (by rw[ab]; simp) (λj v hj=>hc j v hj)) (by omega) (by omega)
def Cs (A:Nat) (w w':World) (q u:Value):Prop:=
 w'.os=w.os/\w'.tape=w.tape/\w'.output=w.output/\w.heap.size<=w'.heap.size/\∀b,b<w.heap.size->b≠A->some b≠q.ownBlock->some b≠u.ownBlock->w'.heap[b]? = w.heap[b]?
theorem Cs.of_below {A:Nat} {w w':World} (hb:Below w.heap.size w w') (q u:Value):Cs A w w' q u:=⟨hb.os,hb.tape,hb.output,hb.size,λk hk _ _ _=>hb.block k hk⟩
theorem Cs.of_grown {A:Nat} {w w':World} {q:Value} (hb:w.grownBy w' q.ownBlock) (u:Value):Cs A w w' q u:=⟨hb.os,hb.tape,hb.output,hb.size,λk hk _ h _=>hb.block k hk h⟩
theorem Cs.of_grown' {A:Nat} {w w':World} {u:Value} (hb:w.grownBy w' u.ownBlock) (q:Value):Cs A w w' q u:=⟨hb.os,hb.tape,hb.output,hb.size,λk hk _ _ h=>hb.block k hk h⟩
theorem Cs.trans {A:Nat} {w w1 w2:World} {q a u u1:Value} (h:Cs A w w1 q u) (h1:Cs A w1 w2 a u1) (hq:∀k,a.ownBlock=some k->q.ownBlock=some k∨w.heap.size<=k) (hu:∀k,u1.ownBlock=some k->u.ownBlock=some k∨w.heap.size<=k):Cs A w w2 q u:=
 ⟨h1.1.trans h.1,h1.2.1.trans h.2.1,h1.2.2.1.trans h.2.2.1,AY h.2.2.2.1 h1.2.2.2.1,λb hb aa ab c=>(h1.2.2.2.2 b (Cn hb h.2.2.2.1) aa
  (λe=>by rcases hq b e.symm with h2|h2; exact ab h2.symm; omega) (λe=>by rcases hu b e.symm with h2|h2; exact c h2.symm; omega)).trans (h.2.2.2.2 b hb aa ab c)⟩
theorem Cs.own {A:Nat} {w w':World} {q u v:Value} {N T n:Nat} {xs:List Value} (aa:A<N) (h:Cs A w w' q u) (hv:w.ownsRow N T 1 v n xs) (hq:∀k,v.ownBlock=some k->q.ownBlock≠some k) (hu:∀k,v.ownBlock=some k->u.ownBlock≠some k):w'.ownsRow N T 1 v n xs:=by
 have a:=hv.lt;obtain⟨h1,h2⟩:=hv;refine⟨h1,h2.imp id ?_⟩;rintro⟨g,cap,cur,rfl,b,c,d⟩;exact⟨g,cap,cur,rfl,b,by rw[h.2.2.2.2 g (a g rfl).2 (by have:=(a g rfl).1; omega) (λe=>hq g rfl e.symm) (λe=>hu g rfl e.symm)]; exact c,d⟩
def CY (A:Nat) (w0:World) (N:Nat) (q0 u:Value) (hs:List Int) (Y:Nat->Prop) (ps:List (List Int)) (q:Value) (xs:List Value) (wr:World):Prop:=
 wr.ownsRow N 22 1 q ps.length xs/\wr.ownsRow N 3 1 u hs.length (hs.map λz=>zA z)/\Dl wr (λb=>N<=b/\some b≠q.ownBlock/\some b≠u.ownBlock/\¬Y b) ps xs/\Cs A w0 wr q0 u/\(∀k,q.ownBlock=some k->q0.ownBlock=some k∨w0.heap.size<=k)
theorem PY:(22:Nat)≠3:=by decide
theorem CY.far {A:Nat} {a wr:World} {N:Nat} {b q u:Value} {hs:List Int} {Y:Nat->Prop} {ps:List (List Int)} {xs:List Value} (h:CY A a N b u hs Y ps q xs wr) (k:Nat) (hk:q.ownBlock=some k):u.ownBlock≠some k:=PX h.1 h.2.1 PY k hk
theorem CY.far' {A:Nat} {a wr:World} {N:Nat} {b q u:Value} {hs:List Int} {Y:Nat->Prop} {ps:List (List Int)} {xs:List Value} (h:CY A a N b u hs Y ps q xs wr) (k:Nat) (hk:u.ownBlock=some k):q.ownBlock≠some k:=PX h.2.1 h.1 (Eh PY) k hk
theorem CY.later {A:Nat} {a w1 w2:World} {N:Nat} {b q u:Value} {hs:List Int} {Y:Nat->Prop} {ps:List (List Int)} {xs:List Value} (aa:A<N) (h:CY A a N b u hs Y ps q xs w1) (hb:Below w1.heap.size w1 w2):CY A a N b u hs Y ps q xs w2:=by
 refine⟨Cs.own aa (Cs.of_below (A:=A) hb zB zB) h.1 (by simp[Value.ownBlock]) (by simp[Value.ownBlock]),Cs.own aa (Cs.of_below (A:=A) hb zB zB) h.2.1 (by simp[Value.ownBlock]) (by simp[Value.ownBlock]),h.2.2.1.imp λu z hp=>hp.later hb,h.2.2.2.1.trans (Cs.of_below hb q u) h.2.2.2.2 (λk h=>Ad h),h.2.2.2.2⟩
theorem CY.here {A:Nat} {a w1:World} {N:Nat} {b q u:Value} {hs:List Int} {Y:Nat->Prop} {ps:List (List Int)} {xs:List Value} (h:CY A a N b u hs Y ps q xs w1):CY A w1 N q u hs Y ps q xs w1:=⟨h.1,h.2.1,h.2.2.1,Cs.of_below (Af _ _) _ _,λ_ h=>Ad h⟩
theorem CY.push {A:Nat} {d wr w1:World} {N:Nat} {f q u:Value} {hs:List Int} {Y:Nat->Prop} {ps:List (List Int)} {xs:List Value} (i:A<N) (h:CY A d N f u hs Y ps q xs wr) (hN:N<=wr.heap.size) (m:∀b,Y b->b<wr.heap.size) (hb:Below wr.heap.size wr w1) {x:Value} {z:List Int} (hx:PV w1 (λb=>wr.heap.size<=b) x z) (hn:ps.length<=1000000) (j:Nat) (n:w1.heap.size=j):
  ∃l w3,(Builtin.append_ #[67,67] 67 #[q,.slice (some (zD j 0)) 1 1]).run prog (w1.alloc (.cells #[x] 22))=.ok l w3/\CY A d N f u hs Y (ps++[z]) l (xs++[x]) w3/\(w1.alloc (.cells #[x] 22)).grownBy w3 q.ownBlock:=by
 subst n;obtain⟨i0,hi,o,r,s⟩:=CE Tryz.infoInts;have hb2:Below wr.heap.size wr (w1.alloc (.cells #[x] 22)):=hb.alloc hb.size _;have h2:=CY.later i h hb2;have aj:=h2.far;have aa:=h2.far';have al:=hb.size;have ab:=h.1.lt;have t:=h.2.1.lt;obtain⟨g,cap,w3,v,ho,a,B,an⟩:=run_append_lies (P:=prog) (w:=w1.alloc (.cells #[x] 22)) 67 67 N 22 i0 _ 1 24 underlying67 hi o r s rfl (by decide) q ps.length xs h2.1
  (zD w1.heap.size 0) 1 1 [x] rfl (cell_one_new _ _ _) (λy hy=>by simp at hy; subst hy; exact hx.one) (by decide) (by unfold maxLen; omega) (by omega) (by simp; omega) _ rfl
 have c:∀b,some b=Value.ownBlock (.slice (some (zD g 0)) (ps.length+1) cap)->q.ownBlock=some b∨w1.heap.size+1<=b:=λb e=>by
  simp[Value.ownBlock]at e;subst e;rcases B with e|e
  ·exact Ad e
  ·right; simp at e; omega
 have hF:Cs A (w1.alloc (.cells #[x] 22)) w3 q (zB):=Cs.of_grown a _;refine⟨_,w3,v,⟨by simpa using ho,Cs.own i hF h2.2.1 aa (by simp[Value.ownBlock]),?_,?_,λk hk=>?_⟩,a⟩
 ·refine Dl.append (h.2.2.1.imp λu' z' hp=>?_) ⟨x,[],rfl,?_,rfl⟩
  ·refine((hp.mono (Y:=λb=>(N<=b/\some b≠q.ownBlock/\some b≠u.ownBlock/\¬Y b)/\b<wr.heap.size) λb h1 h2=>⟨h1,h2⟩).kept (w':=w3) λb hx=>?_).mono λb hx _=>⟨hx.1.1,λe=>?_,hx.1.2.2⟩
   ·rw[a.block b (by simp; omega) hx.1.2.1,hb2.block b hx.2]
   ·rcases c b e with e|e
    ·exact hx.1.2.1 e.symm
    ·omega
  ·refine((hx.mono (Y:=λb=>wr.heap.size<=b/\b<w1.heap.size) λb h1 h2=>⟨h1,h2⟩).kept (w':=w3) λb hx=>?_).mono λb hx _=>⟨by omega,λe=>?_,λe=>?_,λe=>?_⟩
   ·rw[a.block b (by simp; omega) (λe=>by have:=(ab b e.symm).2; omega),AL _ _ _ hx.2]
   ·rcases c b e with e|e
    ·have:=(ab b e).2; omega
    ·omega
   ·have:=(t b e.symm).2; omega
   ·have:=m b e; omega
 ·exact h2.2.2.2.1.trans (Cs.of_grown a u) h2.2.2.2.2 (λk h=>Ad h)
 ·rcases c k hk.symm with e|e
  ·exact h.2.2.2.2 k e
  ·right; have:=h.2.2.2.1.2.2.2.1; omega
theorem CY.store {A:Nat} {c wr:World} {N:Nat} {d q u:Value} {hs:List Int} {Y:Nat->Prop} {ps:List (List Int)} {xs:List Value} (aa:A<N) (h:CY A c N d u hs Y ps q xs wr) (v:Value):CY A c N d u hs Y ps q xs (wr.setCell (zD A 0) v):=by
 have a:Cs A wr (wr.setCell (zD A 0) v) zB (zB):=⟨rfl,rfl,rfl,by simp[World.setCell],λb hb e _ _=>Aq _ _ _ _ (by simpa using e)⟩;refine⟨Cs.own aa a h.1 (by simp[Value.ownBlock]) (by simp[Value.ownBlock]),Cs.own aa a h.2.1 (by simp[Value.ownBlock]) (by simp[Value.ownBlock]),h.2.2.1.imp λx z hp=>hp.kept λb hb=>Aq _ _ _ _ (by have:=hb.1; simp; omega),h.2.2.2.1.trans a (by simp[Value.ownBlock]) (by simp[Value.ownBlock]),h.2.2.2.2⟩
theorem WY {A:Nat} {W W' aa:World} {N:Nat} {q u a:Value} {hs:List Int} {i:Int} (b:A<N) (h:W.ownsRow N 3 1 u hs.length (hs.map λz=>zA z)) (hg:W.grownBy W' u.ownBlock) (he:Hk W W' u a hs.length) (h':aa.ownsRow N 3 1 a (hs++[i]).length ((hs++[i]).map λz=>zA z)) (c:Cs A W' aa q a) (hq:∀k,u.ownBlock=some k->q.ownBlock≠some k):
  aa.ownsRow N 3 1 u hs.length (hs.map λz=>zA z):=by
 rcases he with ⟨g,cap,rfl,rfl⟩|⟨ab,d⟩
 ·obtain⟨_,h1⟩:=h;obtain⟨_,h2⟩:=h';rcases h1 with ⟨h1,_⟩|⟨g1,ag,ah,h1,f,_,j,l,_,_⟩
  ·simp at h1
  ·rcases h2 with ⟨h2,_⟩|⟨g2,ak,m,h2,_,n,_,_,hcs,o⟩
   ·simp at h2
   ·simp at h1 h2;obtain⟨rfl,rfl⟩:=h1;obtain⟨rfl,rfl⟩:=h2;refine⟨by simp,Ae ⟨g,cap,m,rfl,f,n,j,l,hcs,?_⟩⟩;have h3:=Bx (List.take hs.length) o;rw[List.take_take]at h3;simpa [G6,Nat.min_eq_left] using h3
 ·have r:=h.lt;exact Cs.own b ((Cs.of_below d q a).trans c (λk h=>Ad h) (λk h=>Ad h)) h hq (λk hk e=>by have:=ab k e; have:=(r k hk).2; omega)
theorem CY.down {A:Nat} {d wr W W':World} {N:Nat} {f q u a:Value} {hs:List Int} {Y:Nat->Prop} {ps:List (List Int)} {xs:List Value} {i:Int} (ab:A<N) (h:CY A d N f u hs Y ps q xs wr) (hb:Below wr.heap.size wr W) (h':W'.ownsRow N 3 1 a (hs++[i]).length ((hs++[i]).map λz=>zA z)) (c:W.grownBy W' u.ownBlock) (he:Hk W W' u a hs.length):
  CY A W' N q a (hs++[i]) (λb=>b<wr.heap.size/\(Y b∨some b=u.ownBlock)) ps q xs W':=by
 have h2:=CY.later ab h hb;have ad:=h.2.1.lt;have ae:=hb.size;have hu:∀b,b<wr.heap.size->some b=a.ownBlock->some b=u.ownBlock:=λb hb e=>by
  rcases he with ⟨g,cap,rfl,rfl⟩|⟨aa,_⟩
  ·simpa [Value.ownBlock] using e
  ·have:=aa b e.symm; omega
 refine⟨Cs.own ab (Cs.of_grown' (A:=A) c zB) h2.1 (by simp[Value.ownBlock]) h2.far,h',h.2.2.1.imp λx z hp=>?_,Cs.of_below (Af _ _) _ _,λ_ h=>Ad h⟩;refine((hp.mono (Y:=λb=>(N<=b/\some b≠q.ownBlock/\some b≠u.ownBlock/\¬Y b)/\b<wr.heap.size) λb h1 h2=>⟨h1,h2⟩).kept (w':=W') λb hx=>?_).mono λb hx _=>⟨hx.1.1,hx.1.2.1,λe=>hx.1.2.2.1 (hu b hx.2 e),λe=>?_⟩
 ·rw[c.block b (by omega) hx.1.2.2.1,hb.block b hx.2]
 ·rcases e.2 with e|e
  ·exact hx.1.2.2.2 e
  ·exact hx.1.2.2.1 e
theorem CY.up {A:Nat} {d wr W W' f:World} {N:Nat} {j q l u a:Value} {hs:List Int} {Y:Nat->Prop} {ps m:List (List Int)} {xs n:List Value} {i:Int} (o:A<N) (h:CY A d N j u hs Y ps q xs wr) (r:∀b,Y b->b<wr.heap.size) (hb:Below wr.heap.size wr W) (c:W.grownBy W' u.ownBlock) (he:Hk W W' u a hs.length)
  (h':CY A W' N q a (hs++[i]) (λb=>b<wr.heap.size/\(Y b∨some b=u.ownBlock)) m l n f):CY A d N j u hs Y m l n f:=by
 have h2:=CY.later o h hb;have aa:=h.2.1.lt;have ai:=hb.size;have aj:=c.size;have ak:=h.2.2.2.1.2.2.2.1;have ab:∀k,a.ownBlock=some k->u.ownBlock=some k∨W.heap.size<=k:=λk hk=>by
  rcases he with ⟨g,cap,rfl,rfl⟩|⟨s,_⟩
  ·exact Ad hk
  ·exact Ae (s k hk)
 refine⟨h'.1,WY o h2.2.1 c he h'.2.1 h'.2.2.2.1 h2.far',h'.2.2.1.imp λx z hp=>hp.mono λb hx _=>⟨hx.1,hx.2.1,λe=>hx.2.2.2 ⟨(aa b e.symm).2,Ae e⟩,λe=>hx.2.2.2 ⟨r b e,Ad e⟩⟩,?_,λk hk=>?_⟩
 ·exact h2.2.2.2.1.trans ((Cs.of_grown' c q).trans h'.2.2.2.1 (λk h=>Ad h) ab) h2.2.2.2.2 (λk h=>Ad h)
 ·rcases h'.2.2.2.2 k hk with e|e
  ·exact h.2.2.2.2 k e
  ·right; omega
abbrev Dn:=List Int×Tm
def Cl (q:List Int):Nat:=(q.headD 0).toNat
def Ct:List Int->Nat->Nat->List Int->List Tm->List Dn
 |_,_,_,_,[]=>[]
 |hs,j,st,r,⟨s,l⟩::rest=>(if j<st then [] else (hs++[(j:Int)],⟨s,l⟩)::Ct (hs++[(j:Int)]) 0 (Cl (if j=st then r else [])) (if j=st then r else []).tail l)++Ct hs (j+1) st r rest
def AQ (hs fs:List Int) (t:Tm):List Dn:=(hs,t)::Ct hs 0 (Cl fs) fs.tail t.args
theorem Il (hs:List Int) (j st:Nat) (r:List Int) (t:Tm) (rest:List Tm):Ct hs j st r (t::rest)=(if j<st then [] else AQ (hs++[(j:Int)]) (if j=st then r else []) t)++Ct hs (j+1) st r rest:=by
 obtain⟨s,l⟩:=t;rw[Ct];rfl
theorem PZ (hs:List Int) (st:Nat) (r:List Int) (a b:List Tm):∀j,Ct hs j st r (a++b)=Ct hs j st r a++Ct hs (j+a.length) st r b:=by
 induction a with
 |nil=>intro j; simp[Ct]
 |cons t a c=>
  intro j;rw[Cj,Il,Il,c,Gz,Bu];congr 3
  omega
theorem WZ (hs:List Int) (st:Nat) (r:List Int) (l:List Tm) (k:Nat) (h:k<l.length) (aa:st<=k):Ct hs 0 st r (l.take (k+1))=Ct hs 0 st r (l.take k)++AQ (hs++[(k:Int)]) (if k=st then r else []) l[k]:=by
 rw[Bo h,PZ,Il];have e:0+(l.take k).length=k:=by rw[H9]; omega
 rw[e,Aj (by omega)];simp[Ct]
theorem P2 (hs:List Int) (st:Nat) (r:List Int):∀(l:List Tm) (j:Nat),j+l.length<=st->Ct hs j st r l=[]
 | [],_,_=>by simp[Ct]
 |t::l,j,h=>by
  rw[Il,P2 hs st r l (j+1) (by simp at h; omega),Ar (by simp at h; omega)];rfl
theorem W4 {β:Type} (g:List Int->Tm->List β):∀(l:List Tm) (hs:List Int) (j:Nat) (G:List Int->List β),(∀k p x,(h:k<l.length)->AV l[k] p=some x->G (((j+k:Nat):Int)::p)=g (hs++(((j+k:Nat):Int)::p)) x)->(Ct hs j 0 [] l).flatMap (λd=>g d.1 d.2)=(Cd j l).flatMap G:=by
 intro l;induction l using Tm.indL with
 |h0=>intro hs j G h; simp[Ct,Cd]
 |h s l rest aa ab=>
  intro hs j G h;have h1:(AQ (hs++[(j:Int)]) [] ⟨s,l⟩).flatMap (λd=>g d.1 d.2)=(Bs (⟨s,l⟩:Tm)).flatMap λp=>G ((j:Int)::p):=by
   unfold AQ Bs;rw[JC,JC];congr 1
   ·have:=h 0 [] ⟨s,l⟩ (by simp) rfl;simpa using this.symm
   ·refine aa (hs++[(j:Int)]) 0 _ λk p x hk hx=>?_;have:=h 0 (((0+k:Nat):Int)::p) x (by simp) (by
     simp only[EI,AV];have e:((0+k:Nat):Int).toNat=k:=(by omega);rw[D7 ⟨by omega,by rw[e]; exact hk⟩];simp only[e];exact hx)
    simpa using this
  rw[Il,IW,List.flatMap_append,List.flatMap_append,List.flatMap_map];congr 1
  ·rw[Aj (by omega)];have e:(if j=0 then ([]:List Int) else [])=[]:=(by split<;>rfl);rw[e];exact h1
  ·refine ab hs (j+1) G λk p x hk hx=>?_;have:=h (k+1) p x (by simp; omega) (by simpa using hx);have e:((j+(k+1):Nat):Int)=((j+1+k:Nat):Int):=(by omega);rw[e]at this;exact this
theorem W6 {β:Type} (g:List Int->Tm->List β) (t:Tm) (G:List Int->List β) (h:∀p x,AV t p=some x->G p=g p x):(AQ [] [] t).flatMap (λd=>g d.1 d.2)=(Bs t).flatMap G:=by
 unfold AQ Bs;rw[JC,JC];congr 1
 ·exact(h [] t rfl).symm
 ·refine W4 g t.args [] 0 G λk p x hk hx=>?_;refine h _ _ ?_;have e:((0+k:Nat):Int).toNat=k:=by omega
  simp only[AV];rw[D7 ⟨by omega,by rw[e]; exact hk⟩];simp only[e];exact hx
theorem W7 {W W' aa:World} {N:Nat} {u a:Value} {hs:List Int} {i:Int} {Q:Nat->Prop} (h:W.ownsRow N 3 1 u hs.length (hs.map λz=>zA z)) (hg:W.grownBy W' u.ownBlock) (he:Hk W W' u a hs.length) (h':aa.ownsRow N 3 1 a (hs++[i]).length ((hs++[i]).map λz=>zA z)) (c:Am Q W' aa) (hq:∀k,u.ownBlock=some k->a.ownBlock≠some k->¬Q k):
  aa.ownsRow N 3 1 u hs.length (hs.map λz=>zA z):=by
 rcases he with ⟨g,cap,rfl,rfl⟩|⟨ab,b⟩
 ·obtain⟨_,h1⟩:=h;obtain⟨_,h2⟩:=h';rcases h1 with ⟨h1,_⟩|⟨g1,af,ag,h1,d,_,f,j,_,_⟩
  ·simp at h1
  ·rcases h2 with ⟨h2,_⟩|⟨g2,aj,l,h2,_,m,_,_,hcs,n⟩
   ·simp at h2
   ·simp at h1 h2;obtain⟨rfl,rfl⟩:=h1;obtain⟨rfl,rfl⟩:=h2;refine⟨by simp,Ae ⟨g,cap,l,rfl,d,m,f,j,hcs,?_⟩⟩;have h3:=Bx (List.take hs.length) n;rw[List.take_take]at h3;simpa [G6,Nat.min_eq_left] using h3
 ·have o:=h.lt;refine DP h λg hk=>?_;have q:=(o g hk).2;have al:=b.size;rw[c.block g (by omega) (hq g hk (λe=>by have:=ab g e; omega)),b.block g q]
open Go.RowKit Go.Shelf
def W8 (l:Nat) (r rb rd:Loop) (Post:Bool->World->Prop):Exit->Act->World->Prop
 | .normal,_,w3=>w3.heap[l]? = some (.loop rb)/\Post true (w3.putObj l (.loop r))
 | .ret,_,w3=>w3.heap[l]? = some (.loop rb)/\Post false (w3.putObj l (.loop rd))
 |_,_,_=>False
theorem P4 {P:Program} {n l:Nat} {r:Loop} {args:Array Value} {W:World} {aa:Bool->World->Prop} {assign body:Code} {ps:Array Tmp} {tmps:Array Value} {rb rd:Loop} (ab:rb={ r with state:=.busy}) (i:rd={ r with state:=.done,pending:=some .ret}) (j:r.assign=assign) (k:r.body=body) (m:r.params=ps) (o:r.tmps=tmps) (q:W.heap[l]? = some (.loop r)) (b:r.state=.ready) (f:r.pending=none) (u:args.size=ps.size)
  (h:assign.wpIn (Fence.wide.inRound l) n P (Exit.then (λx g=>g.heap[l]? = some (.loop r)/\body.wpIn (Fence.wide.inRound l) n P (W8 l r rb rd aa) x (g.putObj l (.loop rb))) (λ_ _ _=>False)) { tmps:=(ps.zip args).foldl (λt (p,v)=>t.setIfInBounds p v) tmps,defers:=[]} W):
  YieldAt Fence.wide n P l args W λe W'=>∃s,e=.returned (.bool s)/\aa s W':=by
 subst ab; subst i; subst j; subst k; subst m; subst o;refine⟨r.fn,_,r.assign,r.body,run_yield q u,roundIn_of_wpIn trivial (wpIn_mono h ?_)⟩;rintro e a w1 hp;cases e with
 |normal=>
  obtain⟨h1,h2⟩:=hp;refine⟨_,run_beginRound h1 b,wpIn_mono h2 ?_⟩;rintro y a3 w3 h3;cases y with
  |normal=>
   obtain⟨h3,d⟩:=h3;refine⟨_,_,run_endRound none h3,true,rfl,?_⟩;have z:({ r with state:=.ready,pending:=none}:Loop)=r:=by
    obtain⟨_,_,_,_,_,_,_,_⟩:=r;simp at b f;subst b; subst f;rfl
   have A:({ ({ r with state:=.busy}:Loop) with state:=if (none:Option Code).isNone then .ready else .done,pending:=none}:Loop)=r:=by rw[<-z]; rfl
   rw[A];exact d
  |ret=>obtain⟨h3,d⟩:=h3;exact⟨_,_,run_endRound (some .ret) h3,false,rfl,d⟩
  |exit id=>exact h3.elim
  |goto t=>exact h3.elim
  |panic c=>exact h3.elim
  |outgrown=>exact h3.elim
 |ret=>exact hp.elim
 |exit id=>exact hp.elim
 |goto t=>exact hp.elim
 |panic c=>exact hp.elim
 |outgrown=>exact hp.elim
theorem P5 {P:Program} {n:Nat} {g:Operand} {ps:Array Tmp} {assign body:Code} {Q:Exit->Act->World->Prop} {a:Act} {w:World} {gf:Nat} {lb:Array Value} (f:a.eval g=.func (.func gf) #[] lb) (i:∀args w,(callFunc gf args).run P w=.ok (.enter gf args) w)
  (h:∀(r:Loop),r.state=.ready->r.pending=none->r.tmps=a.tmps->r.params=ps->r.assign=assign->r.body=body -> 
   Calls P gf (#[.func (.yield (w.heap.size+1)) #[] #[]]++lb) ((w.alloc (.deferred (some []))).alloc (.loop r)) λe W=>(∃v,e=.returned v)/\((W.heap[w.heap.size+1]? = some (.loop r)/\Q .normal { a with defers:={ target:=.collected w.heap.size,args:=#[]}::a.defers} (W.putObj (w.heap.size+1) (.loop { r with state:=.exhausted})))∨
    (W.heap[w.heap.size+1]? = some (.loop { r with state:=.done,pending:=some .ret})/\Q .ret { a with defers:={ target:=.collected w.heap.size,args:=#[]}::a.defers} (W.putObj (w.heap.size+1) (.loop { r with state:=.exhausted,pending:=some .ret}))))):
  (Code.rangeFunc g ps assign body).wpIn Fence.wide n P Q a w:=by
 refine wpIn_rangeFunc ?_;intro fn aa;obtain⟨r,b⟩:∃r:Loop,r={ state:=.ready,pending:=none,fn,tmps:=a.tmps,params:=ps,assign,body,defers:=w.heap.size}:=⟨_,rfl⟩;refine⟨w.heap.size+1,[{ target:=.collected w.heap.size,args:=#[]}],(w.alloc (.deferred (some []))).alloc (.loop r),{ target:=.fn (.func gf) lb,args:=#[.func (.yield (w.heap.size+1)) #[] #[]]},(w.alloc (.deferred (some []))).alloc (.loop r),gf,#[.func (.yield (w.heap.size+1)) #[] #[]]++lb,(w.alloc (.deferred (some []))).alloc (.loop r),?_,?_,?_,?_,?_,?_⟩
 ·rw[b]; exact run_enterLoop_outer _ _ _ _ _
 ·simp only[resolve,f];simp[go_sem]
 ·intro f' ab; trivial
 ·simp[invoke,go_sem,i]
 ·intro h; simp[Fence.wide] at h
 ·refine(DW.2 (h r (by rw[b]) (by rw[b]) (by rw[b]) (by rw[b]) (by rw[b]) (by rw[b]))).mono ?_;rintro e W ⟨⟨v,rfl⟩,hc⟩;rcases hc with ⟨c,hq⟩|⟨c,hq⟩
  ·have d:=run_endLoop (P:=P) c (by rw[b]; simp);have j:r.pending=none:=(by rw[b]);exact⟨none,_,d.trans (by rw[j]),hq⟩
  ·have d:=run_endLoop (P:=P) c (by simp);exact⟨some .ret,_,d,wpIn_ret hq⟩
abbrev Tk (α:Type):=List α->Bool->(Nat->Prop)->World->Prop
structure FT {α:Type} (J:Tk α) (K:Nat->Prop):Prop where
 inside:∀ {pre s f W},J pre s f W->∀b,f b∨K b->b<W.heap.size
 apart:∀ {pre s f W},J pre s f W->∀b,K b->¬f b
 abide:∀ {pre s f W W'},J pre s f W->W.heap.size<=W'.heap.size->(∀b,f b∨K b->W'.heap[b]? = W.heap[b]?)->J pre s f W'
theorem FT.exq {α:Type} {J:Tk α} {K:Nat->Prop} (h:FT J K) {pre:List α} {s:Bool} {f g:Nat->Prop} {W W':World} (hj:J pre s f W) (he:Am g W W') (a:∀b,f b∨K b->¬g b):J pre s f W':=
 h.abide hj he.size λb hb=>he.block b (h.inside hj b hb) (a b hb)
def MR {α:Type} (lp:Nat) (L:α->Array Value->World->(Nat->Prop)->Prop) (J:Tk α) (all:List α):Prop:=
 ∀(n:Nat) (pre:List α) (x:α) (args:Array Value) (Z f:Nat->Prop) (W:World),(pre++[x]) <+: all->J pre true f W->L x args W Z->(∀b,Z b->b<W.heap.size/\¬f b)->
  YieldAt Fence.wide n prog lp args W λe W'=>∃s,e=.returned (.bool s)/\∃f',J (pre++[x]) s f' W'/\Am f W W'/\∀b,f' b->f b∨W.heap.size<=b
def MS (s:Bool) (P:Prop):Prop:=s=false->P
def JT {α:Type} (lp:Nat) (L:α->Array Value->World->(Nat->Prop)->Prop) (J:Tk α) (all:List α) (S:World->Prop):Prop:=
 ∀(n:Nat) (pre:List α) (x:α) (args:Array Value) (Z f:Nat->Prop) (W:World),(pre++[x]) <+: all->J pre true f W->L x args W Z->(∀b,Z b->b<W.heap.size/\¬f b)->
  YieldAt Fence.wide n prog lp args W λe W'=>∃s,e=.returned (.bool s)/\∃f',J (pre++[x]) s f' W'/\Am f W W'/\(∀b,f' b->f b∨W.heap.size<=b)/\MS s (S W')
def P6 (S:World->Prop):Prop:=∀(W W':World),S W->W.heap.size<=W'.heap.size->(∀b,b<W.heap.size->W'.heap[b]? = W.heap[b]? ∨ (∃r,W.heap[b]? = some (.loop r))∨∃d,W.heap[b]? = some (.deferred d))->S W'
theorem P6.put {S:World->Prop} (h:P6 S) {W:World} (hs:S W) {l:Nat} {r:Loop} (a:W.heap[l]? = some (.loop r)) (o:Obj):S (W.putObj l o):=
 h _ _ hs (by simp) λb hb=>by
  by_cases e:b=l
  ·subst e; exact Ae (Ad ⟨r,a⟩)
  ·exact Ad (World.putObj_heap_other e)
theorem MR.toS {α:Type} {lp:Nat} {L:α->Array Value->World->(Nat->Prop)->Prop} {J:Tk α} {all:List α} (h:MR lp L J all):JT lp L J all (λ_=>True):=by
 intro n pre x args Z f W h1 h2 h3 d;obtain⟨g,aa,i,ab,hy,j⟩:=h n pre x args Z f W h1 h2 h3 d;refine⟨g,aa,i,ab,hy,RoundIn.mono j ?_⟩;rintro e W' ⟨s,he,k,a,b,c⟩;exact⟨s,he,k,a,b,c,λ_=>trivial⟩
def Cy {α:Type} (J:Tk α) (all pre:List α) (f g:Nat->Prop) (W:World) (s:Bool) (W':World):Prop:=
 ∃(m:Nat) (f':Nat->Prop),m<=all.length/\(s=true->m=all.length)/\J (pre++all.take m) s f' W'/\Am (λb=>f b∨g b) W W'/\∀b,f' b->f b∨W.heap.size<=b
theorem Cy.nil {α:Type} {J:Tk α} {pre:List α} {f g:Nat->Prop} {W:World} (h:J pre true f W):Cy J [] pre f g W true W:=
 ⟨0,f,Ai _,λ_=>rfl,by simpa using h,Am.refl _ _,λb hb=>Ad hb⟩
theorem Cy.one {α:Type} {J:Tk α} {pre:List α} {x:α} {f a g:Nat->Prop} {W W':World} {s:Bool} (h:J (pre++[x]) s a W') (he:Am f W W') (c:∀b,a b->f b∨W.heap.size<=b):Cy J [x] pre f g W s W':=
 ⟨1,a,by simp,λ_=>rfl,by simpa using h,he.mono λb hb _=>Ad hb,c⟩
theorem Cy.end_true {α:Type} {J:Tk α} {all pre:List α} {f g:Nat->Prop} {W W':World} (h:Cy J all pre f g W true W'):∃a,J (pre++all) true a W'/\Am (λb=>f b∨g b) W W'/\∀b,a b->f b∨W.heap.size<=b:=by
 obtain⟨m,a,hm,hs,hj,he,c⟩:=h;obtain rfl:=hs rfl;exact⟨a,by simpa using hj,he,c⟩
theorem Cy.trans {α:Type} {J:Tk α} {a1 a2 pre:List α} {f f1 g g2:Nat->Prop} {W a c:World} {s:Bool} (hj:J (pre++a1) true f1 a) (he:Am (λb=>f b∨g b) W a) (d:∀b,f1 b->f b∨W.heap.size<=b) (h:Cy J a2 (pre++a1) f1 g2 a s c) (e:∀b,g2 b->g b∨W.heap.size<=b):Cy J (a1++a2) pre f g W s c:=by
 obtain⟨m,j,hm,hs,aa,ab,k⟩:=h;refine⟨a1.length+m,j,by simp; omega,λh=>by simp[hs h],?_,he.transN ab ?_,?_⟩
 ·rw[List.take_append,AX (by omega)];simpa [Gz] using aa
 ·rintro i hi hl;rcases hi with hi|hi
  ·rcases d i hi with h|h
   ·exact Ad h
   ·omega
  ·rcases e i hi with h|h
   ·exact Ae h
   ·omega
 ·intro b hb;have:=he.size;rcases k b hb with h|h
  ·exact d b h
  ·right; omega
theorem Cy.stop {α:Type} {J:Tk α} {a1 a2 pre:List α} {f g:Nat->Prop} {W W':World} (h:Cy J a1 pre f g W false W'):Cy J (a1++a2) pre f g W false W':=by
 obtain⟨m,a,hm,hs,hj,he,b⟩:=h;exact⟨m,a,by simp; omega,by simp,by rw[G6 hm]; exact hj,he,b⟩
theorem Cy.mono {α:Type} {J:Tk α} {a pre:List α} {f g g':Nat->Prop} {W W':World} {s:Bool} (h:Cy J a pre f g W s W') (c:∀b,g b->b<W.heap.size->g' b):Cy J a pre f g' W s W':=by
 obtain⟨m,d,hm,hs,hj,he,e⟩:=h;exact⟨m,d,hm,hs,hj,he.mono λb hb i=>hb.imp id (λh=>c b h i),e⟩
theorem Cy.exq {α:Type} {J:Tk α} {a pre:List α} {f g:Nat->Prop} {W W':World} {s:Bool} (h:Cy J a pre f g W s W'):Am (λb=>f b∨g b) W W':=by
 obtain⟨_,_,_,_,_,he,_⟩:=h;exact he
theorem Cy.from {α:Type} {J:Tk α} {a pre:List α} {f g g':Nat->Prop} {W0 W W':World} {s:Bool} (h:Cy J a pre f g W s W') (he:Am g' W0 W) (c:∀b,g b->g' b∨W0.heap.size<=b):Cy J a pre f g' W0 s W':=by
 obtain⟨m,d,hm,hs,hj,aa,e⟩:=h;refine⟨m,d,hm,hs,hj,(he.mono (R:=λb=>f b∨g' b) λb hb _=>Ae hb).transN aa ?_,λb hb=>?_⟩
 ·rintro i hi hl;rcases hi with hi|hi
  ·exact Ad hi
  ·rcases c i hi with h|h
   ·exact Ae h
   ·omega
 ·have:=he.size;rcases e b hb with h|h
  ·exact Ad h
  ·right; omega
def P7 {α:Type} (J:Tk α) (all pre:List α) (f:Nat->Prop) (S:World->Prop) (w:World) (e:Ending) (w':World):Prop:=
 (∃v,e=.returned v)/\∃b,Cy J all pre f (λ_=>False) w b w'/\MS b (S w')
attribute [local go_sem] G7
theorem W9 {ops:Array Oper} {o:Oper} {a:Act} {K:Act->World->Prop} {Q:Exit->Act->World->Prop} {E:Prop} {W:World} {N:Nat} {u:Value} {hs:List Int} (aa:o.guard=none) (s x:Operand)
  (ho:o.op=.call { callee:=.builtin .append,args:=#[s,x],argTypes:=#[22,22]}) (ab:o.type=22) (c:a.eval s=u) (i:Int) (F:Nat) (hx:a.eval x=.slice (some (zD F 0)) 1 1)
  (h:W.ownsRow N 3 1 u hs.length (hs.map λz=>zA z)) (d:N<=W.heap.size) (hF:W.heap[F]? = some (.cells #[zA i] 3 (0,0))) (hn:hs.length<=1000000)
  (hk:∀b W',W'.ownsRow N 3 1 b (hs++[i]).length ((hs++[i]).map λz=>zA z)->W.grownBy W' u.ownBlock->Hk W W' u b hs.length->K (a.put o.dst b) W'):if Region.wanted o (yielded ops a.tmps)=true then Oper.wp prog o a W K Q else E:=by
 obtain⟨b,W',e,h1,h2,h3⟩:=WX h d i F hF hn;exact WW aa s x _ _ ho c hx (by rw[ab]; exact e) (hk b W' h1 h2 h3)
theorem CY.from {A:Nat} {w wr:World} {o:Obj} {N:Nat} {a q u:Value} {hs:List Int} {Y:Nat->Prop} {ps:List (List Int)} {xs:List Value} (h:CY A (w.alloc o) N a u hs Y ps q xs wr):CY A w N a u hs Y ps q xs wr:=by
 refine⟨h.1,h.2.1,h.2.2.1,(Cs.of_below ((Af _ _).alloc (Ai _) o) a u).trans h.2.2.2.1 (λk h=>Ad h) (λk h=>Ad h),λk hk=>?_⟩;rcases h.2.2.2.2 k hk with e|e
 ·exact Ad e
 ·right; simp at e; omega
theorem Xa (l:List Tm) (k:Nat) (h:k<l.length):1+Ab [l[k]]<=1+Ab l:=by
 have:=De l k h;have:=Df l (k+1);omega
