import Derived.Test.YtgbcafaibocebaaGreatDoorW162a
namespace Go.Proofs.YtgbcafaibocebaaGreatDoor
set_option linter.all false
set_option maxRecDepth 20000
set_option maxHeartbeats 8000000
open Go.RowKit
theorem JX {t x:Tm} {p:List Int} (hx:AV t p=some x) (v b:Value) (w:World) (X:Nat->Prop) (hv:TV w X v t) (hp:PV w X b p):
  Calls Tryz.prog 38 #[v,b] w λe w'=>∃(a9:Option Addr) (c9:Nat),e=.returned (.tuple #[.agg (zF x a9 c9),.bool true])/\Sl w' X a9 x.args/\Below w.heap.size w w':=by
 refine(VE p t v b w X hv hp).mono ?_;rintro e w' ⟨v',rfl,aa,_,hb⟩;obtain⟨a,c,rfl,hs⟩:=aa x hx;rw[hx];exact⟨a,c,rfl,hs.later hb,hb⟩
theorem X8 {rs:List Pr} {t:Tm} {aa:Option Addr} {ca:Nat} {u:Value} {w w1:World} {X:Nat->Prop} (hu:QV w X u rs) (hs:Sl w X aa t.args) (hb:Below (w.alloc (.cells (zF t aa ca) 33)).heap.size (w.alloc (.cells (zF t aa ca) 33)) w1) {g7:Nat} {ab:List Value} {Z:Nat->Prop} (c:∀b,Z b->w.heap.size<=b) (d:Dl w1 Z (Bs t) ab) (e:g7<w1.heap.size) (hc:∀j u,ab[j]? = some u->w1.cell? (zD g7 j)=some u):
  ∃fv,DA (GQ (YB X w.heap.size w1.heap.size) rs t (Bs t) aa ca w.heap.size g7 fv u w1) w1:=by
 have a:=((Af w.heap.size w).alloc (Ai _) (.cells (zF t aa ca) 33)).trans (hb.mono (by simp));refine⟨λi=>(ab[i]?).getD (.bool false),Xg ⟨(Ac.new w _ _).below hb (by simp),(hs.later a).mono λb hx h=>⟨h,Ad hx⟩,λi hi=>?_,(hu.later a).mono λb hx h=>⟨h,Ad hx⟩,Af _ _⟩ e⟩;obtain⟨u,h1,h2⟩:=d.get i hi;simp only[h1,Option.getD_some];exact⟨hc i u h1,h2.mono λb hx h=>⟨h,Ae (c b hx)⟩⟩
