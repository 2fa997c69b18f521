import Derived.Test.YtlkeafenklamjaaGreatDoorW162a
namespace Go.Proofs.YtlkeafenklamjaaGreatDoor
set_option linter.all false
set_option maxRecDepth 20000
set_option maxHeartbeats 8000000
open Go.RowKit
theorem Jn {t x:Tm} {p:List Int} (hx:AR t p=some x) (v pv:Value) (w:World) (X:Nat->Prop) (hv:TV w X v t) (hp:PV w X pv p):
  Calls Tryz.prog 27 #[v,pv] w λe w'=>∃(a9:Option Addr) (c9:Nat),e=.returned (.tuple #[.agg #[.string x.name,.slice a9 x.args.length c9],.bool true])/\Sl w' X a9 x.args/\Below w.heap.size w w':=by
 refine(UF p t v pv w X hv hp).mono ?_
 rintro e w' ⟨v',rfl,aa,_,hb⟩
 obtain⟨a,c,rfl,hs⟩:=aa x hx
 rw[hx]
 exact⟨a,c,rfl,hs.later hb,hb⟩
theorem WK {rs:List Pr} {t:Tm} {aa:Option Addr} {ca:Nat} {u:Value} {w w1:World} {X:Nat->Prop} (hu:QV w X u rs) (hs:Sl w X aa t.args) (hb:Below (w.alloc (.cells #[.string t.name,.slice aa t.args.length ca] 29)).heap.size (w.alloc (.cells #[.string t.name,.slice aa t.args.length ca] 29)) w1) {g7:Nat} {ae:List Value} {Z:Nat->Prop} (hZ:∀b,Z b->w.heap.size<=b) (hr:Db w1 Z (Bq t) ae) (hg:g7<w1.heap.size) (hc:∀j u,ae[j]? = some u->w1.cell? ⟨g7,j,none⟩=some u):
  ∃fv,Dr (Gs (YB X w.heap.size w1.heap.size) rs t (Bq t) aa ca w.heap.size g7 fv u w1) w1:=by
 have af:=((Af w.heap.size w).alloc (Aj _) (.cells #[.string t.name,.slice aa t.args.length ca] 29)).trans (hb.mono (by simp))
 refine⟨λi=>(ae[i]?).getD (.bool false),WF ⟨(Ac.new w _ _).below hb (by simp),(hs.later af).mono λb hx h=>⟨h,Ad hx⟩,λi hi=>?_,(hu.later af).mono λb hx h=>⟨h,Ad hx⟩,Af _ _⟩ hg⟩
 obtain⟨u,h1,h2⟩:=hr.get i hi
 simp only[h1,Option.getD_some]
 exact⟨hc i u h1,h2.mono λb hx h=>⟨h,Ae (hZ b hx)⟩⟩
end Go.Proofs.YtlkeafenklamjaaGreatDoor
