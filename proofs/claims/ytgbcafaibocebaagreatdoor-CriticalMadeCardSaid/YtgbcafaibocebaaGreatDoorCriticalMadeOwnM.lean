/- CriticalMade holds at every call; no argument is changed.; no argument is changed.
   No condition beyond the given statement's own. -/
import Derived.Test.YtgbcafaibocebaaGreatDoorCards
import Derived.Test.YtgbcafaibocebaaGreatDoorTie
import Derived.Test.YtgbcafaibocebaaGreatDoorZMCriticalMadeOwn
import Derived.ProofKit
import Derived.OpenShut
import Derived.ShutString
import Derived.ChangeOld
import Derived.Below
import Derived.LaidMore
import Derived.Stop.Joined
import Derived.SevenTiedAt
import Derived.Lib.LaidU8
namespace Go.Proofs.YtgbcafaibocebaaGreatDoor
set_option linter.all false
set_option maxRecDepth 20000
set_option maxHeartbeats 8000000
open Go.ChangeShapes Go.WideShapes Go.ChangeAt Go.RowKit
theorem Tryz.own:ownKnob Tryz.prog.godebug=none:=by kernel_rfl
theorem Tryz.laidOut:laidOutB Tryz.prog=true:=by kernel_rfl
theorem Tryz.pow10Var : Tryz.prog.globalNamed "internal/strconv.uint64pow10" = some 0 := by kernel_rfl
theorem Tryz.pow10Type:(Tryz.prog.globals[0]?).map (·.type)=some 195:=by kernel_rfl
theorem Tryz.pow10Cells:Tryz.prog.cellsOf 195=20:=by kernel_rfl
theorem Tryz.pow10Elem:Tryz.prog.cellsOf 168=1:=by kernel_rfl
theorem nK {W:World} (h:laidMetH Tryz.prog Rows.criticalMadeRow.laid W):Tb W.heap.size W:=by
 have h1:laidMet Tryz.prog Rows.criticalMadeRow.laid W:=h;obtain ⟨g, t, cs, fuel, p, hg, ht, hv, hd⟩ := Lib.laidMet.reads h1 (n := "internal/strconv.uint64pow10") (d := Rows.laid_internal_strconv_uint64pow10) (by simp [Rows.criticalMadeRow]);obtain rfl:=H6 (Tryz.pow10Var.symm.trans hg);obtain rfl:=H6 (Tryz.pow10Type.symm.trans ht);refine Lib.tabBelow_of_tabIs ?_;unfold Lib.TabIs;have hd':DataW.trod (λ_=>()) Tryz.prog W 0 (λ_=>true) false fuel 195 cs.toList=some (Lib.tabData .u64 Lib.pow10Tab,p):=hd;rw[hv,<-Lib.cells_of_tab Tryz.underlying195 Tryz.underlying168 Tryz.pow10Elem Tryz.pow10Cells hd']
theorem nL (os:Os) (args:Array Value):laidMetH Tryz.prog Rows.criticalMadeRow.laid ((World.doorLaid Tryz.prog 24 os).forCall (λ_ _=>0) ⟨#[],args,[]⟩).memory:=
 laidMetH_of_parts3 (fuel:=8) (laidMet_of_run' 8 (by kernel_rfl) (by kernel_rfl)) (by kernel_rfl) (by kernel_rfl)
theorem nN (os:Os) (started:os.Started) (H:Type) (enc:TypeId×Value->H):
  ReturnsInHanded {} Tryz.checked os 3 .any (λw args=>(Rows.criticalMadeSpec.pre enc Tryz.prog Tryz.f3 Rows.criticalMadeRow.domain false w args/\laidMetH Tryz.prog Rows.criticalMadeRow.laid w)/\sizedMet enc Tryz.prog Tryz.f3 (OpenSpec.ofChange Rows.criticalMadeSpec) false w args)
   (Rows.criticalMadeSpec.post enc Tryz.prog Tryz.f3 false true false false):=by
 refine returnsInHanded_of_change_and (C:=Tryz.checked) (X:=λw _=>laidMetH Tryz.prog Rows.criticalMadeRow.laid w) (λ_ _ _ f h=>h.of_heap f) Tryz.own started (by kernel_rfl) Tryz.func3
  (ChangeSpec.witness_shaped (enc:=enc) (C:=Tryz.checked) (os:=os) (X:=λw _=>laidMetH Tryz.prog Rows.criticalMadeRow.laid w) false (World.doorLaid Tryz.prog 24 os) #[zB,zA 0,zA 0,zA 0] 8 rfl (World.shaped_of_RefB (by kernel_rfl) (by kernel_rfl)) (by kernel_rfl) (by kernel_rfl) (by kernel_rfl) (nL os _)) ?_
 intro W base args g gs before aa b _ _ i _;have hval:∀(j:Nat) t v,Tryz.f3.params[j]? = some t->args[j]? = some v->Value.okWide Tryz.prog W .any base t v:=aa;have k:=b;obtain⟨p,q,c,l,rfl,an,ao⟩:=b;have d:DataW.TrodAll enc Tryz.prog W 0 (λ_=>true) true Tryz.f3.params.toList args.toList g p:=c;rw[Tryz.params3]at d hval;obtain⟨v0,aq,d0,ar,n,q0,af,rfl,rfl,h0,o⟩:=trodAll_cons d;obtain⟨v1,au,d1,av,r,q1,rfl,rfl,rfl,h1,s⟩:=trodAll_cons o;obtain⟨v2,aw,d2,ax,u,q2,rfl,rfl,rfl,h2,y⟩:=trodAll_cons s;obtain⟨v3,ay,d3,az,z,q3,rfl,rfl,rfl,h3,A⟩:=trodAll_cons y;obtain⟨rfl,rfl,rfl⟩:=trodAll_nil A;obtain rfl:args=#[v0,v1,v2,v3]:=by cases args; simp_all
 obtain⟨rfl,rfl⟩:=trodVars_none l;have B:∀x∈n,x.block<W.heap.size:=by obtain⟨m,hm⟩:=h0; exact DataW.trod_lt m _ _ _ hm
 have D:∀x∈r,x.block<W.heap.size:=by obtain⟨m,hm⟩:=h1; exact DataW.trod_lt m _ _ _ hm
 have E:∀x∈u,x.block<W.heap.size:=by obtain⟨m,hm⟩:=h2; exact DataW.trod_lt m _ _ _ hm
 have F:∀x∈z,x.block<W.heap.size:=by obtain⟨m,hm⟩:=h3; exact DataW.trod_lt m _ _ _ hm
 obtain⟨t0,g0,G⟩:=nJ (hval 0 22 v0 rfl rfl) h0;obtain⟨t1,I,k1⟩:=Oe (hval 1 3 v1 rfl rfl) h1;obtain⟨t2,J,L⟩:=Oe (hval 2 3 v2 rfl rfl) h2;obtain⟨t3,M,N⟩:=Oe (hval 3 3 v3 rfl rfl) h3;clear c aa;have O:=nK i;have ab:=nH W.heap.size t0 G t1 t2 t3 k1 L N v0 W _ g0 O (Ai _);rw[<-I,<-J,<-M]at ab;refine ab.mono λe W' ⟨he,a⟩=>?_;subst he;exact⟨_,rfl,_,_,_,[],_,[],k,trodAll_mk1 (shut_bool Tryz.underlying4 _),(trodAll_cons_mk (Below.trod Tryz.laidOut (by kernel_rfl) (JE (by kernel_rfl)) h0 a B) (trodAll_cons_mk (Below.trod Tryz.laidOut (by kernel_rfl) (JE (by kernel_rfl)) h1 a D) (trodAll_cons_mk (Below.trod Tryz.laidOut (by kernel_rfl) (JE (by kernel_rfl)) h2 a E) (trodAll_cons_mk (Below.trod Tryz.laidOut (by kernel_rfl) (JE (by kernel_rfl)) h3 a F) trodAll_mk0)))),rfl,a.frame _,λh=>by cases h⟩
theorem nP:Rows.CriticalMadeSaid:=
 OpenClaim.holds_of_wide 3 Tryz.f3 rfl rfl rfl rfl rfl rfl rfl ⟨rfl,rfl,rfl,rfl,rfl⟩ rfl rfl rfl rfl rfl (by kernel_rfl) Tryz.func3 (by kernel_rfl)
  (JE (by kernel_rfl)) (by unfold Func.isWrapper; first|(rw[Ar (by decide +kernel)]; kernel_rfl)|(rw[Aj (by decide +kernel)]; exact⟨rfl,rfl⟩))
  (λos started H enc _=>nN os started H enc)
theorem nQ (g : FuncId) (fn : Func) (hf : Tryz.pinned.checked.prog.funcNamed "metaprune/metaprunelaw.CriticalMade" = some g) (hfn : Tryz.pinned.checked.prog.funcs[g]? = some fn) :
  false=Tryz.pinned.checked.prog.looks []/\∀(j:Nat) t,fn.params[j]? = some t->Tryz.pinned.checked.prog.wantsStandIn t=false:=by
 obtain rfl : g = 3 := H6 ((show Tryz.prog.funcNamed "metaprune/metaprunelaw.CriticalMade" = some 3 by kernel_rfl).symm.trans hf) |>.symm;obtain rfl:fn=Tryz.f3:=(H6 (Tryz.func3.symm.trans hfn)).symm;refine⟨by kernel_rfl,λj t ht=>?_⟩;rw[Tryz.params3]at ht;have hm:t∈[22,3,3,3]:=by simpa using Array.mem_of_getElem? ht
 have hall:([22,3,3,3].all λu=>!Tryz.prog.wantsStandIn u)=true:=by kernel_rfl
 exact(show Tryz.prog.wantsStandIn t=false by simpa using Hx.1 hall t hm)
theorem criticalMade_card:Rows.CriticalMadeCardSaid:=
 Claim7.holds_tied_plain_at .later [] _ _ _ _ nP (λ_ h=>by cases h) (by kernel_rfl) (λ_ h=>by cases h) criticalMade_row_tie rfl ⟨rfl,rfl⟩ (by kernel_rfl) rfl nQ (by kernel_rfl)
