/- LongMade holds at every call; no argument is changed.; no argument is changed.
   No condition beyond the given statement's own. -/
import Derived.Test.YtacmmcnnhfmepaaGreatDoorCards
import Derived.Test.YtacmmcnnhfmepaaGreatDoorTie
import Derived.Test.YtacmmcnnhfmepaaGreatDoorLg17
import Derived.ProofKit
import Derived.OpenShut
import Derived.ShutString
import Derived.ChangeOld
import Derived.Below
import Derived.LaidMore
import Derived.Stop.Joined
import Derived.SevenTiedAt
import Derived.Lib.LaidU8
namespace Go.Proofs.YtacmmcnnhfmepaaGreatDoor
set_option linter.all false
set_option maxRecDepth 20000
set_option maxHeartbeats 8000000
open Go.ChangeShapes Go.WideShapes Go.ChangeAt Go.RowKit
theorem Tryz.own:ownKnob Tryz.prog.godebug=none:=by kernel_rfl
theorem Tryz.laidOut:laidOutB Tryz.prog=true:=by kernel_rfl
theorem Tryz.pow10Var : Tryz.prog.globalNamed "internal/strconv.uint64pow10" = some 0 := by kernel_rfl
theorem Tryz.pow10Type:(Tryz.prog.globals[0]?).map (·.type)=some 215:=by kernel_rfl
theorem Tryz.pow10Cells:Tryz.prog.cellsOf 215=20:=by kernel_rfl
theorem Tryz.pow10Elem:Tryz.prog.cellsOf 201=1:=by kernel_rfl
theorem qW {W:World} (h:laidMetH Tryz.prog Rows.longMadeRow.laid W):Tb W.heap.size W:=by
 have h1:laidMet Tryz.prog Rows.longMadeRow.laid W:=h;obtain ⟨g, t, cs, fuel, p, hg, ht, hv, hd⟩ := Lib.laidMet.reads h1 (n := "internal/strconv.uint64pow10") (d := Rows.laid_internal_strconv_uint64pow10) (by simp [Rows.longMadeRow]);obtain rfl:=J8 (Tryz.pow10Var.symm.trans hg);obtain rfl:=J8 (Tryz.pow10Type.symm.trans ht);refine Lib.tabBelow_of_tabIs ?_;unfold Lib.TabIs;have hd':DataW.trod (λ_=>()) Tryz.prog W 0 (λ_=>true) false fuel 215 cs.toList=some (Lib.tabData .u64 Lib.pow10Tab,p):=hd;rw[hv,<-Lib.cells_of_tab Tryz.underlying215 Tryz.underlying201 Tryz.pow10Elem Tryz.pow10Cells hd']
theorem qX (os:Os) (args:Array Value):laidMetH Tryz.prog Rows.longMadeRow.laid ((World.doorLaid Tryz.prog 24 os).forCall (λ_ _=>0) ⟨#[],args,[]⟩).memory:=
 laidMetH_of_parts3 (fuel:=8) (laidMet_of_run' 8 (by kernel_rfl) (by kernel_rfl)) (by kernel_rfl) (by kernel_rfl)
theorem qY (os:Os) (started:os.Started) (H:Type) (enc:TypeId×Value->H):
  ReturnsInHanded {} Tryz.checked os 4 .any (λw args=>(Rows.longMadeSpec.pre enc Tryz.prog Tryz.f4 Rows.longMadeRow.domain false w args/\laidMetH Tryz.prog Rows.longMadeRow.laid w)/\sizedMet enc Tryz.prog Tryz.f4 (OpenSpec.ofChange Rows.longMadeSpec) false w args)
   (Rows.longMadeSpec.post enc Tryz.prog Tryz.f4 false true false false):=by
 refine returnsInHanded_of_change_and (C:=Tryz.checked) (X:=λw _=>laidMetH Tryz.prog Rows.longMadeRow.laid w) (λ_ _ _ i h=>h.of_heap i) Tryz.own started (by kernel_rfl) Tryz.func4
  (ChangeSpec.witness_shaped (enc:=enc) (C:=Tryz.checked) (os:=os) (X:=λw _=>laidMetH Tryz.prog Rows.longMadeRow.laid w) false (World.doorLaid Tryz.prog 24 os) #[zB,zA 0,zA 0,zA 0] 8 rfl (World.shaped_of_RefB (by kernel_rfl) (by kernel_rfl)) (by kernel_rfl) (by kernel_rfl) (by kernel_rfl) (qX os _)) ?_
 intro W base args k gs before b c _ _ l _;have hval:∀(j:Nat) t v,Tryz.f4.params[j]? = some t->args[j]? = some v->Value.okWide Tryz.prog W .any base t v:=b;have n:=c;obtain⟨p,q,d,o,rfl,an,ao⟩:=c;have f:DataW.TrodAll enc Tryz.prog W 0 (λ_=>true) true Tryz.f4.params.toList args.toList k p:=d;rw[Tryz.params4]at f hval;obtain⟨v0,aq,d0,ar,r,q0,af,rfl,rfl,h0,s⟩:=trodAll_cons f;obtain⟨v1,au,d1,av,u,q1,rfl,rfl,rfl,h1,y⟩:=trodAll_cons s;obtain⟨v2,aw,d2,ax,z,q2,rfl,rfl,rfl,h2,A⟩:=trodAll_cons y;obtain⟨v3,ay,d3,az,D,q3,rfl,rfl,rfl,h3,E⟩:=trodAll_cons A;obtain⟨rfl,rfl,rfl⟩:=trodAll_nil E;obtain rfl:args=#[v0,v1,v2,v3]:=by cases args; simp_all
 obtain⟨rfl,rfl⟩:=trodVars_none o;have F:∀x∈r,x.block<W.heap.size:=by obtain⟨m,hm⟩:=h0; exact DataW.trod_lt m _ _ _ hm
 have G:∀x∈u,x.block<W.heap.size:=by obtain⟨m,hm⟩:=h1; exact DataW.trod_lt m _ _ _ hm
 have I:∀x∈z,x.block<W.heap.size:=by obtain⟨m,hm⟩:=h2; exact DataW.trod_lt m _ _ _ hm
 have J:∀x∈D,x.block<W.heap.size:=by obtain⟨m,hm⟩:=h3; exact DataW.trod_lt m _ _ _ hm
 obtain⟨t0,g0,L⟩:=mZ (hval 0 47 v0 rfl rfl) h0;obtain⟨t1,e1,M⟩:=OS (hval 1 3 v1 rfl rfl) h1;obtain⟨t2,e2,N⟩:=OS (hval 2 3 v2 rfl rfl) h2;obtain⟨t3,e3,O⟩:=OS (hval 3 3 v3 rfl rfl) h3;clear d b;have P:=qW l;have g:=qV (B:=W.heap.size) t0 L t1 t2 t3 M N O v0 W _ g0 (Af _) P;rw[<-e1,<-e2,<-e3]at g;refine g.mono λe W' ⟨he,a⟩=>?_;subst he;exact⟨_,rfl,_,_,_,[],_,[],n,trodAll_mk1 (shut_bool Tryz.underlying4 _),(trodAll_cons_mk (Below.trod Tryz.laidOut (by kernel_rfl) (Kc (by kernel_rfl)) h0 a F) (trodAll_cons_mk (Below.trod Tryz.laidOut (by kernel_rfl) (Kc (by kernel_rfl)) h1 a G) (trodAll_cons_mk (Below.trod Tryz.laidOut (by kernel_rfl) (Kc (by kernel_rfl)) h2 a I) (trodAll_cons_mk (Below.trod Tryz.laidOut (by kernel_rfl) (Kc (by kernel_rfl)) h3 a J) trodAll_mk0)))),rfl,a.frame _,λh=>by cases h⟩
theorem qZ:Rows.LongMadeSaid:=
 OpenClaim.holds_of_wide 4 Tryz.f4 rfl rfl rfl rfl rfl rfl rfl ⟨rfl,rfl,rfl,rfl,rfl⟩ rfl rfl rfl rfl rfl (by kernel_rfl) Tryz.func4 (by kernel_rfl)
  (Kc (by kernel_rfl)) (by unfold Func.isWrapper; first|(rw[Aq (by decide +kernel)]; kernel_rfl)|(rw[Am (by decide +kernel)]; exact⟨rfl,rfl⟩))
  (λos started H enc _=>qY os started H enc)
theorem rA (g : FuncId) (fn : Func) (hf : Tryz.pinned.checked.prog.funcNamed "metaprune/metaprunelaw.LongMade" = some g) (hfn : Tryz.pinned.checked.prog.funcs[g]? = some fn) :
  false=Tryz.pinned.checked.prog.looks []/\∀(j:Nat) t,fn.params[j]? = some t->Tryz.pinned.checked.prog.wantsStandIn t=false:=by
 obtain rfl : g = 4 := J8 ((show Tryz.prog.funcNamed "metaprune/metaprunelaw.LongMade" = some 4 by kernel_rfl).symm.trans hf) |>.symm;obtain rfl:fn=Tryz.f4:=(J8 (Tryz.func4.symm.trans hfn)).symm;refine⟨by kernel_rfl,λj t ht=>?_⟩;rw[Tryz.params4]at ht;have hm:t∈[47,3,3,3]:=by simpa using Array.mem_of_getElem? ht
 have hall:([47,3,3,3].all λu=>!Tryz.prog.wantsStandIn u)=true:=by kernel_rfl
 exact(show Tryz.prog.wantsStandIn t=false by simpa using List.all_eq_true.1 hall t hm)
theorem longMade_card:Rows.LongMadeCardSaid:=
 Claim7.holds_tied_plain_at .later [] _ _ _ _ qZ (λ_ h=>by cases h) (by kernel_rfl) (λ_ h=>by cases h) longMade_row_tie rfl ⟨rfl,rfl⟩ (by kernel_rfl) rfl rA (by kernel_rfl)
