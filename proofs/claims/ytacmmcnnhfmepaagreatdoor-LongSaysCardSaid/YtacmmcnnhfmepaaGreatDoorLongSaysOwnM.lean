/- LongSays holds at every call; no argument is changed.; no argument is changed.
   No condition beyond the given statement's own. -/
import Derived.Test.YtacmmcnnhfmepaaGreatDoorCards
import Derived.Test.YtacmmcnnhfmepaaGreatDoorTie
import Derived.Test.YtacmmcnnhfmepaaGreatDoorLg15
import Derived.ProofKit
import Derived.OpenShut
import Derived.ShutString
import Derived.ChangeOld
import Derived.Below
import Derived.LaidMore
import Derived.Stop.Joined
import Derived.SevenTiedAt
import Derived.Lib.LaidU8
namespace Go.Proofs.YtacmmcnnhfmepaaGreatDoor
set_option linter.all false
set_option maxRecDepth 20000
set_option maxHeartbeats 8000000
open Go.ChangeShapes Go.WideShapes Go.ChangeAt Go.RowKit
theorem Tryz.own:ownKnob Tryz.prog.godebug=none:=by kernel_rfl
theorem Tryz.laidOut:laidOutB Tryz.prog=true:=by kernel_rfl
theorem Tryz.pow10Var : Tryz.prog.globalNamed "internal/strconv.uint64pow10" = some 0 := by kernel_rfl
theorem Tryz.pow10Type:(Tryz.prog.globals[0]?).map (·.type)=some 215:=by kernel_rfl
theorem Tryz.pow10Cells:Tryz.prog.cellsOf 215=20:=by kernel_rfl
theorem Tryz.pow10Elem:Tryz.prog.cellsOf 201=1:=by kernel_rfl
theorem mT {W:World} (h:laidMetH Tryz.prog Rows.longSaysRow.laid W):Tb W.heap.size W:=by
 have h1:laidMet Tryz.prog Rows.longSaysRow.laid W:=h;obtain ⟨g, t, cs, fuel, p, hg, ht, hv, hd⟩ := Lib.laidMet.reads h1 (n := "internal/strconv.uint64pow10") (d := Rows.laid_internal_strconv_uint64pow10) (by simp [Rows.longSaysRow]);obtain rfl:=JO (Tryz.pow10Var.symm.trans hg);obtain rfl:=JO (Tryz.pow10Type.symm.trans ht);refine Lib.tabBelow_of_tabIs ?_;unfold Lib.TabIs;have hd':DataW.trod (λ_=>()) Tryz.prog W 0 (λ_=>true) false fuel 215 cs.toList=some (Lib.tabData .u64 Lib.pow10Tab,p):=hd;rw[hv,<-Lib.cells_of_tab Tryz.underlying215 Tryz.underlying201 Tryz.pow10Elem Tryz.pow10Cells hd']
theorem mU (os:Os) (args:Array Value):laidMetH Tryz.prog Rows.longSaysRow.laid ((World.doorLaid Tryz.prog 24 os).forCall (λ_ _=>0) ⟨#[],args,[]⟩).memory:=
 laidMetH_of_parts3 (fuel:=8) (laidMet_of_run' 8 (by kernel_rfl) (by kernel_rfl)) (by kernel_rfl) (by kernel_rfl)
theorem mV (os:Os) (started:os.Started) (H:Type) (enc:TypeId×Value->H):
  ReturnsInHanded {} Tryz.checked os 3 .any (λw args=>(Rows.longSaysSpec.pre enc Tryz.prog Tryz.f3 Rows.longSaysRow.domain false w args/\laidMetH Tryz.prog Rows.longSaysRow.laid w)/\sizedMet enc Tryz.prog Tryz.f3 (OpenSpec.ofChange Rows.longSaysSpec) false w args)
   (Rows.longSaysSpec.post enc Tryz.prog Tryz.f3 false true false false):=by
 refine returnsInHanded_of_change_and (C:=Tryz.checked) (X:=λw _=>laidMetH Tryz.prog Rows.longSaysRow.laid w) (λ_ _ _ g h=>h.of_heap g) Tryz.own started (by kernel_rfl) Tryz.func3
  (ChangeSpec.witness_shaped (enc:=enc) (C:=Tryz.checked) (os:=os) (X:=λw _=>laidMetH Tryz.prog Rows.longSaysRow.laid w) false (World.doorLaid Tryz.prog 24 os) #[.agg zJ,.agg #[zA 0,zB],zA 0] 8 rfl (World.shaped_of_RefB (by kernel_rfl) (by kernel_rfl)) (by kernel_rfl) (by kernel_rfl) (by kernel_rfl) (mU os _)) ?_
 intro W base args i gs before b c _ _ k _;have hval:∀(j:Nat) t v,Tryz.f3.params[j]? = some t->args[j]? = some v->Value.okWide Tryz.prog W .any base t v:=b;have l:=c;obtain⟨p,q,d,n,rfl,al,an⟩:=c;have f:DataW.TrodAll enc Tryz.prog W 0 (λ_=>true) true Tryz.f3.params.toList args.toList i p:=d;rw[Tryz.params3]at f hval;obtain⟨v0,ao,d0,aq,o,q0,af,rfl,rfl,h0,r⟩:=trodAll_cons f;obtain⟨v1,ar,d1,au,s,q1,rfl,rfl,rfl,h1,u⟩:=trodAll_cons r;obtain⟨v2,av,d2,aw,y,q2,rfl,rfl,rfl,h2,z⟩:=trodAll_cons u;obtain⟨rfl,rfl,rfl⟩:=trodAll_nil z;obtain rfl:args=#[v0,v1,v2]:=by cases args; simp_all
 obtain⟨rfl,rfl⟩:=trodVars_none n;have A:∀x∈o,x.block<W.heap.size:=by obtain⟨m,hm⟩:=h0; exact DataW.trod_lt m _ _ _ hm
 have B:∀x∈s,x.block<W.heap.size:=by obtain⟨m,hm⟩:=h1; exact DataW.trod_lt m _ _ _ hm
 have D:∀x∈y,x.block<W.heap.size:=by obtain⟨m,hm⟩:=h2; exact DataW.trod_lt m _ _ _ hm
 obtain⟨t0,g0⟩:=XZ (hval 0 24 v0 rfl rfl) h0;obtain⟨t1,g1⟩:=kW (hval 1 27 v1 rfl rfl) h1;obtain⟨t2,rfl⟩:=okWide_int Tryz.underlying3 (hval 2 3 v2 rfl rfl);clear d b;have E:=mT k;have F:=mS t0 t1 t2 _ _ W (λ_=>True) (λ_=>True) (g0.mono λ_ _ _=>trivial) (g1.mono λ_ _ _=>trivial) (Ag _) E;refine F.mono λe W' ⟨he,a⟩=>?_;subst he;exact⟨_,rfl,_,_,_,[],_,[],l,trodAll_mk1 (shut_bool Tryz.underlying4 _),(trodAll_cons_mk (Below.trod Tryz.laidOut (by kernel_rfl) (KL (by kernel_rfl)) h0 a A) (trodAll_cons_mk (Below.trod Tryz.laidOut (by kernel_rfl) (KL (by kernel_rfl)) h1 a B) (trodAll_cons_mk (Below.trod Tryz.laidOut (by kernel_rfl) (KL (by kernel_rfl)) h2 a D) trodAll_mk0))),rfl,a.frame _,λh=>by cases h⟩
theorem mW:Rows.LongSaysSaid:=
 OpenClaim.holds_of_wide 3 Tryz.f3 rfl rfl rfl rfl rfl rfl rfl ⟨rfl,rfl,rfl,rfl,rfl⟩ rfl rfl rfl rfl rfl (by kernel_rfl) Tryz.func3 (by kernel_rfl)
  (KL (by kernel_rfl)) (by unfold Func.isWrapper; first|(rw[Aq (by decide +kernel)]; kernel_rfl)|(rw[Am (by decide +kernel)]; exact⟨rfl,rfl⟩))
  (λos started H enc _=>mV os started H enc)
theorem mX (g : FuncId) (fn : Func) (hf : Tryz.pinned.checked.prog.funcNamed "metaprune/metaprunelaw.LongSays" = some g) (hfn : Tryz.pinned.checked.prog.funcs[g]? = some fn) :
  false=Tryz.pinned.checked.prog.looks []/\∀(j:Nat) t,fn.params[j]? = some t->Tryz.pinned.checked.prog.wantsStandIn t=false:=by
 obtain rfl : g = 3 := JO ((show Tryz.prog.funcNamed "metaprune/metaprunelaw.LongSays" = some 3 by kernel_rfl).symm.trans hf) |>.symm;obtain rfl:fn=Tryz.f3:=(JO (Tryz.func3.symm.trans hfn)).symm;refine⟨by kernel_rfl,λj t ht=>?_⟩;rw[Tryz.params3]at ht;have hm:t∈[24,27,3]:=by simpa using Array.mem_of_getElem? ht
 have hall:([24,27,3].all λu=>!Tryz.prog.wantsStandIn u)=true:=by kernel_rfl
 exact(show Tryz.prog.wantsStandIn t=false by simpa using List.all_eq_true.1 hall t hm)
theorem longSays_card:Rows.LongSaysCardSaid:=
 Claim7.holds_tied_plain_at .later [] _ _ _ _ mW (λ_ h=>by cases h) (by kernel_rfl) (λ_ h=>by cases h) longSays_row_tie rfl ⟨rfl,rfl⟩ (by kernel_rfl) rfl mX (by kernel_rfl)
