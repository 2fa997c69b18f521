/- For all rules and numbers of steps the law CriticalSays answers true: critical pairs, and whether all of them meet, are what the document says; no argument is changed.
   No condition beyond the given statement's own. -/
import Derived.Test.YtlkeafenklamjaaGreatDoorCards
import Derived.Test.YtlkeafenklamjaaGreatDoorTie
import Derived.Test.YtlkeafenklamjaaGreatDoorCz8
import Derived.ProofKit
import Derived.OpenShut
import Derived.ShutString
import Derived.ChangeOld
import Derived.Below
import Derived.LaidMore
import Derived.Stop.Joined
import Derived.SevenTiedAt
import Derived.Lib.LaidU8
namespace Go.Proofs.YtlkeafenklamjaaGreatDoor
set_option linter.all false
set_option maxRecDepth 20000
set_option maxHeartbeats 8000000
open Go.ChangeShapes Go.WideShapes Go.ChangeAt Go.RowKit
theorem Tryz.own:ownKnob Tryz.prog.godebug=none:=by kernel_rfl
theorem Tryz.laidOut:laidOutB Tryz.prog=true:=by kernel_rfl
theorem Tryz.pow10Var : Tryz.prog.globalNamed "internal/strconv.uint64pow10" = some 0 := by kernel_rfl
theorem Tryz.pow10Type:(Tryz.prog.globals[0]?).map (·.type)=some 183:=by kernel_rfl
theorem Tryz.pow10Cells:Tryz.prog.cellsOf 183=20:=by kernel_rfl
theorem Tryz.pow10Elem:Tryz.prog.cellsOf 156=1:=by kernel_rfl
theorem kG {W:World} (h:laidMetH Tryz.prog Rows.criticalSaysRow.laid W):Tb W.heap.size W:=by
 have h1:laidMet Tryz.prog Rows.criticalSaysRow.laid W:=h
 obtain ⟨g, t, cs, fuel, p, hg, ht, hv, hd⟩ := Lib.laidMet.reads h1 (n := "internal/strconv.uint64pow10") (d := Rows.laid_internal_strconv_uint64pow10) (by simp [Rows.criticalSaysRow])
 obtain rfl:=Hf (Tryz.pow10Var.symm.trans hg)
 obtain rfl:=Hf (Tryz.pow10Type.symm.trans ht)
 refine Lib.tabBelow_of_tabIs ?_
 unfold Lib.TabIs
 have hd':DataW.trod (λ_=>()) Tryz.prog W 0 (λ_=>true) false fuel 183 cs.toList=some (Lib.tabData .u64 Lib.pow10Tab,p):=hd
 rw[hv,<-Lib.cells_of_tab Tryz.underlying183 Tryz.underlying156 Tryz.pow10Elem Tryz.pow10Cells hd']
theorem kH (os:Os) (args:Array Value):laidMetH Tryz.prog Rows.criticalSaysRow.laid ((World.doorLaid Tryz.prog 24 os).forCall (λ_ _=>0) ⟨#[],args,[]⟩).memory:=
 laidMetH_of_parts3 (fuel:=8) (laidMet_of_run' 8 (by kernel_rfl) (by kernel_rfl)) (by kernel_rfl) (by kernel_rfl)
theorem kI (os:Os) (started:os.Started) (H:Type) (enc:TypeId×Value->H):
  ReturnsInHanded {} Tryz.checked os 3 .any (λw args=>(Rows.criticalSaysSpec.pre enc Tryz.prog Tryz.f3 Rows.criticalSaysRow.domain false w args/\laidMetH Tryz.prog Rows.criticalSaysRow.laid w)/\sizedMet enc Tryz.prog Tryz.f3 (OpenSpec.ofChange Rows.criticalSaysSpec) false w args)
   (Rows.criticalSaysSpec.post enc Tryz.prog Tryz.f3 false true false false):=by
 refine returnsInHanded_of_change_and (C:=Tryz.checked) (X:=λw _=>laidMetH Tryz.prog Rows.criticalSaysRow.laid w) (λ_ _ _ hh h=>h.of_heap hh) Tryz.own started (by kernel_rfl) Tryz.func3
  (ChangeSpec.witness_shaped (enc:=enc) (C:=Tryz.checked) (os:=os) (X:=λw _=>laidMetH Tryz.prog Rows.criticalSaysRow.laid w) false (World.doorLaid Tryz.prog 24 os) #[.slice none 0 0,.int .i64 0] 8 rfl (World.shaped_of_RefB (by kernel_rfl) (by kernel_rfl)) (by kernel_rfl) (by kernel_rfl) (by kernel_rfl) (kH os _)) ?_
 intro W base args ds gs before aa hW _ _ hL _
 have hval:∀(j:Nat) t v,Tryz.f3.params[j]? = some t->args[j]? = some v->Value.okWide Tryz.prog W .any base t v:=aa
 have ai:=hW
 obtain⟨p,q,ag,hV,rfl,aq,ar⟩:=hW
 have hA:DataW.TrodAll enc Tryz.prog W 0 (λ_=>true) true Tryz.f3.params.toList args.toList ds p:=ag
 rw[Tryz.params3]at hA hval
 obtain⟨v0,au,d0,av,p0,q0,ah,rfl,rfl,h0,r0⟩:=trodAll_cons hA
 obtain⟨v1,aw,d1,ax,p1,q1,rfl,rfl,rfl,h1,r1⟩:=trodAll_cons r0
 obtain⟨rfl,rfl,rfl⟩:=trodAll_nil r1
 obtain rfl:args=#[v0,v1]:=by cases args; simp_all
 obtain⟨rfl,rfl⟩:=trodVars_none hV
 have aj:∀x∈p0,x.block<W.heap.size:=by obtain⟨m,hm⟩:=h0; exact DataW.trod_lt m _ _ _ hm
 have ak:∀x∈p1,x.block<W.heap.size:=by obtain⟨m,hm⟩:=h1; exact DataW.trod_lt m _ _ _ hm
 obtain⟨t0,g0⟩:=jG (hval 0 22 v0 rfl rfl) h0
 obtain⟨t1,rfl⟩:=okWide_int Tryz.underlying3 (hval 1 3 v1 rfl rfl)
 clear ag aa
 have ao:=kG hL
 have ae:=kE W.heap.size t0 t1 _ W (λ_=>True) (g0.mono λ_ _ _=>trivial) ao (Aj _)
 refine ae.mono λe W' ⟨he,af⟩=>?_
 subst he
 exact⟨_,rfl,_,_,_,[],_,[],ai,trodAll_mk1 (shut_bool Tryz.underlying4 _),(trodAll_cons_mk (Below.trod Tryz.laidOut (by kernel_rfl) (of_decide_eq_true (by kernel_rfl)) h0 af aj) (trodAll_cons_mk (Below.trod Tryz.laidOut (by kernel_rfl) (of_decide_eq_true (by kernel_rfl)) h1 af ak) trodAll_mk0)),rfl,af.frame _,λh=>by cases h⟩
theorem kJ:Rows.CriticalSaysSaid:=
 OpenClaim.holds_of_wide 3 Tryz.f3 rfl rfl rfl rfl rfl rfl rfl ⟨rfl,rfl,rfl,rfl,rfl⟩ rfl rfl rfl rfl rfl (by kernel_rfl) Tryz.func3 (by kernel_rfl)
  (of_decide_eq_true (by kernel_rfl)) (by unfold Func.isWrapper; first|(rw[As (by decide +kernel)]; kernel_rfl)|(rw[An (by decide +kernel)]; exact⟨rfl,rfl⟩))
  (λos started H enc _=>kI os started H enc)
theorem kK (g : FuncId) (fn : Func) (hf : Tryz.pinned.checked.prog.funcNamed "metaprune/metaprunelaw.CriticalSays" = some g) (hfn : Tryz.pinned.checked.prog.funcs[g]? = some fn) :
  false=Tryz.pinned.checked.prog.looks []/\∀(j:Nat) t,fn.params[j]? = some t->Tryz.pinned.checked.prog.wantsStandIn t=false:=by
 obtain rfl : g = 3 := Hf ((show Tryz.prog.funcNamed "metaprune/metaprunelaw.CriticalSays" = some 3 by kernel_rfl).symm.trans hf) |>.symm
 obtain rfl:fn=Tryz.f3:=(Hf (Tryz.func3.symm.trans hfn)).symm
 refine⟨by kernel_rfl,λj t ht=>?_⟩
 rw[Tryz.params3]at ht
 have hm:t∈[22,3]:=by simpa using Array.mem_of_getElem? ht
 have hall:([22,3].all λu=>!Tryz.prog.wantsStandIn u)=true:=by kernel_rfl
 exact(show Tryz.prog.wantsStandIn t=false by simpa using G8.1 hall t hm)
theorem criticalSays_card:Rows.CriticalSaysCardSaid:=
 Claim7.holds_tied_plain_at .later [] _ _ _ _ kJ (λ_ h=>by cases h) (by kernel_rfl) (λ_ h=>by cases h) criticalSays_row_tie rfl ⟨rfl,rfl⟩ (by kernel_rfl) rfl kK (by kernel_rfl)
end Go.Proofs.YtlkeafenklamjaaGreatDoor
