/- TopNewman holds at every call; no argument is changed.; no argument is changed.
   No condition beyond the given statement's own. -/
import Derived.Test.YthaililgaompeaaGreatDoorCards
import Derived.Test.YthaililgaompeaaGreatDoorTie
import Derived.Test.YthaililgaompeaaGreatDoorZOTopNewmanOwn
import Derived.ProofKit
import Derived.OpenShut
import Derived.ShutString
import Derived.ChangeOld
import Derived.Below
import Derived.LaidMore
import Derived.Stop.Joined
import Derived.SevenTiedAt
import Derived.Lib.LaidU8
namespace Go.Proofs.YthaililgaompeaaGreatDoor
set_option linter.all false
set_option maxRecDepth 20000
set_option maxHeartbeats 8000000
open Go.ChangeShapes Go.WideShapes Go.ChangeAt Go.RowKit
theorem Tryz.own:ownKnob Tryz.prog.godebug=none:=by kernel_rfl
theorem Tryz.laidOut:laidOutB Tryz.prog=true:=by kernel_rfl
theorem Tryz.pow10Var : Tryz.prog.globalNamed "internal/strconv.uint64pow10" = some 0 := by kernel_rfl
theorem Tryz.pow10Type:(Tryz.prog.globals[0]?).map (·.type)=some 226:=by kernel_rfl
theorem Tryz.pow10Cells:Tryz.prog.cellsOf 226=20:=by kernel_rfl
theorem Tryz.pow10Elem:Tryz.prog.cellsOf 195=1:=by kernel_rfl
theorem tJ {W:World} (h:laidMetH Tryz.prog Rows.topNewmanRow.laid W):Tb W.heap.size W:=by
 have h1:laidMet Tryz.prog Rows.topNewmanRow.laid W:=h;obtain ⟨g, t, cs, fuel, p, hg, ht, hv, hd⟩ := Lib.laidMet.reads h1 (n := "internal/strconv.uint64pow10") (d := Rows.laid_internal_strconv_uint64pow10) (by simp [Rows.topNewmanRow]);obtain rfl:=IP (Tryz.pow10Var.symm.trans hg);obtain rfl:=IP (Tryz.pow10Type.symm.trans ht);refine Lib.tabBelow_of_tabIs ?_;unfold Lib.TabIs;have hd':DataW.trod (λ_=>()) Tryz.prog W 0 (λ_=>true) false fuel 226 cs.toList=some (Lib.tabData .u64 Lib.pow10Tab,p):=hd;rw[hv,<-Lib.cells_of_tab Tryz.underlying226 Tryz.underlying195 Tryz.pow10Elem Tryz.pow10Cells hd']
theorem tK (os:Os) (args:Array Value):laidMetH Tryz.prog Rows.topNewmanRow.laid ((World.doorLaid Tryz.prog 24 os).forCall (λ_ _=>0) ⟨#[],args,[]⟩).memory:=
 laidMetH_of_parts3 (fuel:=8) (laidMet_of_run' 8 (by kernel_rfl) (by kernel_rfl)) (by kernel_rfl) (by kernel_rfl)
theorem tL (os:Os) (started:os.Started) (H:Type) (enc:TypeId×Value->H):
  ReturnsInHanded {} Tryz.checked os 3 .any (λw args=>(Rows.topNewmanSpec.pre enc Tryz.prog Tryz.f3 Rows.topNewmanRow.domain false w args/\laidMetH Tryz.prog Rows.topNewmanRow.laid w)/\sizedMet enc Tryz.prog Tryz.f3 (OpenSpec.ofChange Rows.topNewmanSpec) false w args)
   (Rows.topNewmanSpec.post enc Tryz.prog Tryz.f3 false true false false):=by
 refine returnsInHanded_of_change_and (C:=Tryz.checked) (X:=λw _=>laidMetH Tryz.prog Rows.topNewmanRow.laid w) (λ_ _ _ g h=>h.of_heap g) Tryz.own started (by kernel_rfl) Tryz.func3
  (ChangeSpec.witness_shaped (enc:=enc) (C:=Tryz.checked) (os:=os) (X:=λw _=>laidMetH Tryz.prog Rows.topNewmanRow.laid w) false (World.doorLaid Tryz.prog 24 os) #[zB,zA 0,zA 0,zA 0,zA 0] 8 rfl (World.shaped_of_RefB (by kernel_rfl) (by kernel_rfl)) (by kernel_rfl) (by kernel_rfl) (by kernel_rfl) (tK os _)) ?_
 intro W base args i gs before aa c _ _ k _;have hval:∀(j:Nat) t v,Tryz.f3.params[j]? = some t->args[j]? = some v->Value.okWide Tryz.prog W .any base t v:=aa;have l:=c;obtain⟨p,q,d,n,rfl,ao,aq⟩:=c;have f:DataW.TrodAll enc Tryz.prog W 0 (λ_=>true) true Tryz.f3.params.toList args.toList i p:=d;rw[Tryz.params3]at f hval;obtain⟨v0,ar,d0,au,o,q0,af,rfl,rfl,h0,r⟩:=trodAll_cons f;obtain⟨v1,av,d1,aw,s,q1,rfl,rfl,rfl,h1,u⟩:=trodAll_cons r;obtain⟨v2,ax,d2,ay,y,q2,rfl,rfl,rfl,h2,z⟩:=trodAll_cons u;obtain⟨v3,az,d3,a1,A,q3,rfl,rfl,rfl,h3,B⟩:=trodAll_cons z;obtain⟨v4,a6,d4,a7,D,q4,rfl,rfl,rfl,b,E⟩:=trodAll_cons B;obtain⟨rfl,rfl,rfl⟩:=trodAll_nil E;obtain rfl:args=#[v0,v1,v2,v3,v4]:=by cases args; simp_all
 obtain⟨rfl,rfl⟩:=trodVars_none n;have F:∀x∈o,x.block<W.heap.size:=by obtain⟨m,hm⟩:=h0; exact DataW.trod_lt m _ _ _ hm
 have G:∀x∈s,x.block<W.heap.size:=by obtain⟨m,hm⟩:=h1; exact DataW.trod_lt m _ _ _ hm
 have I:∀x∈y,x.block<W.heap.size:=by obtain⟨m,hm⟩:=h2; exact DataW.trod_lt m _ _ _ hm
 have J:∀x∈A,x.block<W.heap.size:=by obtain⟨m,hm⟩:=h3; exact DataW.trod_lt m _ _ _ hm
 have L:∀x∈D,x.block<W.heap.size:=by obtain⟨m,hm⟩:=b; exact DataW.trod_lt m _ _ _ hm
 obtain⟨t0,g0,M⟩:=tI (hval 0 22 v0 rfl rfl) h0;obtain⟨t1,N,k1⟩:=NV (hval 1 3 v1 rfl rfl) h1;obtain⟨t2,O,k2⟩:=NV (hval 2 3 v2 rfl rfl) h2;obtain⟨t3,P,k3⟩:=NV (hval 3 3 v3 rfl rfl) h3;obtain⟨t4,R,T⟩:=NV (hval 4 3 v4 rfl rfl) b;clear d aa;have U:=tJ k;have ab:=tG W.heap.size t0 M t1 t2 t3 t4 k1 k2 k3 T v0 W _ g0 U (Al _);rw[<-N,<-O,<-P,<-R]at ab;refine ab.mono λe W' ⟨he,a⟩=>?_;subst he;exact⟨_,rfl,_,_,_,[],_,[],l,trodAll_mk1 (shut_bool Tryz.underlying4 _),(trodAll_cons_mk (Below.trod Tryz.laidOut (by kernel_rfl) (Mf (by kernel_rfl)) h0 a F) (trodAll_cons_mk (Below.trod Tryz.laidOut (by kernel_rfl) (Mf (by kernel_rfl)) h1 a G) (trodAll_cons_mk (Below.trod Tryz.laidOut (by kernel_rfl) (Mf (by kernel_rfl)) h2 a I) (trodAll_cons_mk (Below.trod Tryz.laidOut (by kernel_rfl) (Mf (by kernel_rfl)) h3 a J) (trodAll_cons_mk (Below.trod Tryz.laidOut (by kernel_rfl) (Mf (by kernel_rfl)) b a L) trodAll_mk0))))),rfl,a.frame _,λh=>by cases h⟩
theorem tM:Rows.TopNewmanSaid:=
 OpenClaim.holds_of_wide 3 Tryz.f3 rfl rfl rfl rfl rfl rfl rfl ⟨rfl,rfl,rfl,rfl,rfl⟩ rfl rfl rfl rfl rfl (by kernel_rfl) Tryz.func3 (by kernel_rfl)
  (Mf (by kernel_rfl)) (by unfold Func.isWrapper; first|(rw[Ao (by decide +kernel)]; kernel_rfl)|(rw[Ah (by decide +kernel)]; exact⟨rfl,rfl⟩))
  (λos started H enc _=>tL os started H enc)
theorem tN (g : FuncId) (fn : Func) (hf : Tryz.pinned.checked.prog.funcNamed "metaprune/metaprunetop.TopNewman" = some g) (hfn : Tryz.pinned.checked.prog.funcs[g]? = some fn) :
  false=Tryz.pinned.checked.prog.looks []/\∀(j:Nat) t,fn.params[j]? = some t->Tryz.pinned.checked.prog.wantsStandIn t=false:=by
 obtain rfl : g = 3 := IP ((show Tryz.prog.funcNamed "metaprune/metaprunetop.TopNewman" = some 3 by kernel_rfl).symm.trans hf) |>.symm;obtain rfl:fn=Tryz.f3:=(IP (Tryz.func3.symm.trans hfn)).symm;refine⟨by kernel_rfl,λj t ht=>?_⟩;rw[Tryz.params3]at ht;have hm:t∈[22,3,3,3,3]:=by simpa using Array.mem_of_getElem? ht
 have hall:([22,3,3,3,3].all λu=>!Tryz.prog.wantsStandIn u)=true:=by kernel_rfl
 exact(show Tryz.prog.wantsStandIn t=false by simpa using GR.1 hall t hm)
theorem topNewman_card:Rows.TopNewmanCardSaid:=
 Claim7.holds_tied_plain_at .later [] _ _ _ _ tM (λ_ h=>by cases h) (by kernel_rfl) (λ_ h=>by cases h) topNewman_row_tie rfl ⟨rfl,rfl⟩ (by kernel_rfl) rfl tN (by kernel_rfl)
