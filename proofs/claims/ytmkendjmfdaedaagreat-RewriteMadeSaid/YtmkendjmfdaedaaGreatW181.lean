import Derived.Test.YtmkendjmfdaedaaGreatZRewriteMadeOwn
import Derived.Test.YtmkendjmfdaedaaGreatW180
import Derived.Deep.MidRow
import Derived.Test.YtmkendjmfdaedaaGreatZDRewriteMadeOwn
namespace Go.Proofs.YtmkendjmfdaedaaGreat
open Go.RowKit Go.Shelf
attribute [local go_sem] Oper.semAt_some
set_option linter.unusedSimpArgs false
set_option linter.unusedVariables false
set_option maxRecDepth 8000
theorem list_round {P : Program} {ops : Array Oper} {Q : Exit → Act → World → Prop} {l n : Nat} : ∀ (os : List Oper), (∀ o ∈ os, ∀ c, o.op ≠ .defer c) → ∀ {a : Act} {w : World}, wpList P ops (calmQ Q) os a w → wpListIn (Fence.wide.inRound l) n P ops Q os a w
 | [], _, a, w, h => h.2
 | o :: rest, hnd, a, w, h => by
  unfold wpList at h
  unfold wpListIn
  split at h
  next hw =>
   rw [if_pos hw]
   rcases h with h | h
   ·exact Oper.wpIn_mono (fun a' w' h' => list_round rest (fun o ho => hnd o (by simp [ho])) h') (oper_round (hnd o (by simp)) h)
   ·exact absurd h.2 (calmQ_out Q)
  next hw =>
   rw [if_neg hw]
   exact ⟨fun f _ => trivial, list_round rest (fun o ho => hnd o (by simp [ho])) h⟩
theorem sfst_stop {A B TA : Nat} {G : Nat → Prop} {all : List Ch} : StopOk (SFst LpC A B TA G all) := by
 rintro W W' ⟨y, cs, Z, h1, hA, hB, hl, hZ⟩ hz hk
 have hb : ∀ (b : Nat) (cs : Array Value) (T : TypeId) (z : Nat × Nat), W.heap[b]? = some (Obj.cells cs T z) → W'.heap[b]? = W.heap[b]? := fun b cs T z h => by
  rcases hk b (Array.getElem?_eq_some_iff.1 h).1 with h2 | ⟨r, h2⟩ | ⟨d, h2⟩
  ·exact h2
  ·rw [h] at h2; cases h2
  ·rw [h] at h2; cases h2
 refine ⟨y, cs, fun b => Z b ∧ Solid W b, h1, (hb _ _ _ _ hA).trans hA, (hb _ _ _ _ hB).trans hB, lpC_kept (lpC_solid hl) (fun b h => ?_), fun b h => ⟨by have := (hZ b h.1).1; omega, (hZ b h.1).2⟩⟩
 rcases hk b (hZ b h.1).1 with h3 | ⟨r, h3⟩ | ⟨d, h3⟩
 ·exact h3
 ·exact absurd h3 (h.2.1 r)
 ·exact absurd h3 (h.2.2 d)
set_option maxHeartbeats 4000000 in
theorem firstC_any (rs : List Pr) (t : Tm) (fs : List Int) (P R T F : Nat) (uv : Value) (aa : Option Addr) (ca : Nat) (fv : Value) (w : World) (X G : Nat → Prop) (hP : Blk w P #[.func (.func 86) #[] #[.pointer (some ⟨T, 0, none⟩), .pointer (some ⟨F, 0, none⟩)]] 98) (hR : Blk w R #[uv] 23) (hu : QV w X uv rs) (hT : Blk w T #[.string t.name, .slice aa t.args.length ca] 27) (hs : Sl w X aa t.args) (hF : Blk w F #[fv] 22) (hfv : PV w X fv fs) (hat : (atT t fs).isSome = true) (hX : ∀ b, X b → b < w.heap.size ∧ ¬ G b) (hG : ∀ b, G b → b < w.heap.size ∧ b ≠ R) (hz0 : sizeL [t] ≤ 800000) :
  Calls Tryz.prog 73 #[.func (.func 84) #[] #[.pointer (some ⟨P, 0, none⟩), .pointer (some ⟨R, 0, none⟩)]] w fun e w' => FsPost LpC #[.slice none 0 0, .string ⟨#[]⟩, .slice none 0 0, .string ⟨#[]⟩, .slice none 0 0, .map none] G (chL rs t fs) w e w' := by
 have HX := hide hX
 have HG := hide hG
 have HU := hide hu
 have HS := hide hs
 have HR := hide hR
 have HT := hide hT
 have HP := hide hP
 have HF := hide hF
 have HFV := hide hfv
 have HAT := hide hat
 have HZ0 := hide hz0
 clear hP hF hfv hat hz0
 clear hX hG hu hs hR hT
 refine (callsIn_wide (n := 3)).1 ?_
 refine callsIn_of_wp_marks Tryz.func73 rfl trivial ?_ rfl
 simp only [Tryz.ntmps73, List.size_toArray, List.length_cons, List.length_nil, Nat.reduceAdd, Nat.reduceSub, Array.replicate_succ, Array.replicate_zero, List.push_toArray, List.append_toArray, List.nil_append, List.cons_append]
 gi_wp2
 refine wp_range2 (gf := 84) (lb := #[.pointer (some ⟨P, 0, none⟩), .pointer (some ⟨R, 0, none⟩)]) rfl (enters_of Tryz.func84 (by kernel_rfl) rfl) ?_
 intro r hr1 hr2 hr3 hr4 hr5 hr6
 have hz2 : ((w.alloc (.cells #[.slice none 0 0, .string ⟨#[]⟩, .slice none 0 0, .string ⟨#[]⟩, .slice none 0 0, .map none] 104)).alloc (.cells #[.bool false] 4)).heap.size = w.heap.size + 2 := by simp
 rw [hz2]
 have e21 : w.heap.size + 2 + 1 = w.heap.size + 3 := rfl
 rw [e21]
 clear e21
 have hW4 : ((((w.alloc (.cells #[.slice none 0 0, .string ⟨#[]⟩, .slice none 0 0, .string ⟨#[]⟩, .slice none 0 0, .map none] 104)).alloc (.cells #[.bool false] 4)).alloc (.deferred (some []))).alloc (.loop r)) = allocs w [(.cells #[.slice none 0 0, .string ⟨#[]⟩, .slice none 0 0, .string ⟨#[]⟩, .slice none 0 0, .map none] 104 : Obj), (.cells #[.bool false] 4 : Obj), (.deferred (some []) : Obj), (.loop r : Obj)] := rfl
 have HAF := hide (allocs_facts [(.cells #[.slice none 0 0, .string ⟨#[]⟩, .slice none 0 0, .string ⟨#[]⟩, .slice none 0 0, .map none] 104 : Obj), (.cells #[.bool false] 4 : Obj), (.deferred (some []) : Obj), (.loop r : Obj)] w)
 rw [← hW4] at HAF
 clear hW4
 generalize ((((w.alloc (.cells #[.slice none 0 0, .string ⟨#[]⟩, .slice none 0 0, .string ⟨#[]⟩, .slice none 0 0, .map none] 104)).alloc (.cells #[.bool false] 4)).alloc (.deferred (some []))).alloc (.loop r)) = W5 at *
 have hz5 : W5.heap.size = w.heap.size + 4 := HAF.out.2.1
 have HB5 : Hid (Below w.heap.size w W5) := HAF.out.1
 have H0 : Hid (Blk W5 w.heap.size #[.slice none 0 0, .string ⟨#[]⟩, .slice none 0 0, .string ⟨#[]⟩, .slice none 0 0, .map none] 104) := HAF.out.2.2 0 _ rfl
 have H1 : Hid (Blk W5 (w.heap.size + 1) #[.bool false] 4) := HAF.out.2.2 1 _ rfl
 have H2 : Hid (W5.heap[w.heap.size + 2]? = some (.deferred (some []))) := HAF.out.2.2 2 _ rfl
 have H3 : Hid (W5.heap[w.heap.size + 3]? = some (.loop r)) := HAF.out.2.2 3 _ rfl
 clear HAF
 obtain ⟨rd, hrd⟩ : ∃ rd : Loop, rd = { r with state := .done, pending := some .ret } := ⟨_, rfl⟩
 obtain ⟨rb, hrb⟩ : ∃ rb : Loop, rb = { r with state := .busy } := ⟨_, rfl⟩
 have RH : RndS (w.heap.size + 3) LpC (JF (α := Ch) w.heap.size (w.heap.size + 1) (w.heap.size + 3) 104 #[.slice none 0 0, .string ⟨#[]⟩, .slice none 0 0, .string ⟨#[]⟩, .slice none 0 0, .map none] G r rd W5) (chL rs t fs) (SFst LpC w.heap.size (w.heap.size + 1) 104 G (chL rs t fs)) := by
  have HR1 := hide hr1
  have HR2 := hide hr2
  have HR3 := hide hr3
  have HR4 := hide hr4
  have HR5 := hide hr5
  have HR6 := hide hr6
  clear hr1 hr2 hr3 hr4 hr5 hr6 hz2
  intro n pre x args Z f W hpfx hj hl hZ
  obtain ⟨hf, hGz, hzW, hC, hL, hA, hB, hs0⟩ := hj
  obtain ⟨rfl, hAB, hBB⟩ := hs0 rfl
  rw [List.nil_append] at hpfx
  simp only [if_true] at hL
  obtain ⟨ua, uc, xa, xc, ra, rc, q, Lm, rfl, hpu, hxs, hra, hq, hen⟩ := hl
  have HLP : Hid (∀ W', (∀ b, Z b → W'.heap[b]? = W.heap[b]?) → LpC x #[.agg #[.slice ua x.1.1.length uc, .string x.1.2.name, .slice xa x.1.2.args.length xc, .string x.2.1.r.name, .slice ra x.2.1.r.args.length rc, .map (some q)]] W' Z) := fun W' k9 => ⟨ua, uc, xa, xc, ra, rc, q, Lm, rfl, hpu.kept k9, hxs.kept k9, hra.kept k9, hq, hen.1.kept (k9 q hq), hen.2.imp fun a l hs => hs.kept k9⟩
  have HPF := hide hpfx
  have HFF := hide hf
  have HGZ := hide hGz
  have HC := hide hC
  have HZ := hide hZ
  have HA := hide hAB
  have HB := hide hBB
  have hlL : w.heap.size + 3 < W.heap.size := (Array.getElem?_eq_some_iff.1 hL).1
  clear hpfx hf hGz hC hZ hAB hBB hra hen hq hs0 hpu hxs
  refine yield_two hrb hrd HR5.out HR6.out HR4.out HR3.out hL HR1.out HR2.out rfl ?_
  have hL2 : (W.alloc (.cells #[.slice ua x.1.1.length uc, .string x.1.2.name, .slice xa x.1.2.args.length xc, .string x.2.1.r.name, .slice ra x.2.1.r.args.length rc, .map (some q)] 104)).heap[w.heap.size + 3]? = some (.loop r) := (Below.heap_alloc _ _ _ hlL).trans hL
  have kV : ∀ b, b < W.heap.size → b ≠ w.heap.size + 3 → ((W.alloc (.cells #[.slice ua x.1.1.length uc, .string x.1.2.name, .slice xa x.1.2.args.length xc, .string x.2.1.r.name, .slice ra x.2.1.r.args.length rc, .map (some q)] 104)).putObj (w.heap.size + 3) (.loop rb)).heap[b]? = W.heap[b]? := fun b hb hne => (World.putObj_heap_other hne).trans (Below.heap_alloc _ _ _ hb)
  have hzV : ((W.alloc (.cells #[.slice ua x.1.1.length uc, .string x.1.2.name, .slice xa x.1.2.args.length xc, .string x.2.1.r.name, .slice ra x.2.1.r.args.length rc, .map (some q)] 104)).putObj (w.heap.size + 3) (.loop rb)).heap.size = W.heap.size + 1 := by simp
  have hCB : Blk ((W.alloc (.cells #[.slice ua x.1.1.length uc, .string x.1.2.name, .slice xa x.1.2.args.length xc, .string x.2.1.r.name, .slice ra x.2.1.r.args.length rc, .map (some q)] 104)).putObj (w.heap.size + 3) (.loop rb)) W.heap.size #[.slice ua x.1.1.length uc, .string x.1.2.name, .slice xa x.1.2.args.length xc, .string x.2.1.r.name, .slice ra x.2.1.r.args.length rc, .map (some q)] 104 := (World.putObj_heap_other (by omega)).trans (Blk.new W _ _)
  have hLV : ((W.alloc (.cells #[.slice ua x.1.1.length uc, .string x.1.2.name, .slice xa x.1.2.args.length xc, .string x.2.1.r.name, .slice ra x.2.1.r.args.length rc, .map (some q)] 104)).putObj (w.heap.size + 3) (.loop rb)).heap[w.heap.size + 3]? = some (.loop rb) := World.putObj_heap_same (by simp; omega)
  have hAV : Blk ((W.alloc (.cells #[.slice ua x.1.1.length uc, .string x.1.2.name, .slice xa x.1.2.args.length xc, .string x.2.1.r.name, .slice ra x.2.1.r.args.length rc, .map (some q)] 104)).putObj (w.heap.size + 3) (.loop rb)) w.heap.size #[.slice none 0 0, .string ⟨#[]⟩, .slice none 0 0, .string ⟨#[]⟩, .slice none 0 0, .map none] 104 := (kV _ hA (by omega)).trans HA.out
  have hBV : Blk ((W.alloc (.cells #[.slice ua x.1.1.length uc, .string x.1.2.name, .slice xa x.1.2.args.length xc, .string x.2.1.r.name, .slice ra x.2.1.r.args.length rc, .map (some q)] 104)).putObj (w.heap.size + 3) (.loop rb)) (w.heap.size + 1) #[.bool false] 4 := (kV _ hB (by omega)).trans HB.out
  have c0 : ((W.alloc (.cells #[.slice ua x.1.1.length uc, .string x.1.2.name, .slice xa x.1.2.args.length xc, .string x.2.1.r.name, .slice ra x.2.1.r.args.length rc, .map (some q)] 104)).putObj (w.heap.size + 3) (.loop rb)).cell? ⟨W.heap.size, 0, none⟩ = some (.slice ua x.1.1.length uc) := hCB.cell 0
  have c1 : ((W.alloc (.cells #[.slice ua x.1.1.length uc, .string x.1.2.name, .slice xa x.1.2.args.length xc, .string x.2.1.r.name, .slice ra x.2.1.r.args.length rc, .map (some q)] 104)).putObj (w.heap.size + 3) (.loop rb)).cell? ⟨W.heap.size, 1, none⟩ = some (.string x.1.2.name) := hCB.cell 1
  have c2 : ((W.alloc (.cells #[.slice ua x.1.1.length uc, .string x.1.2.name, .slice xa x.1.2.args.length xc, .string x.2.1.r.name, .slice ra x.2.1.r.args.length rc, .map (some q)] 104)).putObj (w.heap.size + 3) (.loop rb)).cell? ⟨W.heap.size, 2, none⟩ = some (.slice xa x.1.2.args.length xc) := hCB.cell 2
  have c3 : ((W.alloc (.cells #[.slice ua x.1.1.length uc, .string x.1.2.name, .slice xa x.1.2.args.length xc, .string x.2.1.r.name, .slice ra x.2.1.r.args.length rc, .map (some q)] 104)).putObj (w.heap.size + 3) (.loop rb)).cell? ⟨W.heap.size, 3, none⟩ = some (.string x.2.1.r.name) := hCB.cell 3
  have c4 : ((W.alloc (.cells #[.slice ua x.1.1.length uc, .string x.1.2.name, .slice xa x.1.2.args.length xc, .string x.2.1.r.name, .slice ra x.2.1.r.args.length rc, .map (some q)] 104)).putObj (w.heap.size + 3) (.loop rb)).cell? ⟨W.heap.size, 4, none⟩ = some (.slice ra x.2.1.r.args.length rc) := hCB.cell 4
  have c5 : ((W.alloc (.cells #[.slice ua x.1.1.length uc, .string x.1.2.name, .slice xa x.1.2.args.length xc, .string x.2.1.r.name, .slice ra x.2.1.r.args.length rc, .map (some q)] 104)).putObj (w.heap.size + 3) (.loop rb)).cell? ⟨W.heap.size, 5, none⟩ = some (.map (some q)) := hCB.cell 5
  have a0 : ((W.alloc (.cells #[.slice ua x.1.1.length uc, .string x.1.2.name, .slice xa x.1.2.args.length xc, .string x.2.1.r.name, .slice ra x.2.1.r.args.length rc, .map (some q)] 104)).putObj (w.heap.size + 3) (.loop rb)).cell? ⟨w.heap.size, 0, none⟩ = some (.slice none 0 0) := hAV.cell 0
  have a1 : ((W.alloc (.cells #[.slice ua x.1.1.length uc, .string x.1.2.name, .slice xa x.1.2.args.length xc, .string x.2.1.r.name, .slice ra x.2.1.r.args.length rc, .map (some q)] 104)).putObj (w.heap.size + 3) (.loop rb)).cell? ⟨w.heap.size, 1, none⟩ = some (.string ⟨#[]⟩) := hAV.cell 1
  have a2 : ((W.alloc (.cells #[.slice ua x.1.1.length uc, .string x.1.2.name, .slice xa x.1.2.args.length xc, .string x.2.1.r.name, .slice ra x.2.1.r.args.length rc, .map (some q)] 104)).putObj (w.heap.size + 3) (.loop rb)).cell? ⟨w.heap.size, 2, none⟩ = some (.slice none 0 0) := hAV.cell 2
  have a3 : ((W.alloc (.cells #[.slice ua x.1.1.length uc, .string x.1.2.name, .slice xa x.1.2.args.length xc, .string x.2.1.r.name, .slice ra x.2.1.r.args.length rc, .map (some q)] 104)).putObj (w.heap.size + 3) (.loop rb)).cell? ⟨w.heap.size, 3, none⟩ = some (.string ⟨#[]⟩) := hAV.cell 3
  have a4 : ((W.alloc (.cells #[.slice ua x.1.1.length uc, .string x.1.2.name, .slice xa x.1.2.args.length xc, .string x.2.1.r.name, .slice ra x.2.1.r.args.length rc, .map (some q)] 104)).putObj (w.heap.size + 3) (.loop rb)).cell? ⟨w.heap.size, 4, none⟩ = some (.slice none 0 0) := hAV.cell 4
  have a5 : ((W.alloc (.cells #[.slice ua x.1.1.length uc, .string x.1.2.name, .slice xa x.1.2.args.length xc, .string x.2.1.r.name, .slice ra x.2.1.r.args.length rc, .map (some q)] 104)).putObj (w.heap.size + 3) (.loop rb)).cell? ⟨w.heap.size, 5, none⟩ = some (.map none) := hAV.cell 5
  have af := hAV.frozen
  have bf := hBV.frozen
  have b0 : ((W.alloc (.cells #[.slice ua x.1.1.length uc, .string x.1.2.name, .slice xa x.1.2.args.length xc, .string x.2.1.r.name, .slice ra x.2.1.r.args.length rc, .map (some q)] 104)).putObj (w.heap.size + 3) (.loop rb)).cell? ⟨w.heap.size + 1, 0, none⟩ = some (.bool false) := hBV.cell 0
  have HOSV : Hid (((W.alloc (.cells #[.slice ua x.1.1.length uc, .string x.1.2.name, .slice xa x.1.2.args.length xc, .string x.2.1.r.name, .slice ra x.2.1.r.args.length rc, .map (some q)] 104)).putObj (w.heap.size + 3) (.loop rb)).os = W.os ∧ ((W.alloc (.cells #[.slice ua x.1.1.length uc, .string x.1.2.name, .slice xa x.1.2.args.length xc, .string x.2.1.r.name, .slice ra x.2.1.r.args.length rc, .map (some q)] 104)).putObj (w.heap.size + 3) (.loop rb)).tape = W.tape ∧ ((W.alloc (.cells #[.slice ua x.1.1.length uc, .string x.1.2.name, .slice xa x.1.2.args.length xc, .string x.2.1.r.name, .slice ra x.2.1.r.args.length rc, .map (some q)] 104)).putObj (w.heap.size + 3) (.loop rb)).output = W.output) := ⟨rfl, rfl, rfl⟩
  have HLV := hide hLV
  have HKV := hide kV
  have HAV := hide hAV
  have HBV := hide hBV
  have HCB := hide hCB
  clear hrb hrd hCB hLV kV hAV hBV
  gi_wp2
  refine ⟨(Array.getElem?_eq_some_iff.1 hL2).2, ?_⟩
  clear hL2
  generalize ((W.alloc (.cells #[.slice ua x.1.1.length uc, .string x.1.2.name, .slice xa x.1.2.args.length xc, .string x.2.1.r.name, .slice ra x.2.1.r.args.length rc, .map (some q)] 104)).putObj (w.heap.size + 3) (.loop rb)) = V at *
  have hlA : w.heap.size < V.heap.size := by omega
  have hlB : w.heap.size + 1 < V.heap.size := by omega
  clear c0 c1 c2 c3 c4 c5 a0 a1 a2 a3 a4 a5
  refine wpIn_block (wpIn_seq (wpIn_region_lit (list_round _ ?_ ?_)))
  ·simp
  refine wpList_load_mid rfl 104 _ rfl W.heap.size 0 rfl [.slice ua x.1.1.length uc, .string x.1.2.name, .slice xa x.1.2.args.length xc, .string x.2.1.r.name, .slice ra x.2.1.r.args.length rc, .map (some q)] _ (fun j v hv => by rw [Nat.zero_add, HCB.out.cell j]; simpa using hv) Tryz.underlying104 rfl (by kernel_rfl) ?_
  try simp only [Act.put, sq]
  refine wpList_store_mid rfl 104 _ _ rfl w.heap.size 0 #[.slice ua x.1.1.length uc, .string x.1.2.name, .slice xa x.1.2.args.length xc, .string x.2.1.r.name, .slice ra x.2.1.r.args.length rc, .map (some q)] rfl rfl (fun j hj => ⟨by rw [Nat.zero_add, HAV.out.cell j]; simp at hj ⊢; omega, af _⟩) (by kernel_rfl) (all_oneCell_toArray (by intro v hv; simp at hv; rcases hv with rfl | rfl | rfl | rfl | rfl | rfl <;> rfl)) ?_
  try simp only [Act.put, sq]
  have hBV2 : Blk (V.setCells w.heap.size 0 [.slice ua x.1.1.length uc, .string x.1.2.name, .slice xa x.1.2.args.length xc, .string x.2.1.r.name, .slice ra x.2.1.r.args.length rc, .map (some q)]) (w.heap.size + 1) #[.bool false] 4 := (Blk.setOther (Blk.setOther (Blk.setOther (Blk.setOther (Blk.setOther (Blk.setOther HBV.out 0 _ (by omega)) 1 _ (by omega)) 2 _ (by omega)) 3 _ (by omega)) 4 _ (by omega)) 5 _ (by omega))
  have b0z : (V.setCells w.heap.size 0 [.slice ua x.1.1.length uc, .string x.1.2.name, .slice xa x.1.2.args.length xc, .string x.2.1.r.name, .slice ra x.2.1.r.args.length rc, .map (some q)]).cell? ⟨w.heap.size + 1, 0, none⟩ = some (.bool false) := hBV2.cell 0
  have bfz := hBV2.frozen
  clear hBV2 b0 bf af
  have hlB2 : w.heap.size + 1 < (V.setCells w.heap.size 0 [.slice ua x.1.1.length uc, .string x.1.2.name, .slice xa x.1.2.args.length xc, .string x.2.1.r.name, .slice ra x.2.1.r.args.length rc, .map (some q)]).heap.size := by simp [World.setCells, World.setCell]; omega
  generalize hVS : V.setCells w.heap.size 0 [.slice ua x.1.1.length uc, .string x.1.2.name, .slice xa x.1.2.args.length xc, .string x.2.1.r.name, .slice ra x.2.1.r.args.length rc, .map (some q)] = VS at *
  go_wp2_with fail
  refine ⟨by simp, ?_⟩
  gi_wp2
  subst hVS
  simp only [World.setCells, Nat.zero_add, Nat.reduceAdd]
  clear b0z bfz hlB2
  have HZN : Hid (∀ b, Z b → b < W.heap.size ∧ b ≠ w.heap.size + 3 ∧ b ≠ w.heap.size ∧ b ≠ w.heap.size + 1 ∧ ¬ G b) := fun b hb => by
   have h := HZ.out b hb
   exact ⟨h.1, fun e => h.2 ((HFF.out b).2 (Or.inl e)), fun e => h.2 ((HFF.out b).2 (Or.inr (Or.inl e))), fun e => h.2 ((HFF.out b).2 (Or.inr (Or.inr (Or.inl e)))), fun e => h.2 ((HFF.out b).2 (Or.inr (Or.inr (Or.inr e))))⟩
  have k3 : ∀ b, b ≠ w.heap.size → b ≠ w.heap.size + 1 → (((((((V.setCell ⟨w.heap.size, 0, none⟩ (.slice ua x.1.1.length uc)).setCell ⟨w.heap.size, 1, none⟩ (.string x.1.2.name)).setCell ⟨w.heap.size, 2, none⟩ (.slice xa x.1.2.args.length xc)).setCell ⟨w.heap.size, 3, none⟩ (.string x.2.1.r.name)).setCell ⟨w.heap.size, 4, none⟩ (.slice ra x.2.1.r.args.length rc)).setCell ⟨w.heap.size, 5, none⟩ (.map (some q))).setCell ⟨w.heap.size + 1, 0, none⟩ (.bool true)).heap[b]? = V.heap[b]? := fun b h0 h1 => by
   rw [Below.heap_setCell _ _ _ _ (by simpa using h1)]
   rw [Below.heap_setCell _ _ _ _ (by simpa using h0)]; rw [Below.heap_setCell _ _ _ _ (by simpa using h0)]; rw [Below.heap_setCell _ _ _ _ (by simpa using h0)]; rw [Below.heap_setCell _ _ _ _ (by simpa using h0)]; rw [Below.heap_setCell _ _ _ _ (by simpa using h0)]; rw [Below.heap_setCell _ _ _ _ (by simpa using h0)]
  have hA3 : Blk (((((((V.setCell ⟨w.heap.size, 0, none⟩ (.slice ua x.1.1.length uc)).setCell ⟨w.heap.size, 1, none⟩ (.string x.1.2.name)).setCell ⟨w.heap.size, 2, none⟩ (.slice xa x.1.2.args.length xc)).setCell ⟨w.heap.size, 3, none⟩ (.string x.2.1.r.name)).setCell ⟨w.heap.size, 4, none⟩ (.slice ra x.2.1.r.args.length rc)).setCell ⟨w.heap.size, 5, none⟩ (.map (some q))).setCell ⟨w.heap.size + 1, 0, none⟩ (.bool true)) w.heap.size #[.slice ua x.1.1.length uc, .string x.1.2.name, .slice xa x.1.2.args.length xc, .string x.2.1.r.name, .slice ra x.2.1.r.args.length rc, .map (some q)] 104 := by
   refine Blk.setOther ?_ _ _ (by omega)
   exact (((((HAV.out.set 0 (.slice ua x.1.1.length uc)).set 1 (.string x.1.2.name)).set 2 (.slice xa x.1.2.args.length xc)).set 3 (.string x.2.1.r.name)).set 4 (.slice ra x.2.1.r.args.length rc)).set 5 (.map (some q))
  have hB3 : Blk (((((((V.setCell ⟨w.heap.size, 0, none⟩ (.slice ua x.1.1.length uc)).setCell ⟨w.heap.size, 1, none⟩ (.string x.1.2.name)).setCell ⟨w.heap.size, 2, none⟩ (.slice xa x.1.2.args.length xc)).setCell ⟨w.heap.size, 3, none⟩ (.string x.2.1.r.name)).setCell ⟨w.heap.size, 4, none⟩ (.slice ra x.2.1.r.args.length rc)).setCell ⟨w.heap.size, 5, none⟩ (.map (some q))).setCell ⟨w.heap.size + 1, 0, none⟩ (.bool true)) (w.heap.size + 1) #[.bool true] 4 := Blk.set1R (Blk.setOther (Blk.setOther (Blk.setOther (Blk.setOther (Blk.setOther (Blk.setOther HBV.out 0 _ (by omega)) 1 _ (by omega)) 2 _ (by omega)) 3 _ (by omega)) 4 _ (by omega)) 5 _ (by omega))
  have hz3 : (((((((V.setCell ⟨w.heap.size, 0, none⟩ (.slice ua x.1.1.length uc)).setCell ⟨w.heap.size, 1, none⟩ (.string x.1.2.name)).setCell ⟨w.heap.size, 2, none⟩ (.slice xa x.1.2.args.length xc)).setCell ⟨w.heap.size, 3, none⟩ (.string x.2.1.r.name)).setCell ⟨w.heap.size, 4, none⟩ (.slice ra x.2.1.r.args.length rc)).setCell ⟨w.heap.size, 5, none⟩ (.map (some q))).setCell ⟨w.heap.size + 1, 0, none⟩ (.bool true)).heap.size = W.heap.size + 1 := by simp [World.setCell]; omega
  have ho3 : (((((((V.setCell ⟨w.heap.size, 0, none⟩ (.slice ua x.1.1.length uc)).setCell ⟨w.heap.size, 1, none⟩ (.string x.1.2.name)).setCell ⟨w.heap.size, 2, none⟩ (.slice xa x.1.2.args.length xc)).setCell ⟨w.heap.size, 3, none⟩ (.string x.2.1.r.name)).setCell ⟨w.heap.size, 4, none⟩ (.slice ra x.2.1.r.args.length rc)).setCell ⟨w.heap.size, 5, none⟩ (.map (some q))).setCell ⟨w.heap.size + 1, 0, none⟩ (.bool true)).os = W.os ∧ (((((((V.setCell ⟨w.heap.size, 0, none⟩ (.slice ua x.1.1.length uc)).setCell ⟨w.heap.size, 1, none⟩ (.string x.1.2.name)).setCell ⟨w.heap.size, 2, none⟩ (.slice xa x.1.2.args.length xc)).setCell ⟨w.heap.size, 3, none⟩ (.string x.2.1.r.name)).setCell ⟨w.heap.size, 4, none⟩ (.slice ra x.2.1.r.args.length rc)).setCell ⟨w.heap.size, 5, none⟩ (.map (some q))).setCell ⟨w.heap.size + 1, 0, none⟩ (.bool true)).tape = W.tape ∧ (((((((V.setCell ⟨w.heap.size, 0, none⟩ (.slice ua x.1.1.length uc)).setCell ⟨w.heap.size, 1, none⟩ (.string x.1.2.name)).setCell ⟨w.heap.size, 2, none⟩ (.slice xa x.1.2.args.length xc)).setCell ⟨w.heap.size, 3, none⟩ (.string x.2.1.r.name)).setCell ⟨w.heap.size, 4, none⟩ (.slice ra x.2.1.r.args.length rc)).setCell ⟨w.heap.size, 5, none⟩ (.map (some q))).setCell ⟨w.heap.size + 1, 0, none⟩ (.bool true)).output = W.output := by
   simp only [os_set, tape_set, output_set]
   exact HOSV.out
  generalize (((((((V.setCell ⟨w.heap.size, 0, none⟩ (.slice ua x.1.1.length uc)).setCell ⟨w.heap.size, 1, none⟩ (.string x.1.2.name)).setCell ⟨w.heap.size, 2, none⟩ (.slice xa x.1.2.args.length xc)).setCell ⟨w.heap.size, 3, none⟩ (.string x.2.1.r.name)).setCell ⟨w.heap.size, 4, none⟩ (.slice ra x.2.1.r.args.length rc)).setCell ⟨w.heap.size, 5, none⟩ (.map (some q))).setCell ⟨w.heap.size + 1, 0, none⟩ (.bool true)) = W3 at *
  have kF : ∀ b, b < W.heap.size → b ≠ w.heap.size + 3 → b ≠ w.heap.size → b ≠ w.heap.size + 1 → (W3.putObj (w.heap.size + 3) (.loop rd)).heap[b]? = W.heap[b]? := fun b h0 h1 h2 h3 => (World.putObj_heap_other h1).trans ((k3 b h2 h3).trans (HKV.out b h0 h1))
  have hGn : ∀ b, G b → b < W.heap.size ∧ b ≠ w.heap.size + 3 ∧ b ≠ w.heap.size ∧ b ≠ w.heap.size + 1 := fun b hb => by have := (HG.out b hb).1; omega
  refine ⟨(k3 _ (by omega) (by omega)).trans HLV.out, f, ⟨HFF.out, HGZ.out, by simp; omega, fun b hb => (kF b (hGn b hb).1 (hGn b hb).2.1 (hGn b hb).2.2.1 (hGn b hb).2.2.2).trans (HC.out b hb), World.putObj_heap_same (by omega), by simp; omega, by simp; omega, fun h => by cases h⟩, ⟨ho3.1, ho3.2.1, ho3.2.2, by simp; omega, fun b hb hn => kF b hb (fun e => hn ((HFF.out b).2 (Or.inl e))) (fun e => hn ((HFF.out b).2 (Or.inr (Or.inl e)))) (fun e => hn ((HFF.out b).2 (Or.inr (Or.inr (Or.inl e)))))⟩, (fun b hb => Or.inl hb), fun _ => ?_⟩
  refine ⟨x, #[.slice ua x.1.1.length uc, .string x.1.2.name, .slice xa x.1.2.args.length xc, .string x.2.1.r.name, .slice ra x.2.1.r.args.length rc, .map (some q)], Z, HPF.out, (World.putObj_heap_other (by omega)).trans hA3, (World.putObj_heap_other (by omega)).trans hB3, HLP.out _ fun b hb => ?_, fun b hb => ?_⟩
  ·have h := HZN.out b hb
   exact kF b h.1 h.2.1 h.2.2.1 h.2.2.2.1
  ·have h := HZN.out b hb
   exact ⟨by simp; omega, h.2.2.2.2⟩
 have hst : (JF (α := Ch) w.heap.size (w.heap.size + 1) (w.heap.size + 3) 104 #[.slice none 0 0, .string ⟨#[]⟩, .slice none 0 0, .string ⟨#[]⟩, .slice none 0 0, .map none] G r rd W5) [] true (fun b => b = w.heap.size + 3 ∨ b = w.heap.size ∨ b = w.heap.size + 1 ∨ G b) W5 := ⟨fun b => Iff.rfl, fun b hb => by have := (HG.out b hb).1; omega, Nat.le_refl _, fun b _ => rfl, H3.out, by omega, by omega, fun _ => ⟨rfl, H0.out, H1.out⟩⟩
 have hXf : ∀ b, X b → b < W5.heap.size ∧ ¬ (b = w.heap.size + 3 ∨ b = w.heap.size ∨ b = w.heap.size + 1 ∨ G b) := fun b hb => by
  have h := HX.out b hb
  refine ⟨by omega, fun h2 => ?_⟩
  rcases h2 with h2 | h2 | h2 | h2
  ·omega
  ·omega
  ·omega
  ·exact h.2 h2
 refine (chances1S_any JF.ok (w.heap.size + 3) sfst_stop RH rs t fs P R T F uv aa ca fv [] _ W5 X (HP.out.below HB5.out HP.out.lt) (HR.out.below HB5.out HR.out.lt) (HU.out.later HB5.out) (HT.out.below HB5.out HT.out.lt) (HS.out.later HB5.out) (HF.out.below HB5.out HF.out.lt) (HFV.out.later HB5.out) HAT.out hXf (fun h => by
  have hlt := HR.out.lt
  rcases h with h | h | h | h
  ·omega
  ·omega
  ·omega
  ·exact (HG.out _ h).2 rfl) hst HZ0.out (by simp)).mono ?_
 rintro e Wf ⟨hret, s, ⟨m, f', hm, hms, hj, he, hff⟩, hS⟩
 rw [List.nil_append] at hj
 obtain ⟨hf9, hG9, hz9, hC9, hL9, hA9, hB9, hs9⟩ := hj
 have HD9 : Hid (Wf.heap[w.heap.size + 2]? = some (.deferred (some []))) := (he.block _ (by omega) (fun h => by
  rcases h with (h | h | h | h) | h
  ·omega
  ·omega
  ·omega
  ·have := (HG.out _ h).1; omega
  ·exact h)).trans H2.out
 have HBF : Hid (∀ b, b < w.heap.size → Wf.heap[b]? = w.heap[b]?) := fun b hb => by
  by_cases hg : G b
  ·exact (hC9 b hg).trans (HB5.out.block b hb)
  ·exact (he.block b (by omega) (fun h => by
    rcases h with (h | h | h | h) | h
    ·omega
    ·omega
    ·omega
    ·exact hg h
    ·exact h)).trans (HB5.out.block b hb)
 have HOSF : Hid (Wf.os = w.os ∧ Wf.tape = w.tape ∧ Wf.output = w.output) := ⟨he.os.trans HB5.out.os, he.tape.trans HB5.out.tape, he.output.trans HB5.out.output⟩
 have HL9 := hide hL9
 have HRET := hide hret
 clear he hff hst hXf RH hret hr1 hr2 hr3 hr4 hr5 hr6 hz2 hf9 hG9 hC9
 refine ⟨HRET.out, ?_⟩
 cases s with
 | true =>
  left
  refine ⟨HL9.out, ?_⟩
  obtain ⟨hp9, hA, hB⟩ := hs9 rfl
  have em := hms rfl
  subst em
  rw [List.take_length] at hp9
  have HP9 := hide hp9
  clear hp9 hms hm hS hs9
  have kg : ∀ b, b ≠ w.heap.size + 3 → (Wf.putObj (w.heap.size + 3) (.loop { r with state := .exhausted })).heap[b]? = Wf.heap[b]? := fun b h => World.putObj_heap_other h
  have zg : (Wf.putObj (w.heap.size + 3) (.loop { r with state := .exhausted })).heap.size = Wf.heap.size := by simp
  have og : (Wf.putObj (w.heap.size + 3) (.loop { r with state := .exhausted })).os = Wf.os ∧ (Wf.putObj (w.heap.size + 3) (.loop { r with state := .exhausted })).tape = Wf.tape ∧ (Wf.putObj (w.heap.size + 3) (.loop { r with state := .exhausted })).output = Wf.output := ⟨rfl, rfl, rfl⟩
  generalize (Wf.putObj (w.heap.size + 3) (.loop { r with state := .exhausted })) = Wg at *
  have q0 : Blk Wg w.heap.size #[.slice none 0 0, .string ⟨#[]⟩, .slice none 0 0, .string ⟨#[]⟩, .slice none 0 0, .map none] 104 := (kg _ (by omega)).trans hA
  have q1 : Blk Wg (w.heap.size + 1) #[.bool false] 4 := (kg _ (by omega)).trans hB
  have qd : Wg.heap[w.heap.size + 2]? = some (.deferred (some [])) := (kg _ (by omega)).trans HD9.out
  have qb : Below w.heap.size w Wg := ⟨og.1.trans HOSF.out.1, og.2.1.trans HOSF.out.2.1, og.2.2.trans HOSF.out.2.2, by omega, fun b hb => (kg b (by omega)).trans (HBF.out b hb)⟩
  clear kg og hA hB
  have a0 := q0.c0
  have a1 := q0.c1
  have a2 := q0.c2
  have a3 := q0.c3
  have a4 : Wg.cell? ⟨w.heap.size, 4, none⟩ = some (.slice none 0 0) := q0.cell 4
  have a5 : Wg.cell? ⟨w.heap.size, 5, none⟩ = some (.map none) := q0.cell 5
  have af := q0.frozen
  have b0 := q1.c0
  have bf := q1.frozen
  have Q0 : Blk (((((((Wg.setCell ⟨w.heap.size, 0, none⟩ (.slice none 0 0)).setCell ⟨w.heap.size, 1, none⟩ (.string ⟨#[]⟩)).setCell ⟨w.heap.size, 2, none⟩ (.slice none 0 0)).setCell ⟨w.heap.size, 3, none⟩ (.string ⟨#[]⟩)).setCell ⟨w.heap.size, 4, none⟩ (.slice none 0 0)).setCell ⟨w.heap.size, 5, none⟩ (.map none)).setCell ⟨w.heap.size + 1, 0, none⟩ (.bool false)) w.heap.size #[.slice none 0 0, .string ⟨#[]⟩, .slice none 0 0, .string ⟨#[]⟩, .slice none 0 0, .map none] 104 := by
   refine Blk.setOther ?_ _ _ (by omega)
   exact (((((q0.set 0 (.slice none 0 0)).set 1 (.string ⟨#[]⟩)).set 2 (.slice none 0 0)).set 3 (.string ⟨#[]⟩)).set 4 (.slice none 0 0)).set 5 (.map none)
  have Q1 : Blk (((((((Wg.setCell ⟨w.heap.size, 0, none⟩ (.slice none 0 0)).setCell ⟨w.heap.size, 1, none⟩ (.string ⟨#[]⟩)).setCell ⟨w.heap.size, 2, none⟩ (.slice none 0 0)).setCell ⟨w.heap.size, 3, none⟩ (.string ⟨#[]⟩)).setCell ⟨w.heap.size, 4, none⟩ (.slice none 0 0)).setCell ⟨w.heap.size, 5, none⟩ (.map none)).setCell ⟨w.heap.size + 1, 0, none⟩ (.bool false)) (w.heap.size + 1) #[.bool false] 4 := Blk.set1R (Blk.setOther (Blk.setOther (Blk.setOther (Blk.setOther (Blk.setOther (Blk.setOther q1 0 _ (by omega)) 1 _ (by omega)) 2 _ (by omega)) 3 _ (by omega)) 4 _ (by omega)) 5 _ (by omega))
  have QD : (((((((Wg.setCell ⟨w.heap.size, 0, none⟩ (.slice none 0 0)).setCell ⟨w.heap.size, 1, none⟩ (.string ⟨#[]⟩)).setCell ⟨w.heap.size, 2, none⟩ (.slice none 0 0)).setCell ⟨w.heap.size, 3, none⟩ (.string ⟨#[]⟩)).setCell ⟨w.heap.size, 4, none⟩ (.slice none 0 0)).setCell ⟨w.heap.size, 5, none⟩ (.map none)).setCell ⟨w.heap.size + 1, 0, none⟩ (.bool false)).heap[w.heap.size + 2]? = some (.deferred (some [])) := by
   rw [Below.heap_setCell _ _ _ _ (by simp)]
   rw [Below.heap_setCell _ _ _ _ (by simp)]; rw [Below.heap_setCell _ _ _ _ (by simp)]; rw [Below.heap_setCell _ _ _ _ (by simp)]; rw [Below.heap_setCell _ _ _ _ (by simp)]; rw [Below.heap_setCell _ _ _ _ (by simp)]; rw [Below.heap_setCell _ _ _ _ (by simp)]
   exact qd
  have QB : Below w.heap.size w (((((((Wg.setCell ⟨w.heap.size, 0, none⟩ (.slice none 0 0)).setCell ⟨w.heap.size, 1, none⟩ (.string ⟨#[]⟩)).setCell ⟨w.heap.size, 2, none⟩ (.slice none 0 0)).setCell ⟨w.heap.size, 3, none⟩ (.string ⟨#[]⟩)).setCell ⟨w.heap.size, 4, none⟩ (.slice none 0 0)).setCell ⟨w.heap.size, 5, none⟩ (.map none)).setCell ⟨w.heap.size + 1, 0, none⟩ (.bool false)) := (((((((qb.setCell (by simp) _).setCell (by simp) _).setCell (by simp) _).setCell (by simp) _).setCell (by simp) _).setCell (by simp) _).setCell (by simp) _)
  have HQ0 := hide Q0
  have HQ1 := hide Q1
  have HQD := hide QD
  have HQB := hide QB
  have hlA : w.heap.size < Wg.heap.size := by omega
  have hlB : w.heap.size + 1 < Wg.heap.size := by omega
  clear Q0 Q1 QD QB q0 q1 qd qb
  gi_wp2
  clear a0 a1 a2 a3 a4 a5 af bf b0
  generalize (((((((Wg.setCell ⟨w.heap.size, 0, none⟩ (.slice none 0 0)).setCell ⟨w.heap.size, 1, none⟩ (.string ⟨#[]⟩)).setCell ⟨w.heap.size, 2, none⟩ (.slice none 0 0)).setCell ⟨w.heap.size, 3, none⟩ (.string ⟨#[]⟩)).setCell ⟨w.heap.size, 4, none⟩ (.slice none 0 0)).setCell ⟨w.heap.size, 5, none⟩ (.map none)).setCell ⟨w.heap.size + 1, 0, none⟩ (.bool false)) = Wh at *
  have E0 : Blk (Wh.putObj (w.heap.size + 2) (.deferred none)) w.heap.size #[.slice none 0 0, .string ⟨#[]⟩, .slice none 0 0, .string ⟨#[]⟩, .slice none 0 0, .map none] 104 := (World.putObj_heap_other (by omega)).trans HQ0.out
  have E1 : Blk (Wh.putObj (w.heap.size + 2) (.deferred none)) (w.heap.size + 1) #[.bool false] 4 := (World.putObj_heap_other (by omega)).trans HQ1.out
  have EB : Below w.heap.size w (Wh.putObj (w.heap.size + 2) (.deferred none)) := ⟨HQB.out.os, HQB.out.tape, HQB.out.output, by simp; exact HQB.out.size, fun b hb => (World.putObj_heap_other (by omega)).trans (HQB.out.block b hb)⟩
  refine ⟨by simp, .inl ⟨_, _, rfl, run_takeDeferred HQD.out, ?_⟩⟩
  refine ⟨.tuple #[.agg #[.slice none 0 0, .string ⟨#[]⟩, .slice none 0 0, .string ⟨#[]⟩, .slice none 0 0, .map none], .bool false], ?_, EB, Or.inl ⟨HP9.out, rfl⟩⟩
  have e0 := E0.cell 0
  have e1 := E0.cell 1
  have e2 := E0.cell 2
  have e3 := E0.cell 3
  have e4 := E0.cell 4
  have e5 := E0.cell 5
  have h2 := E1.cell 0
  simp [results, Tryz.results73, go_sem, e0, e1, e2, e3, e4, e5, h2]
 | false =>
  right
  refine ⟨by rw [← hrd]; exact HL9.out, ?_⟩
  obtain ⟨y, cs, Z, hpf, hA, hB, hl, hZ⟩ := hS rfl
  have HPF := hide hpf
  have HLP := hide hl
  have HZ := hide hZ
  have HA := hide hA
  have HB := hide hB
  clear hpf hl hZ hms hm hS hs9 hA hB
  have HLP2 : Hid (∃ ua uc xa xc ra rc q, cs = #[.slice ua y.1.1.length uc, .string y.1.2.name, .slice xa y.1.2.args.length xc, .string y.2.1.r.name, .slice ra y.2.1.r.args.length rc, .map (some q)] ∧ LpC y #[.agg cs] Wf Z) := by
   have h0 := HLP.out
   obtain ⟨ua, uc, xa, xc, ra, rc, q, Lm, e1, _⟩ := HLP.out
   simp at e1
   exact ⟨ua, uc, xa, xc, ra, rc, q, e1, h0⟩
  obtain ⟨ua, uc, xa, xc, ra, rc, q, rfl, hl2⟩ := HLP2.out
  clear hl2 HLP2
  have kg : ∀ b, b ≠ w.heap.size + 3 → (Wf.putObj (w.heap.size + 3) (.loop { r with state := .exhausted, pending := some .ret })).heap[b]? = Wf.heap[b]? := fun b h => World.putObj_heap_other h
  have zg : (Wf.putObj (w.heap.size + 3) (.loop { r with state := .exhausted, pending := some .ret })).heap.size = Wf.heap.size := by simp
  have og : (Wf.putObj (w.heap.size + 3) (.loop { r with state := .exhausted, pending := some .ret })).os = Wf.os ∧ (Wf.putObj (w.heap.size + 3) (.loop { r with state := .exhausted, pending := some .ret })).tape = Wf.tape ∧ (Wf.putObj (w.heap.size + 3) (.loop { r with state := .exhausted, pending := some .ret })).output = Wf.output := ⟨rfl, rfl, rfl⟩
  generalize (Wf.putObj (w.heap.size + 3) (.loop { r with state := .exhausted, pending := some .ret })) = Wg at *
  have qd : Wg.heap[w.heap.size + 2]? = some (.deferred (some [])) := (kg _ (by omega)).trans HD9.out
  have hso := lpC_solid HLP.out
  have kb : ∀ b, Z b ∧ Solid Wf b → (Wg.putObj (w.heap.size + 2) (.deferred none)).heap[b]? = Wf.heap[b]? := fun b hb => (World.putObj_heap_other (fun e => hb.2.2 _ ((congrArg (fun i => Wf.heap[i]?) e).trans HD9.out))).trans (kg b (fun e => hb.2.1 _ ((congrArg (fun i => Wf.heap[i]?) e).trans HL9.out)))
  have HL2 := hide (lpC_kept hso kb)
  have HZ2 : Hid (∀ b, Z b ∧ Solid Wf b → b < (Wg.putObj (w.heap.size + 2) (.deferred none)).heap.size ∧ ¬ G b) := fun b hb => ⟨by have := (HZ.out b hb.1).1; simp; omega, (HZ.out b hb.1).2⟩
  have E0 : Blk (Wg.putObj (w.heap.size + 2) (.deferred none)) w.heap.size #[.slice ua y.1.1.length uc, .string y.1.2.name, .slice xa y.1.2.args.length xc, .string y.2.1.r.name, .slice ra y.2.1.r.args.length rc, .map (some q)] 104 := (World.putObj_heap_other (by omega)).trans ((kg _ (by omega)).trans HA.out)
  have E1 : Blk (Wg.putObj (w.heap.size + 2) (.deferred none)) (w.heap.size + 1) #[.bool true] 4 := (World.putObj_heap_other (by omega)).trans ((kg _ (by omega)).trans HB.out)
  have EB : Below w.heap.size w (Wg.putObj (w.heap.size + 2) (.deferred none)) := ⟨og.1.trans HOSF.out.1, og.2.1.trans HOSF.out.2.1, og.2.2.trans HOSF.out.2.2, by simp; omega, fun b hb => (World.putObj_heap_other (by omega)).trans ((kg b (by omega)).trans (HBF.out b hb))⟩
  have HE0 := hide E0
  have HE1 := hide E1
  have HEB := hide EB
  have HQD := hide qd
  clear E0 E1 EB qd kb hso kg og
  gi_wp2
  refine ⟨by simp, .inl ⟨_, _, rfl, run_takeDeferred HQD.out, ?_⟩⟩
  refine ⟨.tuple #[.agg #[.slice ua y.1.1.length uc, .string y.1.2.name, .slice xa y.1.2.args.length xc, .string y.2.1.r.name, .slice ra y.2.1.r.args.length rc, .map (some q)], .bool true], ?_, HEB.out, Or.inr ⟨y, _, _, HPF.out, rfl, HL2.out, HZ2.out⟩⟩
  have e0 := HE0.out.cell 0
  have e1 := HE0.out.cell 1
  have e2 := HE0.out.cell 2
  have e3 := HE0.out.cell 3
  have e4 := HE0.out.cell 4
  have e5 := HE0.out.cell 5
  have h2 := HE1.out.cell 0
  simp [results, Tryz.results73, go_sem, e0, e1, e2, e3, e4, e5, h2]
end Go.Proofs.YtmkendjmfdaedaaGreat
