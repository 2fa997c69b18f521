/- Walks: the places of a term. -/
import Derived.Test.YthlgknglalcggaiW25
import Derived.Test.YthlgknglalcggaiW18
import Derived.Test.YthlgknglalcggaiW4
import Derived.Maps.OwnIn
import Derived.Maps.AppendAt
namespace Go.Proofs.Ythlgknglalcggai
open Go.RowKit Go.Shelf
attribute [local go_sem] Oper.semAt_some
set_option linter.unusedSimpArgs false
set_option linter.unusedVariables false
set_option maxRecDepth 8000

/-- An append whose outcome is known, inside a fence. -/
theorem wpListIn_append_eq {F : Fence} {nF : Nat} {P : Program} {ops : Array Oper} {rest : List Oper} {o : Oper} {a : Act} {Q : Exit → Act → World → Prop} {w w' : World} {v u v' : Value} (hgd : o.guard = none) (s x : Operand) (t t' : TypeId)
    (ho : o.op = .call { callee := .builtin .append, args := #[s, x], argTypes := #[t, t'] }) (hs : a.eval s = v) (hx : a.eval x = u)
    (hr : (Builtin.append_ #[t, t'] o.type #[v, u]).run P w = .ok v' w') (h : wpListIn F nF P ops Q rest (a.put o.dst v') w') : wpListIn F nF P ops Q (o :: rest) a w := by
  refine wpListIn_plain hgd fun K hK => ?_
  unfold Oper.wpIn
  refine ⟨by simp [Oper.about, ho, resolve, Target.leads, Sem.run_pure], ?_⟩
  rw [Oper.semAt_plain F _ _ (by rw [ho]; intro c hc'; cases hc')]
  simp [execOp, ho, resolve, invoke, builtin, hs, hx, hr, Result.andThen]
  exact hK _ _ h

/-- The same, at a step of a region that draws its order. -/
theorem stepIn_append_eq {F : Fence} {nF : Nat} {P : Program} {ops : Array Oper} {o : Oper} {a : Act} {K : Act → World → Prop} {Q : Exit → Act → World → Prop} {E : Prop} {w w' : World} {v u v' : Value} (hgd : o.guard = none) (s x : Operand) (t t' : TypeId)
    (ho : o.op = .call { callee := .builtin .append, args := #[s, x], argTypes := #[t, t'] }) (hs : a.eval s = v) (hx : a.eval x = u)
    (hr : (Builtin.append_ #[t, t'] o.type #[v, u]).run P w = .ok v' w') (h : K (a.put o.dst v') w') : if Region.wanted o (yielded ops a.tmps) = true then Oper.wpIn F nF P o a w K Q else E := by
  have hw : Region.wanted o (yielded ops a.tmps) = true := by simp [Region.wanted, hgd]
  rw [if_pos hw]
  unfold Oper.wpIn
  refine ⟨by simp [Oper.about, ho, resolve, Target.leads, Sem.run_pure], ?_⟩
  rw [Oper.semAt_plain F _ _ (by rw [ho]; intro c hc'; cases hc')]
  simp [execOp, ho, resolve, invoke, builtin, hs, hx, hr, Result.andThen]
  exact h
theorem Blk.set1 {w : World} {A T : Nat} {q v : Value} (h : Blk w A #[q] T) : Blk (w.setCell ⟨A, 0, none⟩ v) A #[v] T := by
  unfold Blk at *
  simp [World.setCell, Array.getElem?_modify, h]

theorem own_slice {w : World} {N e n : Nat} {v : Value} {xs : List Value} (h : w.ownsRow N e 1 v (n + 1) xs) : ∃ g cap, v = .slice (some ⟨g, 0, none⟩) (n + 1) cap := by
  rcases h.2 with h1 | ⟨g, cap, cur, hv, _⟩
  · exact absurd h1.2 (by omega)
  · exact ⟨g, cap, hv⟩
theorem Fr2.belowN {A B : Nat} {w W1 W : World} (h : Fr2 A W1 W (.slice none 0 0) (.slice none 0 0)) (hb : Below B w W1) (hA : B ≤ A) (hB : B ≤ W1.heap.size) : Below B w W :=
  ⟨h.1.trans hb.os, h.2.1.trans hb.tape, h.2.2.1.trans hb.output, Nat.le_trans hb.size h.2.2.2.1, fun k hk => (h.2.2.2.2 k (by omega) (by omega) (by simp [Value.ownBlock]) (by simp [Value.ownBlock])).trans (hb.block k hk)⟩

theorem plAt_nil (A : Nat) (w : World) (N : Nat) : PlAt A w N (.slice none 0 0) (.slice none 0 0) [] (fun _ => False) [] (.slice none 0 0) [] w :=
  ⟨World.ownsRow_nil _ _ _ _, World.ownsRow_nil _ _ _ _, rfl, Fr2.of_below (Below.refl _ _) _ _, fun _ h => Or.inl h⟩

theorem own_put {w : World} {N T n : Nat} {v : Value} {xs : List Value} {lp : Nat} {o : Obj} (h : w.ownsRow N T 1 v n xs) (hl : lp < N) : (w.putObj lp o).ownsRow N T 1 v n xs := by
  have hlt := h.lt
  obtain ⟨h1, h2⟩ := h
  refine ⟨h1, h2.imp id ?_⟩
  rintro ⟨g, cap, cur, rfl, hg, hh, hr⟩
  exact ⟨g, cap, cur, rfl, hg, by rw [World.putObj_heap_other (by omega)]; exact hh, hr⟩
/-- A round begins. -/
theorem PlAt.enter {A : Nat} {W : World} {N lp : Nat} {q u : Value} {hs : List Int} {Y : Nat → Prop} {ps : List (List Int)} {xs : List Value} {o : Obj} (hl : lp < N) (h : PlAt A W N q u hs Y ps q xs W) : PlAt A (W.putObj lp o) N q u hs Y ps q xs (W.putObj lp o) :=
  ⟨own_put h.1 hl, own_put h.2.1 hl, h.2.2.1.imp fun x z hp => hp.kept fun b hb => World.putObj_heap_other (by have := hb.1; omega), Fr2.of_below (Below.refl _ _) _ _, fun _ h => Or.inl h⟩
/-- A round ends. -/
theorem PlAt.leave {A : Nat} {W w3 : World} {N lp : Nat} {q q' u : Value} {hs : List Int} {Y : Nat → Prop} {ps : List (List Int)} {xs : List Value} {o o1 : Obj} (hl : lp < N) (h0 : W.heap[lp]? = some o) (h : PlAt A (W.putObj lp o1) N q u hs Y ps q' xs w3) : PlAt A W N q u hs Y ps q' xs (w3.putObj lp o) := by
  have hlt : lp < W.heap.size := (Array.getElem?_eq_some_iff.1 h0).1
  have hz : (W.putObj lp o1).heap.size = W.heap.size := by simp
  obtain ⟨h1, h2, h3, ⟨f1, f2, f3, f4, f5⟩, h5⟩ := h
  rw [hz] at f4
  refine ⟨own_put h1 hl, own_put h2 hl, h3.imp fun x z hp => hp.kept fun b hb => World.putObj_heap_other (by have := hb.1; omega), ⟨f1, f2, f3, by simpa using f4, fun b hb hA hq hu => ?_⟩, fun k hk => by rw [hz] at h5; exact h5 k hk⟩
  by_cases e : b = lp
  · rw [e, World.putObj_heap_same (by omega), h0]
  · rw [World.putObj_heap_other e, f5 b (by rw [hz]; exact hb) hA hq hu, World.putObj_heap_other e]

theorem down0_any (v : Value) (w : World) (hv : ∃ s a k c, v = .agg #[.string s, .slice a k c]) :
    Calls Try.prog 26 #[v, .slice none 0 0] w fun e w' => e = .returned (.func (.func 50) #[] #[.pointer (some ⟨w.heap.size, 0, none⟩), .pointer (some ⟨w.heap.size + 1, 0, none⟩)]) ∧ ∃ s a k c, v = .agg #[.string s, .slice a k c] ∧ w' = (w.alloc (.cells #[.string s, .slice a k c] 25)).alloc (.cells #[.slice none 0 0] 22) := by
  obtain ⟨s, a, k, c, rfl⟩ := hv
  have hmf : ∀ (fn : Fn) (first cap : Array Value) (w : World), (Instr.makeFunc fn first cap).run Try.prog w = .ok (.func fn first cap) w := fun _ _ _ _ => rfl
  go_enter Try.func26, Try.ntmps26
  go_wp2_with fail
  go_ret
  exact ⟨rfl, _, _, _, _, rfl, rfl⟩

set_option maxHeartbeats 1000000 in
theorem down1_any (A N lp : Nat) (r : Loop) (hAN : A < N) (RH : RoundH A N lp r) (t : Tm) (B1 B2 : Nat) (a : Option Addr) (c : Nat) (X : Nat → Prop) (w : World) (h1 : Blk w B1 #[.string t.name, .slice a t.args.length c] 25) (h2 : Blk w B2 #[.slice none 0 0] 22) (hs : Sl w X a t.args) (hX : ∀ b, X b → b < N ∧ b ≠ A) (hN : N ≤ w.heap.size) (hA : Blk w A #[.slice none 0 0] 33) (hl : w.heap[lp]? = some (.loop r)) (hz : sizeL [t] ≤ 900000) :
    Calls Try.prog 50 #[.func (.yield lp) #[] #[], .pointer (some ⟨B1, 0, none⟩), .pointer (some ⟨B2, 0, none⟩)] w fun e w' => (∃ v, e = .returned v) ∧ ∃ q' xs', Blk w' A #[q'] 33 ∧ PlAt A w N (.slice none 0 0) (.slice none 0 0) [] (fun _ => False) (plcT t) q' xs' w' ∧ w'.heap[lp]? = some (.loop r) := by
  have D := down_any A N lp r hAN RH t (.slice none 0 0) (.agg #[.string t.name, .slice a t.args.length c]) (.slice none 0 0) [] [] [] (fun _ => False) w X ⟨a, c, rfl, hs⟩ hX hN (fun _ h => h.elim) hA (plAt_nil _ _ _) hl (by simpa using hz) (by simpa using hz)
  have HD := hide D
  have b0 : w.cell? ⟨B1, 0, none⟩ = some (.string t.name) := h1.cell 0
  have b1 : w.cell? ⟨B1, 1, none⟩ = some (.slice a t.args.length c) := h1.cell 1
  have b2 : w.cell? ⟨B2, 0, none⟩ = some (.slice none 0 0) := h2.cell 0
  clear D h1 h2 hs hA hl RH
  go_enter Try.func50, Try.ntmps50
  go_wp2_with fail
  refine HD.out.mono ?_
  rintro e w2 ⟨rfl, q2, xs2, hA2, hp2, hl2⟩
  have HA2 := hide hA2
  have HP2 := hide hp2
  have HL2 := hide hl2
  clear hA2 hp2 hl2
  go_wp2_with fail
  go_end0
  exact ⟨⟨_, rfl⟩, q2, xs2, HA2.out, by simpa using HP2.out, HL2.out⟩

set_option maxHeartbeats 1000000 in
theorem places_any (t : Tm) (v : Value) (w : World) (X : Nat → Prop) (hv : TV w X v t) :
    Calls Try.prog 9 #[v] w fun e w' => ∃ v', e = .returned (.tuple #[v', .int .i64 (mayE t)]) ∧ (mayE t = 0 → ∃ xs, w'.ownsRow w.heap.size 22 1 v' (plcT t).length xs ∧ RowP w' (fun b => w.heap.size ≤ b) (plcT t) xs) ∧ (mayE t ≠ 0 → v' = .slice none 0 0) ∧ Below w.heap.size w w' := by
  obtain ⟨X', hX, hv'⟩ : ∃ X' : Nat → Prop, (∀ b, X' b → b < w.heap.size) ∧ TV w X' v t := ⟨fun b => X b ∧ b < w.heap.size, fun _ h => h.2, hv.mono fun b h1 h2 => ⟨h1, h2⟩⟩
  clear hv
  obtain ⟨a, c, rfl, hs⟩ := hv'
  have HV := hide (show TV w X' (.agg #[.string t.name, .slice a t.args.length c]) t from ⟨a, c, rfl, hs⟩)
  have HX := hide hX
  clear hs hX
  refine (callsIn_wide (n := 9)).1 ?_
  refine callsIn_of_wp_marks Try.func9 rfl trivial ?_ rfl
  simp only [Try.ntmps9, List.size_toArray, List.length_cons, List.length_nil, Nat.reduceAdd, Nat.reduceSub, Array.replicate_succ, Array.replicate_zero, List.push_toArray, List.append_toArray, List.nil_append, List.cons_append]
  have hf1 : Fence.wide.fn 20 := trivial
  have hf2 : Fence.wide.fn 26 := trivial
  gi_wp2
  refine (callsIn_wide.2 (check_any t _ _ X' (by exact HV.out.alloc _))).mono ?_
  rintro e w1 ⟨rfl, hb1⟩
  have hbk := (Blk.new w #[.string t.name, .slice a t.args.length c] 25).below hb1 (by simp)
  have c0 : w1.cell? ⟨w.heap.size, 0, none⟩ = some (.string t.name) := hbk.cell 0
  have c1 : w1.cell? ⟨w.heap.size, 1, none⟩ = some (.slice a t.args.length c) := hbk.cell 1
  have HB := hide (((Below.refl w.heap.size w).alloc (Nat.le_refl _) (.cells #[.string t.name, .slice a t.args.length c] 25)).trans (hb1.mono (by simp)))
  have hwz : w.heap.size < w1.heap.size := by have := hbk.lt; omega
  clear hb1 hbk
  by_cases h : mayE t = 0
  · have HM := hide h
    have HE : Hid (sizeL [t] ≤ 200) := by
      unfold mayE at h
      split at h
      · exact absurd h (by decide)
      · unfold Hid; omega
    rw [h]
    clear h
    have c0' : (w1.alloc (.cells #[.slice none 0 0] 33)).cell? ⟨w.heap.size, 0, none⟩ = some (.string t.name) := (World.cell?_of_block (Below.heap_alloc _ _ _ hwz)).trans c0
    have c1' : (w1.alloc (.cells #[.slice none 0 0] 33)).cell? ⟨w.heap.size, 1, none⟩ = some (.slice a t.args.length c) := (World.cell?_of_block (Below.heap_alloc _ _ _ hwz)).trans c1
    gi_wp2_with (gi_at_call 26; refine (callsIn_wide.2 (down0_any _ _ ⟨_, _, _, _, rfl⟩)).mono ?_; rintro e w3 ⟨rfl, s', a', k', c', hv', rfl⟩; cases hv')
    clear c0' c1' c0 c1
    refine wp_range (gf := 50) (lb := #[.pointer (some ⟨w1.heap.size + 1, 0, none⟩), .pointer (some ⟨w1.heap.size + 1 + 1, 0, none⟩)]) rfl (enters_of Try.func50 (by kernel_rfl) rfl) ?_
    intro r hr1 hr2 hr3 hr4 hr5 hr6
    have hwA : w1.heap.size < w1.heap.size + 3 + 2 := by omega
    have RH : RoundH w1.heap.size (w1.heap.size + 3 + 2) (w1.heap.size + 3 + 1) r := by
      have HR1 := hide hr1
      have HR2 := hide hr2
      have HR3 := hide hr3
      have HR4 := hide hr4
      have HR5 := hide hr5
      have HR6 := hide hr6
      clear hr1 hr2 hr3 hr4 hr5 hr6
      obtain ⟨rb, hrb⟩ : ∃ rb : Loop, rb = { r with state := .busy } := ⟨_, rfl⟩
      intro n u tv hs Y ps q xs W htv hNW hYW hlW hAW hpW hpsl hhsl
      obtain ⟨z, rfl⟩ := htv
      refine yield_on hrb HR5.out HR6.out HR4.out HR3.out hlW HR1.out HR2.out rfl ?_
      clear hrb
      have PV0 := PlAt.enter (o := .loop rb) (lp := w1.heap.size + 3 + 1) (by omega) hpW
      have hzV : (W.putObj (w1.heap.size + 3 + 1) (.loop rb)).heap.size = W.heap.size := by simp
      have hAV : Blk (W.putObj (w1.heap.size + 3 + 1) (.loop rb)) w1.heap.size #[q] 33 := (World.putObj_heap_other (by omega)).trans hAW
      have hLV : (W.putObj (w1.heap.size + 3 + 1) (.loop rb)).heap[w1.heap.size + 3 + 1]? = some (.loop rb) := World.putObj_heap_same (Array.getElem?_eq_some_iff.1 hlW).1
      have HFIN : Hid (∀ q' xs' w3, PlAt w1.heap.size (W.putObj (w1.heap.size + 3 + 1) (.loop rb)) (w1.heap.size + 3 + 2) q u hs Y (ps ++ [hs]) q' xs' w3 → PlAt w1.heap.size W (w1.heap.size + 3 + 2) q u hs Y (ps ++ [hs]) q' xs' (w3.putObj (w1.heap.size + 3 + 1) (.loop r))) := fun q' xs' w3 h => PlAt.leave (by omega) hlW h
      have HLW := hide hlW
      have HPV := hide PV0
      have HAV := hide hAV
      have HLV := hide hLV
      have hNV : w1.heap.size + 3 + 2 ≤ (W.putObj (w1.heap.size + 3 + 1) (.loop rb)).heap.size := by omega
      have HYV : Hid (∀ b, Y b → b < (W.putObj (w1.heap.size + 3 + 1) (.loop rb)).heap.size) := fun b hb => by have := hYW b hb; omega
      have hf3 : (Fence.wide.inRound (w1.heap.size + 3 + 1)).fn 27 := trivial
      clear hpW PV0 hLV hAV hAW hYW
      gi_wp2
      clear hlW
      generalize W.putObj (w1.heap.size + 3 + 1) (.loop rb) = V at *
      have k0 : V.cell? ⟨w1.heap.size, 0, none⟩ = some q := HAV.out.cell 0
      have hmo : Try.prog.follows .mixedOrders = true := by kernel_rfl
      have HPU : Hid (∀ (w2 : World) (x : Value), Below V.drew.heap.size V.drew w2 → PV w2 (fun b => V.drew.heap.size ≤ b) x hs → w2.cell? ⟨w1.heap.size, 0, none⟩ = some q ∧ (∀ o, (w2.alloc o).cell? ⟨w1.heap.size, 0, none⟩ = some q) ∧ ∃ g1 p1 w3, (Builtin.append_ #[33, 33] 33 #[q, .slice (some ⟨w2.heap.size, 0, none⟩) 1 1]).run Try.prog (w2.alloc (.cells #[x] 22)) = .ok (.slice (some ⟨g1, 0, none⟩) (ps.length + 1) p1) w3 ∧ (w3.setCell ⟨w1.heap.size, 0, none⟩ (.slice (some ⟨g1, 0, none⟩) (ps.length + 1) p1)).heap[w1.heap.size + 3 + 1]? = some (.loop rb) ∧ w3.cell? ⟨w1.heap.size, 0, none⟩ = some q ∧ w3.frozen? ⟨w1.heap.size, 0, none⟩ = false ∧
          ∃ q' xs', Blk ((w3.setCell ⟨w1.heap.size, 0, none⟩ (.slice (some ⟨g1, 0, none⟩) (ps.length + 1) p1)).putObj (w1.heap.size + 3 + 1) (.loop r)) w1.heap.size #[q'] 33 ∧ PlAt w1.heap.size W (w1.heap.size + 3 + 2) q u hs Y (ps ++ [hs]) q' xs' ((w3.setCell ⟨w1.heap.size, 0, none⟩ (.slice (some ⟨g1, 0, none⟩) (ps.length + 1) p1)).putObj (w1.heap.size + 3 + 1) (.loop r)) ∧ ((w3.setCell ⟨w1.heap.size, 0, none⟩ (.slice (some ⟨g1, 0, none⟩) (ps.length + 1) p1)).putObj (w1.heap.size + 3 + 1) (.loop r)).heap[w1.heap.size + 3 + 1]? = some (.loop r)) := fun w2 x hb2 hp2 => by
        have hb2' : Below V.heap.size V w2 := ((Below.refl V.heap.size V).drew).trans hb2
        obtain ⟨q1, w3, hr1, hpl, hg⟩ := PlAt.push (by omega) HPV.out hNV HYV.out hb2' hp2 hpsl _ rfl
        obtain ⟨g1, p1, rfl⟩ := own_slice (n := ps.length) (by simpa using hpl.1)
        have hgs := hg.size
        simp at hgs
        have hbs := hb2'.size
        have hlt := HPV.out.1.lt
        have kp : ∀ b, b < w1.heap.size + 3 + 2 → w3.heap[b]? = V.heap[b]? := fun b hb => (hg.block b (by simp; omega) (fun e => by have := (hlt b e.symm).1; omega)).trans ((Below.heap_alloc _ _ _ (by omega)).trans (hb2'.block b (by omega)))
        have hA3 : Blk w3 w1.heap.size #[q] 33 := (kp _ (by omega)).trans HAV.out
        have hA2 : Blk w2 w1.heap.size #[q] 33 := (hb2'.block _ (by omega)).trans HAV.out
        refine ⟨hA2.cell 0, fun o => (hA2.alloc o).cell 0, g1, p1, w3, hr1, ?_, hA3.cell 0, hA3.frozen 0, _, _, ?_, HFIN.out _ _ _ (PlAt.store (by omega) hpl _), ?_⟩
        · rw [Below.heap_setCell _ _ _ _ (by simp; omega), kp _ (by omega)]
          exact HLV.out
        · exact (World.putObj_heap_other (by omega)).trans (Blk.set1 hA3)
        · exact World.putObj_heap_same (by simp [World.setCell]; omega)
      refine wpIn_region_any hmo ?_
      show wpAnyIn _ _ _ _ _ _ _ _ _ V.drew
      refine wpAnyIn_ready (rs := [0, 1]) (by kernel_rfl) (by simp) ?_
      refine AllReadyIn.cons rfl (fun K hK => ?_) ?_
      · go_simp; refine hK _ _ ?_; clear hK K
        refine wpAnyIn_ready (rs := [1]) (by kernel_rfl) (by simp) ?_
        refine AllReadyIn.cons rfl (fun K hK => ?_) ?_
        · go_simp; refine hK _ _ ?_; clear hK K
          refine wpAnyIn_ready (rs := [2]) (by kernel_rfl) (by simp) ?_
          refine AllReadyIn.cons rfl (fun K hK => ?_) ?_
          · go_simp; refine ⟨trivial, (fun h => by simp [Fence.wide] at h), ?_⟩; refine (CallsIn.inRound _ (callsIn_wide.2 (clone_sl (w := V.drew) (N := w1.heap.size + 3 + 2) (hs := hs) (by exact HPV.out.2.1) hhsl))).mono ?_; rintro e w2 ⟨a2, c2, rfl, hp2, hb2⟩; obtain ⟨k2, k3, g1, p1, w3, hr1, hl1, kA, fA, hfin⟩ := HPU.out w2 (.slice a2 hs.length c2) hb2 hp2; have HR1 := hide hr1; have HFI := hide hfin; clear hr1 hfin; simp only []; refine hK _ _ ?_; clear hK K
            refine wpAnyIn_ready (rs := [3]) (by kernel_rfl) (by simp) ?_
            refine AllReadyIn.cons rfl (fun K hK => ?_) ?_
            · go_simp; refine hK _ _ ?_; clear hK K
              refine wpAnyIn_ready (rs := [4]) (by kernel_rfl) (by simp) ?_
              refine AllReadyIn.cons rfl (fun K hK => ?_) ?_
              · refine stepIn_append_eq rfl _ _ _ _ rfl rfl rfl HR1.out ?_; refine hK _ _ ?_; clear hK K
                refine wpAnyIn_ready (rs := [5]) (by kernel_rfl) (by simp) ?_
                refine AllReadyIn.cons rfl (fun K hK => ?_) ?_
                · go_simp; refine hK _ _ ?_; clear hK K
                  refine wpAnyIn_done (by kernel_rfl) ?_ _
                  obtain ⟨q', xs', f1, f2, f3⟩ := HFI.out; exact ⟨rfl, hl1, q', f1, ⟨xs', f2⟩, f3⟩
                exact AllReadyIn.nil
              exact AllReadyIn.nil
            exact AllReadyIn.nil
          exact AllReadyIn.nil
        exact AllReadyIn.nil
      refine AllReadyIn.cons rfl (fun K hK => ?_) ?_
      · go_simp; refine hK _ _ ?_; clear hK K
        refine wpAnyIn_ready (rs := [0, 2]) (by kernel_rfl) (by simp) ?_
        refine AllReadyIn.cons rfl (fun K hK => ?_) ?_
        · go_simp; refine hK _ _ ?_; clear hK K
          refine wpAnyIn_ready (rs := [2]) (by kernel_rfl) (by simp) ?_
          refine AllReadyIn.cons rfl (fun K hK => ?_) ?_
          · go_simp; refine ⟨trivial, (fun h => by simp [Fence.wide] at h), ?_⟩; refine (CallsIn.inRound _ (callsIn_wide.2 (clone_sl (w := V.drew) (N := w1.heap.size + 3 + 2) (hs := hs) (by exact HPV.out.2.1) hhsl))).mono ?_; rintro e w2 ⟨a2, c2, rfl, hp2, hb2⟩; obtain ⟨k2, k3, g1, p1, w3, hr1, hl1, kA, fA, hfin⟩ := HPU.out w2 (.slice a2 hs.length c2) hb2 hp2; have HR1 := hide hr1; have HFI := hide hfin; clear hr1 hfin; simp only []; refine hK _ _ ?_; clear hK K
            refine wpAnyIn_ready (rs := [3]) (by kernel_rfl) (by simp) ?_
            refine AllReadyIn.cons rfl (fun K hK => ?_) ?_
            · go_simp; refine hK _ _ ?_; clear hK K
              refine wpAnyIn_ready (rs := [4]) (by kernel_rfl) (by simp) ?_
              refine AllReadyIn.cons rfl (fun K hK => ?_) ?_
              · refine stepIn_append_eq rfl _ _ _ _ rfl rfl rfl HR1.out ?_; refine hK _ _ ?_; clear hK K
                refine wpAnyIn_ready (rs := [5]) (by kernel_rfl) (by simp) ?_
                refine AllReadyIn.cons rfl (fun K hK => ?_) ?_
                · go_simp; refine hK _ _ ?_; clear hK K
                  refine wpAnyIn_done (by kernel_rfl) ?_ _
                  obtain ⟨q', xs', f1, f2, f3⟩ := HFI.out; exact ⟨rfl, hl1, q', f1, ⟨xs', f2⟩, f3⟩
                exact AllReadyIn.nil
              exact AllReadyIn.nil
            exact AllReadyIn.nil
          exact AllReadyIn.nil
        refine AllReadyIn.cons rfl (fun K hK => ?_) ?_
        · go_simp; refine ⟨trivial, (fun h => by simp [Fence.wide] at h), ?_⟩; refine (CallsIn.inRound _ (callsIn_wide.2 (clone_sl (w := V.drew) (N := w1.heap.size + 3 + 2) (hs := hs) (by exact HPV.out.2.1) hhsl))).mono ?_; rintro e w2 ⟨a2, c2, rfl, hp2, hb2⟩; obtain ⟨k2, k3, g1, p1, w3, hr1, hl1, kA, fA, hfin⟩ := HPU.out w2 (.slice a2 hs.length c2) hb2 hp2; have HR1 := hide hr1; have HFI := hide hfin; clear hr1 hfin; simp only []; refine hK _ _ ?_; clear hK K
          refine wpAnyIn_ready (rs := [0, 3]) (by kernel_rfl) (by simp) ?_
          refine AllReadyIn.cons rfl (fun K hK => ?_) ?_
          · go_simp; refine hK _ _ ?_; clear hK K
            refine wpAnyIn_ready (rs := [3]) (by kernel_rfl) (by simp) ?_
            refine AllReadyIn.cons rfl (fun K hK => ?_) ?_
            · go_simp; refine hK _ _ ?_; clear hK K
              refine wpAnyIn_ready (rs := [4]) (by kernel_rfl) (by simp) ?_
              refine AllReadyIn.cons rfl (fun K hK => ?_) ?_
              · refine stepIn_append_eq rfl _ _ _ _ rfl rfl rfl HR1.out ?_; refine hK _ _ ?_; clear hK K
                refine wpAnyIn_ready (rs := [5]) (by kernel_rfl) (by simp) ?_
                refine AllReadyIn.cons rfl (fun K hK => ?_) ?_
                · go_simp; refine hK _ _ ?_; clear hK K
                  refine wpAnyIn_done (by kernel_rfl) ?_ _
                  obtain ⟨q', xs', f1, f2, f3⟩ := HFI.out; exact ⟨rfl, hl1, q', f1, ⟨xs', f2⟩, f3⟩
                exact AllReadyIn.nil
              exact AllReadyIn.nil
            exact AllReadyIn.nil
          refine AllReadyIn.cons rfl (fun K hK => ?_) ?_
          · go_simp; refine hK _ _ ?_; clear hK K
            refine wpAnyIn_ready (rs := [0]) (by kernel_rfl) (by simp) ?_
            refine AllReadyIn.cons rfl (fun K hK => ?_) ?_
            · go_simp; refine hK _ _ ?_; clear hK K
              refine wpAnyIn_ready (rs := [4]) (by kernel_rfl) (by simp) ?_
              refine AllReadyIn.cons rfl (fun K hK => ?_) ?_
              · refine stepIn_append_eq rfl _ _ _ _ rfl rfl rfl HR1.out ?_; refine hK _ _ ?_; clear hK K
                refine wpAnyIn_ready (rs := [5]) (by kernel_rfl) (by simp) ?_
                refine AllReadyIn.cons rfl (fun K hK => ?_) ?_
                · go_simp; refine hK _ _ ?_; clear hK K
                  refine wpAnyIn_done (by kernel_rfl) ?_ _
                  obtain ⟨q', xs', f1, f2, f3⟩ := HFI.out; exact ⟨rfl, hl1, q', f1, ⟨xs', f2⟩, f3⟩
                exact AllReadyIn.nil
              exact AllReadyIn.nil
            exact AllReadyIn.nil
          exact AllReadyIn.nil
        exact AllReadyIn.nil
      exact AllReadyIn.nil
    have hz3 : (((w1.alloc (.cells #[.slice none 0 0] 33)).alloc (.cells #[.string t.name, .slice a t.args.length c] 25)).alloc (.cells #[.slice none 0 0] 22)).heap.size = w1.heap.size + 3 := by simp
    have hB3 : Below w1.heap.size w1 (((w1.alloc (.cells #[.slice none 0 0] 33)).alloc (.cells #[.string t.name, .slice a t.args.length c] 25)).alloc (.cells #[.slice none 0 0] 22)) := (((Below.refl _ _).alloc (Nat.le_refl _) _).alloc (by simp) _).alloc (by simp; omega) _
    have hA0 : Blk (((w1.alloc (.cells #[.slice none 0 0] 33)).alloc (.cells #[.string t.name, .slice a t.args.length c] 25)).alloc (.cells #[.slice none 0 0] 22)) w1.heap.size #[.slice none 0 0] 33 := ((Blk.new w1 #[.slice none 0 0] 33).alloc _).alloc _
    have hT0 : Blk (((w1.alloc (.cells #[.slice none 0 0] 33)).alloc (.cells #[.string t.name, .slice a t.args.length c] 25)).alloc (.cells #[.slice none 0 0] 22)) (w1.heap.size + 1) #[.string t.name, .slice a t.args.length c] 25 := by
      have h1 := (Blk.new (w1.alloc (.cells #[.slice none 0 0] 33)) #[.string t.name, .slice a t.args.length c] 25).alloc (.cells #[.slice none 0 0] 22)
      rw [World.size_alloc] at h1
      exact h1
    have hF0 : Blk (((w1.alloc (.cells #[.slice none 0 0] 33)).alloc (.cells #[.string t.name, .slice a t.args.length c] 25)).alloc (.cells #[.slice none 0 0] 22)) (w1.heap.size + 1 + 1) #[.slice none 0 0] 22 := by
      have h1 := Blk.new ((w1.alloc (.cells #[.slice none 0 0] 33)).alloc (.cells #[.string t.name, .slice a t.args.length c] 25)) #[.slice none 0 0] 22
      rw [World.size_alloc, World.size_alloc] at h1
      exact h1
    generalize (((w1.alloc (.cells #[.slice none 0 0] 33)).alloc (.cells #[.string t.name, .slice a t.args.length c] 25)).alloc (.cells #[.slice none 0 0] 22)) = W0 at *
    rw [hz3]
    have hB5 : Below W0.heap.size W0 ((W0.alloc (.deferred (some []))).alloc (.loop r)) := ((Below.refl _ _).alloc (Nat.le_refl _) _).alloc (by simp) _
    have hz5 : ((W0.alloc (.deferred (some []))).alloc (.loop r)).heap.size = w1.heap.size + 3 + 2 := by simp; omega
    have hL5 : ((W0.alloc (.deferred (some []))).alloc (.loop r)).heap[w1.heap.size + 3 + 1]? = some (.loop r) := by
      have h1 := World.alloc_heap_new (W0.alloc (.deferred (some []))) (.loop r)
      rw [World.size_alloc, hz3] at h1
      exact h1
    have hD5 : ((W0.alloc (.deferred (some []))).alloc (.loop r)).heap[w1.heap.size + 3]? = some (.deferred (some [])) := by
      have h1 := (Below.heap_alloc (W0.alloc (.deferred (some []))) (.loop r) W0.heap.size (by simp)).trans (World.alloc_heap_new W0 (.deferred (some [])))
      rw [hz3] at h1
      exact h1
    have hBw : Below w.heap.size w ((W0.alloc (.deferred (some []))).alloc (.loop r)) := (HB.out.trans (hB3.mono (by omega))).trans (hB5.mono (by omega))
    generalize ((W0.alloc (.deferred (some []))).alloc (.loop r)) = W5 at *
    have hA5 : Blk W5 w1.heap.size #[.slice none 0 0] 33 := hA0.below hB5 (by omega)
    refine (down1_any w1.heap.size (w1.heap.size + 3 + 2) (w1.heap.size + 3 + 1) r (by omega) RH t (w1.heap.size + 1) (w1.heap.size + 1 + 1) a c X' W5 (hT0.below hB5 (by omega)) (hF0.below hB5 (by omega)) (by
      obtain ⟨a1, c1, e1, h1⟩ := HV.out
      cases e1
      exact h1.later hBw) (fun b hb => by have := HX.out b hb; omega) (by omega) hA5 hL5 (by have := HE.out; omega)).mono ?_
    rintro e W ⟨hret, q2, xs2, hA2, hp2, hl2⟩
    have HFR : Hid (Below w.heap.size w W) := hp2.2.2.2.1.belowN hBw (by omega) (by omega)
    have HD2 : Hid (W.heap[w1.heap.size + 3]? = some (.deferred (some []))) := (hp2.2.2.2.1.2.2.2.2 _ (by omega) (by omega) (by simp [Value.ownBlock]) (by simp [Value.ownBlock])).trans hD5
    have HP2 := hide hp2
    have HWZ : Hid (w1.heap.size + 3 + 2 ≤ W.heap.size) := by have := hp2.2.2.2.1.2.2.2.1; unfold Hid; omega
    refine ⟨hret, hl2, ?_⟩
    have a0 : (W.putObj (w1.heap.size + 3 + 1) (.loop { r with state := .exhausted })).cell? ⟨w1.heap.size, 0, none⟩ = some q2 := (World.cell?_of_block (World.putObj_heap_other (by simp; omega))).trans (hA2.cell 0)
    clear hp2 hA2 hl2 hB5 hB3 hBw hA5 hD5 hL5 hA0 hT0 hF0 RH hr1 hr2 hr3 hr4 hr5 hr6
    gi_wp2
    refine ⟨by simp, .inl ⟨_, _, rfl, run_takeDeferred ((World.putObj_heap_other (by omega)).trans HD2.out), ?_⟩⟩
    refine ⟨.tuple #[q2, .int .i64 0], by simp [results, Try.results9, go_sem], q2, by rw [HM.out], fun _ => ⟨xs2, ?_, ?_⟩, fun h => absurd HM.out h, ?_⟩
    · exact owns_le (own_put (own_put HP2.out.1 (by omega)) (by omega)) (by omega)
    · refine HP2.out.2.2.1.imp fun x z hp => (hp.kept fun b hb => ?_).mono fun b hb _ => by have := hb.1; omega
      rw [World.putObj_heap_other (by have := hb.1; omega), World.putObj_heap_other (by have := hb.1; omega)]
    · refine ⟨HFR.out.os, HFR.out.tape, HFR.out.output, by simp; have := HWZ.out; omega, fun b hb => ?_⟩
      rw [World.putObj_heap_other (by omega), World.putObj_heap_other (by omega)]
      exact HFR.out.block b hb
  · have h' : (mayE t == 0) = false := by simpa using h
    have HM := hide h
    clear h
    gi_wp2
    exact ⟨.tuple #[.slice none 0 0, .int .i64 (mayE t)], by simp [results, Try.results9, go_sem], _, rfl, fun h => absurd h HM.out, fun _ => rfl, HB.out⟩
#print axioms places_any
end Go.Proofs.Ythlgknglalcggai
