/- Several texts in one. -/
import Derived.Test.YtcjdbbdmighliacZBRewriteEndsOwn
import Derived.Test.YtcjdbbdmighliacShelf
import Derived.Test.YtcjdbbdmighliacZRewriteEndsOwn
import Derived.RangeFuncNested
import Derived.RangeFuncBound
import Derived.RangeFuncCalls
import Derived.RangeFuncLeaves
import Derived.RangeFuncWrites
import Derived.Shelf.Abstract
import Derived.Shelf.RegionOpen
import Derived.OwnWalkIn
import Derived.TacticsInMore
import Derived.LoopNIn
import Derived.LoopIn
import Derived.Deep.RegionHeld3

/- Rows of places that are gathered along a path. -/
namespace Go.Proofs.Ytcjdbbdmighliac
open Go.RowKit
set_option linter.unusedSimpArgs false
set_option linter.unusedVariables false

/-- An append whose outcome is known, at a step of a region that draws its order. -/
theorem step_append_eq {P : Program} {ops : Array Oper} {o : Oper} {a : Act} {K : Act → World → Prop} {Q : Exit → Act → World → Prop} {E : Prop} {w w' : World} {v u v' : Value} (hgd : o.guard = none) (s x : Operand) (t t' : TypeId)
    (ho : o.op = .call { callee := .builtin .append, args := #[s, x], argTypes := #[t, t'] }) (hs : a.eval s = v) (hx : a.eval x = u)
    (hr : (Builtin.append_ #[t, t'] o.type #[v, u]).run P w = .ok v' w') (h : K (a.put o.dst v') w') : if Region.wanted o (yielded ops a.tmps) = true then Oper.wp P o a w K Q else E := by
  have hw : Region.wanted o (yielded ops a.tmps) = true := by simp [Region.wanted, hgd]
  rw [if_pos hw]
  unfold Oper.wp execOp
  simp only [ho, resolve, invoke, builtin, Sem.run_bind, Sem.run_pure, Result.andThen_ok, List.map_toArray, List.map_cons, List.map_nil, hs, hx, hr]
  exact h

/-- Rows of two types lie in two blocks. -/
theorem own_far {w : World} {N N' T T' n m : Nat} {q u : Value} {xs ys : List Value} (h : w.ownsRow N T 1 q n xs) (h' : w.ownsRow N' T' 1 u m ys) (hT : T ≠ T') (k : Nat) (hk : q.ownBlock = some k) : u.ownBlock ≠ some k := by
  intro e
  obtain ⟨_, h⟩ := h
  obtain ⟨_, h'⟩ := h'
  rcases h with ⟨rfl, _⟩ | ⟨g, cap, cur, rfl, _, hg, _⟩
  · simp [Value.ownBlock] at hk
  · rcases h' with ⟨rfl, _⟩ | ⟨g', cap', cur', rfl, _, hg', _⟩
    · simp [Value.ownBlock] at e
    · simp [Value.ownBlock] at hk e
      subst hk; subst e
      rw [hg] at hg'; simp at hg'; exact hT hg'.2

/-- How a path and the path that is one step longer lie. -/
def Ext (W W' : World) (u u' : Value) (n : Nat) : Prop :=
  (∃ g cap, u = .slice (some ⟨g, 0, none⟩) n cap ∧ u' = .slice (some ⟨g, 0, none⟩) (n + 1) cap) ∨ ((∀ k, u'.ownBlock = some k → W.heap.size ≤ k) ∧ Below W.heap.size W W')

theorem here_step {W : World} {N : Nat} {u : Value} {hs : List Int} (h : W.ownsRow N 3 1 u hs.length (hs.map fun z => .int .i64 z)) (hN : N ≤ W.heap.size) (i : Int) (F : Nat) (hF : W.heap[F]? = some (.cells #[.int .i64 i] 3 (0, 0))) (hn : hs.length ≤ 1000000) :
    ∃ u' W', (Builtin.append_ #[34, 34] 34 #[u, .slice (some ⟨F, 0, none⟩) 1 1]).run Try.prog W = .ok u' W' ∧ W'.ownsRow N 3 1 u' (hs ++ [i]).length ((hs ++ [i]).map fun z => .int .i64 z) ∧ W.grownBy W' u.ownBlock ∧ Ext W W' u u' hs.length := by
  obtain ⟨i0, hi, hz0, hz1, hz2⟩ := info_parts Try.infoInt
  have hFc : W.cell? ⟨F, 0, none⟩ = some (.int .i64 i) := by simp [World.cell?, hF]
  have hsrc : Src Try.prog i0.size 34 (.slice (some ⟨F, 0, none⟩) 1 1) 1 [.int .i64 i] W := by
    rw [hz1]
    refine Src.ofSlice W Try.underlying34 ⟨F, 0, none⟩ 1 1 _ (by simp) (fun j v hj => ?_) (by intro v hv; simp at hv; subst hv; rfl)
    match j, hj with
    | 0, hj => simp at hj; subst hj; simpa [Addr.add] using hFc
  have h' := h
  obtain ⟨hl, h1⟩ := h
  have grow : ∀ (base : Option Addr) (cap : Nat), u = .slice base hs.length cap → (Builtin.firstCells i0.size hs.length (.slice base hs.length cap)).run Try.prog W.drew = .ok (hs.map fun z => Value.int .i64 z).toArray W.drew → cap < hs.length + 1 → cap ≤ 1000000 → 
      ∃ u' W', (Builtin.append_ #[34, 34] 34 #[u, .slice (some ⟨F, 0, none⟩) 1 1]).run Try.prog W = .ok u' W' ∧ W'.ownsRow N 3 1 u' (hs ++ [i]).length ((hs ++ [i]).map fun z => .int .i64 z) ∧ W.grownBy W' u.ownBlock ∧ Ext W W' u u' hs.length := by
    intro base cap hu hfc hcap hcm
    subst hu
    have hg := run_append_grow_src (P := Try.prog) W 34 34 34 3 i0 (.int .i64 0) Try.underlying34 hi hz0 base hs.length cap _ hfc _ 1 _ hsrc (by omega) (by omega) (by rw [hz2]; exact growslice_fits (by omega) (by omega))
    have hge := grownCap_ge W (hs.length + 1) cap 3
    have hcm := grownCap_le_maxLen W (hs.length + 1) cap 3 (by unfold maxLen; omega)
    have hbl : Below W.heap.size W (W.drew.alloc (.cells (((hs.map fun z => Value.int .i64 z) ++ [Value.int .i64 i]).toArray ++ Builtin.zeroCells (Value.int .i64 0).cells (grownCap W (hs.length + 1) cap 3 - (hs.length + 1))) 3)) := ((Below.refl W.heap.size W).drew).alloc (Nat.le_refl _) _
    refine ⟨_, _, hg, ⟨by simp, Or.inr ⟨W.heap.size, _, _, by simp, hN, heap_alloc_new W.drew _, by simp; omega, hcm, ?_, ?_⟩⟩, grown_of_below hbl _, Or.inr ⟨fun k hk => ?_, hbl⟩⟩
    · simp [Builtin.zeroCells, Value.cells]; omega
    · rw [Array.toList_append, List.take_append_of_le_length (by simp), List.take_of_length_le (by simp)]; simp
    · simp [Value.ownBlock] at hk; omega
  rcases h1 with ⟨hu, h0⟩ | ⟨g, cap, cur, hu, hgN, hgb, hnc, hcm, hcs, htk⟩
  · have e : hs = [] := List.length_eq_zero_iff.1 h0
    subst e
    exact grow none 0 hu (by simp [Builtin.firstCells, go_sem]) (by simp) (by omega)
  · by_cases hroom : hs.length + 1 ≤ cap
    · subst hu
      simp only [Nat.mul_one] at hcs htk
      have hgl : g < W.heap.size := (h'.lt g rfl).2
      have hnz : hs.length < cur.size := by omega
      have hg := run_append_room_src (P := Try.prog) W 34 34 34 3 i0 Try.underlying34 hi g 0 hs.length cap _ 1 _ hsrc hroom (fun j hj => by simp at hj; subst hj; rw [hz1]; simp [World.cell?, hgb, hnz]) (fun j hj => by simp at hj; subst hj; rw [hz1]; simp [World.frozen?, hgb])
      rw [hz1] at hg
      simp only [World.setCells, Nat.zero_add, Nat.mul_one] at hg
      refine ⟨_, _, hg, ⟨by simp, Or.inr ⟨g, cap, cur.setIfInBounds hs.length (.int .i64 i), by simp, hgN, ?_, by simpa using hroom, hcm, by simp [hcs], ?_⟩⟩, ⟨rfl, rfl, rfl, by simp [World.setCell], fun k hk hkb => Below.heap_setCell _ _ _ _ (by simp [Value.ownBlock] at hkb; simpa using hkb)⟩, Or.inl ⟨g, cap, rfl, rfl⟩⟩
      · simp [World.setCell, Array.getElem?_modify, hgb]
      · simp only [Array.toList_setIfInBounds, List.length_append, List.length_singleton, Nat.mul_one, List.map_append, List.map_cons, List.map_nil]
        rw [List.take_succ_eq_append_getElem (by simpa using hnz), List.take_set_of_le (by omega), htk]
        simp
    · exact grow (some ⟨g, 0, none⟩) cap hu (by
        have hc := h'.cells (g := g) (by rw [hu]; rfl)
        exact run_firstCells_some (P := Try.prog) W.drew i0.size hs.length ⟨g, 0, none⟩ hs.length cap _ (by rw [hz1]; simp) (fun j v hj => hc j v hj)) (by omega) (by omega)

/-- All but two rows and one block are as they were. -/
def Fr2 (A : Nat) (w w' : World) (q u : Value) : Prop :=
  w'.os = w.os ∧ w'.tape = w.tape ∧ w'.output = w.output ∧ w.heap.size ≤ w'.heap.size ∧ ∀ b, b < w.heap.size → b ≠ A → some b ≠ q.ownBlock → some b ≠ u.ownBlock → w'.heap[b]? = w.heap[b]?

theorem Fr2.of_below {A : Nat} {w w' : World} (hb : Below w.heap.size w w') (q u : Value) : Fr2 A w w' q u := ⟨hb.os, hb.tape, hb.output, hb.size, fun k hk _ _ _ => hb.block k hk⟩
theorem Fr2.of_grown {A : Nat} {w w' : World} {q : Value} (hb : w.grownBy w' q.ownBlock) (u : Value) : Fr2 A w w' q u := ⟨hb.os, hb.tape, hb.output, hb.size, fun k hk _ h _ => hb.block k hk h⟩
theorem Fr2.of_grown' {A : Nat} {w w' : World} {u : Value} (hb : w.grownBy w' u.ownBlock) (q : Value) : Fr2 A w w' q u := ⟨hb.os, hb.tape, hb.output, hb.size, fun k hk _ _ h => hb.block k hk h⟩
theorem Fr2.trans {A : Nat} {w w1 w2 : World} {q q1 u u1 : Value} (h : Fr2 A w w1 q u) (h1 : Fr2 A w1 w2 q1 u1) (hq : ∀ k, q1.ownBlock = some k → q.ownBlock = some k ∨ w.heap.size ≤ k) (hu : ∀ k, u1.ownBlock = some k → u.ownBlock = some k ∨ w.heap.size ≤ k) : Fr2 A w w2 q u :=
  ⟨h1.1.trans h.1, h1.2.1.trans h.2.1, h1.2.2.1.trans h.2.2.1, Nat.le_trans h.2.2.2.1 h1.2.2.2.1, fun b hb hbA hbq hbu => (h1.2.2.2.2 b (Nat.lt_of_lt_of_le hb h.2.2.2.1) hbA
    (fun e => by rcases hq b e.symm with h2 | h2; exact hbq h2.symm; omega) (fun e => by rcases hu b e.symm with h2 | h2; exact hbu h2.symm; omega)).trans (h.2.2.2.2 b hb hbA hbq hbu)⟩

theorem Fr2.own {A : Nat} {w w' : World} {q u v : Value} {N T n : Nat} {xs : List Value} (hAN : A < N) (h : Fr2 A w w' q u) (hv : w.ownsRow N T 1 v n xs) (hq : ∀ k, v.ownBlock = some k → q.ownBlock ≠ some k) (hu : ∀ k, v.ownBlock = some k → u.ownBlock ≠ some k) : w'.ownsRow N T 1 v n xs := by
  have hlt := hv.lt
  obtain ⟨h1, h2⟩ := hv
  refine ⟨h1, h2.imp id ?_⟩
  rintro ⟨g, cap, cur, rfl, hg, hh, hr⟩
  exact ⟨g, cap, cur, rfl, hg, by rw [h.2.2.2.2 g (hlt g rfl).2 (by have := (hlt g rfl).1; omega) (fun e => hq g rfl e.symm) (fun e => hu g rfl e.symm)]; exact hh, hr⟩

theorem PV.fr2 {A : Nat} {w w' : World} {Z : Nat → Prop} {x : Value} {z : List Int} {q u : Value} (h : PV w Z x z) (hg : Fr2 A w w' q u) (hA : ∀ b, Z b → b ≠ A) (hq : ∀ b, Z b → some b ≠ q.ownBlock) (hu : ∀ b, Z b → some b ≠ u.ownBlock) : PV w' (fun b => Z b ∧ b < w.heap.size) x z := by
  have h1 : PV w (fun b => Z b ∧ b < w.heap.size) x z := h.mono fun b h1 h2 => ⟨h1, h2⟩
  exact h1.kept fun b hx => hg.2.2.2.2 b hx.2 (hA b hx.1) (hq b hx.1) (hu b hx.1)

/-- Places that are gathered, and the path that stays. -/
def PlAt (A : Nat) (w0 : World) (N : Nat) (q0 u : Value) (hs : List Int) (Y : Nat → Prop) (ps : List (List Int)) (q : Value) (xs : List Value) (wr : World) : Prop :=
  wr.ownsRow N 34 1 q ps.length xs ∧ wr.ownsRow N 3 1 u hs.length (hs.map fun z => .int .i64 z) ∧ RowP wr (fun b => N ≤ b ∧ some b ≠ q.ownBlock ∧ some b ≠ u.ownBlock ∧ ¬ Y b) ps xs ∧ Fr2 A w0 wr q0 u ∧ (∀ k, q.ownBlock = some k → q0.ownBlock = some k ∨ w0.heap.size ≤ k)

theorem pl_ne : (34 : Nat) ≠ 3 := by decide

theorem PlAt.far {A : Nat} {w0 wr : World} {N : Nat} {q0 q u : Value} {hs : List Int} {Y : Nat → Prop} {ps : List (List Int)} {xs : List Value} (h : PlAt A w0 N q0 u hs Y ps q xs wr) (k : Nat) (hk : q.ownBlock = some k) : u.ownBlock ≠ some k := own_far h.1 h.2.1 pl_ne k hk
theorem PlAt.far' {A : Nat} {w0 wr : World} {N : Nat} {q0 q u : Value} {hs : List Int} {Y : Nat → Prop} {ps : List (List Int)} {xs : List Value} (h : PlAt A w0 N q0 u hs Y ps q xs wr) (k : Nat) (hk : u.ownBlock = some k) : q.ownBlock ≠ some k := own_far h.2.1 h.1 (Ne.symm pl_ne) k hk

theorem PlAt.later {A : Nat} {w0 w1 w2 : World} {N : Nat} {q0 q u : Value} {hs : List Int} {Y : Nat → Prop} {ps : List (List Int)} {xs : List Value} (hAN : A < N) (h : PlAt A w0 N q0 u hs Y ps q xs w1) (hb : Below w1.heap.size w1 w2) : PlAt A w0 N q0 u hs Y ps q xs w2 := by
  refine ⟨Fr2.own hAN (Fr2.of_below (A := A) hb (.slice none 0 0) (.slice none 0 0)) h.1 (by simp [Value.ownBlock]) (by simp [Value.ownBlock]), Fr2.own hAN (Fr2.of_below (A := A) hb (.slice none 0 0) (.slice none 0 0)) h.2.1 (by simp [Value.ownBlock]) (by simp [Value.ownBlock]), h.2.2.1.imp fun u z hp => hp.later hb, h.2.2.2.1.trans (Fr2.of_below hb q u) h.2.2.2.2 (fun k h => Or.inl h), h.2.2.2.2⟩

theorem PlAt.here {A : Nat} {w0 w1 : World} {N : Nat} {q0 q u : Value} {hs : List Int} {Y : Nat → Prop} {ps : List (List Int)} {xs : List Value} (h : PlAt A w0 N q0 u hs Y ps q xs w1) : PlAt A w1 N q u hs Y ps q xs w1 := ⟨h.1, h.2.1, h.2.2.1, Fr2.of_below (Below.refl _ _) _ _, fun _ h => Or.inl h⟩

theorem PlAt.push {A : Nat} {w0 wr w1 : World} {N : Nat} {q0 q u : Value} {hs : List Int} {Y : Nat → Prop} {ps : List (List Int)} {xs : List Value} (hAN : A < N) (h : PlAt A w0 N q0 u hs Y ps q xs wr) (hN : N ≤ wr.heap.size) (hY : ∀ b, Y b → b < wr.heap.size) (hb : Below wr.heap.size wr w1) {x : Value} {z : List Int} (hx : PV w1 (fun b => wr.heap.size ≤ b) x z) (hn : ps.length ≤ 1000000) (B0 : Nat) (hA : w1.heap.size = B0) :
    ∃ q' w3, (Builtin.append_ #[78, 78] 78 #[q, .slice (some ⟨B0, 0, none⟩) 1 1]).run Try.prog (w1.alloc (.cells #[x] 34)) = .ok q' w3 ∧ PlAt A w0 N q0 u hs Y (ps ++ [z]) q' (xs ++ [x]) w3 ∧ (w1.alloc (.cells #[x] 34)).grownBy w3 q.ownBlock := by
  subst hA
  obtain ⟨i0, hi, hz0, hz1, hz2⟩ := info_parts Try.infoInts
  have hb2 : Below wr.heap.size wr (w1.alloc (.cells #[x] 34)) := hb.alloc hb.size _
  have h2 := PlAt.later hAN h hb2
  have hfar := h2.far
  have hfar' := h2.far'
  have hs1 := hb.size
  have hltq := h.1.lt
  have hltu := h.2.1.lt
  obtain ⟨g, cap, w3, hr, ho, hg, hga, hgl⟩ := run_append_lies (P := Try.prog) (w := w1.alloc (.cells #[x] 34)) 78 78 N 34 i0 _ 1 24 Try.underlying78 hi hz0 hz1 hz2 rfl (by decide) q ps.length xs h2.1
    ⟨w1.heap.size, 0, none⟩ 1 1 [x] rfl (cell_one_new _ _ _) (fun y hy => by simp at hy; subst hy; exact hx.one) (by decide) (by unfold maxLen; omega) (by omega) (by simp; omega) _ rfl
  have hgu : ∀ b, some b = Value.ownBlock (.slice (some ⟨g, 0, none⟩) (ps.length + 1) cap) → q.ownBlock = some b ∨ w1.heap.size + 1 ≤ b := fun b e => by
    simp [Value.ownBlock] at e
    subst e
    rcases hga with e | e
    · exact Or.inl e
    · right; simp at e; omega
  have hF : Fr2 A (w1.alloc (.cells #[x] 34)) w3 q (.slice none 0 0) := Fr2.of_grown hg _
  refine ⟨_, w3, hr, ⟨by simpa using ho, Fr2.own hAN hF h2.2.1 hfar' (by simp [Value.ownBlock]), ?_, ?_, fun k hk => ?_⟩, hg⟩
  · refine RowP.append (h.2.2.1.imp fun u' z' hp => ?_) ⟨x, [], rfl, ?_, rfl⟩
    · refine ((hp.mono (Y := fun b => (N ≤ b ∧ some b ≠ q.ownBlock ∧ some b ≠ u.ownBlock ∧ ¬ Y b) ∧ b < wr.heap.size) fun b h1 h2 => ⟨h1, h2⟩).kept (w' := w3) fun b hx => ?_).mono fun b hx _ => ⟨hx.1.1, fun e => ?_, hx.1.2.2⟩
      · rw [hg.block b (by simp; omega) hx.1.2.1, hb2.block b hx.2]
      · rcases hgu b e with e | e
        · exact hx.1.2.1 e.symm
        · omega
    · refine ((hx.mono (Y := fun b => wr.heap.size ≤ b ∧ b < w1.heap.size) fun b h1 h2 => ⟨h1, h2⟩).kept (w' := w3) fun b hx => ?_).mono fun b hx _ => ⟨by omega, fun e => ?_, fun e => ?_, fun e => ?_⟩
      · rw [hg.block b (by simp; omega) (fun e => by have := (hltq b e.symm).2; omega), Below.heap_alloc _ _ _ hx.2]
      · rcases hgu b e with e | e
        · have := (hltq b e).2; omega
        · omega
      · have := (hltu b e.symm).2; omega
      · have := hY b e; omega
  · exact h2.2.2.2.1.trans (Fr2.of_grown hg u) h2.2.2.2.2 (fun k h => Or.inl h)
  · rcases hgu k hk.symm with e | e
    · exact h.2.2.2.2 k e
    · right; have := h.2.2.2.1.2.2.2.1; omega

/-- The block itself is written. -/
theorem PlAt.store {A : Nat} {w0 wr : World} {N : Nat} {q0 q u : Value} {hs : List Int} {Y : Nat → Prop} {ps : List (List Int)} {xs : List Value} (hAN : A < N) (h : PlAt A w0 N q0 u hs Y ps q xs wr) (v : Value) : PlAt A w0 N q0 u hs Y ps q xs (wr.setCell ⟨A, 0, none⟩ v) := by
  have hf : Fr2 A wr (wr.setCell ⟨A, 0, none⟩ v) (.slice none 0 0) (.slice none 0 0) := ⟨rfl, rfl, rfl, by simp [World.setCell], fun b hb hA _ _ => Below.heap_setCell _ _ _ _ (by simpa using hA)⟩
  refine ⟨Fr2.own hAN hf h.1 (by simp [Value.ownBlock]) (by simp [Value.ownBlock]), Fr2.own hAN hf h.2.1 (by simp [Value.ownBlock]) (by simp [Value.ownBlock]), h.2.2.1.imp fun x z hp => hp.kept fun b hb => Below.heap_setCell _ _ _ _ (by have := hb.1; simp; omega), h.2.2.2.1.trans hf (by simp [Value.ownBlock]) (by simp [Value.ownBlock]), h.2.2.2.2⟩

/-- The path is as it was, whatever is done behind it. -/
theorem here_back {A : Nat} {W W' W'' : World} {N : Nat} {q u u' : Value} {hs : List Int} {i : Int} (hAN : A < N) (h : W.ownsRow N 3 1 u hs.length (hs.map fun z => .int .i64 z)) (hg : W.grownBy W' u.ownBlock) (he : Ext W W' u u' hs.length) (h' : W''.ownsRow N 3 1 u' (hs ++ [i]).length ((hs ++ [i]).map fun z => .int .i64 z)) (hf : Fr2 A W' W'' q u') (hq : ∀ k, u.ownBlock = some k → q.ownBlock ≠ some k) :
    W''.ownsRow N 3 1 u hs.length (hs.map fun z => .int .i64 z) := by
  rcases he with ⟨g, cap, rfl, rfl⟩ | ⟨hnew, hbl⟩
  · obtain ⟨_, h1⟩ := h
    obtain ⟨_, h2⟩ := h'
    rcases h1 with ⟨h1, _⟩ | ⟨g1, cap1, cur1, h1, hN, _, hnc, hcm, _, _⟩
    · simp at h1
    · rcases h2 with ⟨h2, _⟩ | ⟨g2, cap2, cur2, h2, _, hh, _, _, hcs, htk⟩
      · simp at h2
      · simp at h1 h2
        obtain ⟨rfl, rfl⟩ := h1
        obtain ⟨rfl, rfl⟩ := h2
        refine ⟨by simp, Or.inr ⟨g, cap, cur2, rfl, hN, hh, hnc, hcm, hcs, ?_⟩⟩
        have h3 := congrArg (List.take hs.length) htk
        rw [List.take_take] at h3
        simpa [List.take_append_of_le_length, Nat.min_eq_left] using h3
  · have hlt := h.lt
    exact Fr2.own hAN ((Fr2.of_below hbl q u').trans hf (fun k h => Or.inl h) (fun k h => Or.inl h)) h hq (fun k hk e => by have := hnew k e; have := (hlt k hk).2; omega)

/-- Ahead of the call below. -/
theorem PlAt.down {A : Nat} {w0 wr W W' : World} {N : Nat} {q0 q u u' : Value} {hs : List Int} {Y : Nat → Prop} {ps : List (List Int)} {xs : List Value} {i : Int} (hAN : A < N) (h : PlAt A w0 N q0 u hs Y ps q xs wr) (hb : Below wr.heap.size wr W) (h' : W'.ownsRow N 3 1 u' (hs ++ [i]).length ((hs ++ [i]).map fun z => .int .i64 z)) (hg : W.grownBy W' u.ownBlock) (he : Ext W W' u u' hs.length) :
    PlAt A W' N q u' (hs ++ [i]) (fun b => b < wr.heap.size ∧ (Y b ∨ some b = u.ownBlock)) ps q xs W' := by
  have h2 := PlAt.later hAN h hb
  have hltu := h.2.1.lt
  have hs1 := hb.size
  have hu : ∀ b, b < wr.heap.size → some b = u'.ownBlock → some b = u.ownBlock := fun b hb e => by
    rcases he with ⟨g, cap, rfl, rfl⟩ | ⟨hnew, _⟩
    · simpa [Value.ownBlock] using e
    · have := hnew b e.symm; omega
  refine ⟨Fr2.own hAN (Fr2.of_grown' (A := A) hg (.slice none 0 0)) h2.1 (by simp [Value.ownBlock]) h2.far, h', h.2.2.1.imp fun x z hp => ?_, Fr2.of_below (Below.refl _ _) _ _, fun _ h => Or.inl h⟩
  refine ((hp.mono (Y := fun b => (N ≤ b ∧ some b ≠ q.ownBlock ∧ some b ≠ u.ownBlock ∧ ¬ Y b) ∧ b < wr.heap.size) fun b h1 h2 => ⟨h1, h2⟩).kept (w' := W') fun b hx => ?_).mono fun b hx _ => ⟨hx.1.1, hx.1.2.1, fun e => hx.1.2.2.1 (hu b hx.2 e), fun e => ?_⟩
  · rw [hg.block b (by omega) hx.1.2.2.1, hb.block b hx.2]
  · rcases e.2 with e | e
    · exact hx.1.2.2.2 e
    · exact hx.1.2.2.1 e

/-- Behind the call below. -/
theorem PlAt.up {A : Nat} {w0 wr W W' W'' : World} {N : Nat} {q0 q q' u u' : Value} {hs : List Int} {Y : Nat → Prop} {ps ps' : List (List Int)} {xs xs' : List Value} {i : Int} (hAN : A < N) (h : PlAt A w0 N q0 u hs Y ps q xs wr) (hY : ∀ b, Y b → b < wr.heap.size) (hb : Below wr.heap.size wr W) (hg : W.grownBy W' u.ownBlock) (he : Ext W W' u u' hs.length)
    (h' : PlAt A W' N q u' (hs ++ [i]) (fun b => b < wr.heap.size ∧ (Y b ∨ some b = u.ownBlock)) ps' q' xs' W'') : PlAt A w0 N q0 u hs Y ps' q' xs' W'' := by
  have h2 := PlAt.later hAN h hb
  have hltu := h.2.1.lt
  have hs1 := hb.size
  have hs2 := hg.size
  have hs0 := h.2.2.2.1.2.2.2.1
  have hext : ∀ k, u'.ownBlock = some k → u.ownBlock = some k ∨ W.heap.size ≤ k := fun k hk => by
    rcases he with ⟨g, cap, rfl, rfl⟩ | ⟨hnew, _⟩
    · exact Or.inl hk
    · exact Or.inr (hnew k hk)
  refine ⟨h'.1, here_back hAN h2.2.1 hg he h'.2.1 h'.2.2.2.1 h2.far', h'.2.2.1.imp fun x z hp => hp.mono fun b hx _ => ⟨hx.1, hx.2.1, fun e => hx.2.2.2 ⟨(hltu b e.symm).2, Or.inr e⟩, fun e => hx.2.2.2 ⟨hY b e, Or.inl e⟩⟩, ?_, fun k hk => ?_⟩
  · exact h2.2.2.2.1.trans ((Fr2.of_grown' hg q).trans h'.2.2.2.1 (fun k h => Or.inl h) hext) h2.2.2.2.2 (fun k h => Or.inl h)
  · rcases h'.2.2.2.2 k hk with e | e
    · exact h.2.2.2.2 k e
    · right; omega

#print axioms here_step
#print axioms PlAt.push
#print axioms PlAt.store
#print axioms PlAt.down
#print axioms PlAt.up
end Go.Proofs.Ytcjdbbdmighliac

/- The knots of a term from a place on, each with its place (plain). -/
namespace Go.Proofs.Ytcjdbbdmighliac
open Go.RowKit
set_option linter.unusedSimpArgs false
set_option linter.unusedVariables false

abbrev Dn := List Int × Tm
def hdN (q : List Int) : Nat := (q.headD 0).toNat
/-- Those below a knot: from number st on, there from the place r on. -/
def dnL : List Int → Nat → Nat → List Int → List Tm → List Dn
  | _, _, _, _, [] => []
  | hs, j, st, r, ⟨s, l⟩ :: rest => (if j < st then [] else (hs ++ [(j : Int)], ⟨s, l⟩) :: dnL (hs ++ [(j : Int)]) 0 (hdN (if j = st then r else [])) (if j = st then r else []).tail l) ++ dnL hs (j + 1) st r rest
def dnT (hs fs : List Int) (t : Tm) : List Dn := (hs, t) :: dnL hs 0 (hdN fs) fs.tail t.args

theorem dnL_cons (hs : List Int) (j st : Nat) (r : List Int) (t : Tm) (rest : List Tm) : dnL hs j st r (t :: rest) = (if j < st then [] else dnT (hs ++ [(j : Int)]) (if j = st then r else []) t) ++ dnL hs (j + 1) st r rest := by
  obtain ⟨s, l⟩ := t
  rw [dnL]
  rfl
theorem dnL_append (hs : List Int) (st : Nat) (r : List Int) (a b : List Tm) : ∀ j, dnL hs j st r (a ++ b) = dnL hs j st r a ++ dnL hs (j + a.length) st r b := by
  induction a with
  | nil => intro j; simp [dnL]
  | cons t a ih =>
    intro j
    rw [List.cons_append, dnL_cons, dnL_cons, ih, List.append_assoc, List.length_cons]
    congr 3
    omega
theorem dnL_take (hs : List Int) (st : Nat) (r : List Int) (l : List Tm) (k : Nat) (h : k < l.length) (hst : st ≤ k) : dnL hs 0 st r (l.take (k + 1)) = dnL hs 0 st r (l.take k) ++ dnT (hs ++ [(k : Int)]) (if k = st then r else []) l[k] := by
  rw [List.take_succ_eq_append_getElem h, dnL_append, dnL_cons]
  have e : 0 + (l.take k).length = k := by rw [List.length_take]; omega
  rw [e, if_neg (by omega)]
  simp [dnL]
theorem dnL_before (hs : List Int) (st : Nat) (r : List Int) : ∀ (l : List Tm) (j : Nat), j + l.length ≤ st → dnL hs j st r l = []
  | [], _, _ => by simp [dnL]
  | t :: l, j, h => by
    rw [dnL_cons, dnL_before hs st r l (j + 1) (by simp at h; omega), if_pos (by simp at h; omega)]
    rfl

theorem plc_dn {β : Type} (g : List Int → Tm → List β) : ∀ (l : List Tm) (hs : List Int) (j : Nat) (G : List Int → List β), (∀ k p x, (h : k < l.length) → atT l[k] p = some x → G (((j + k : Nat) : Int) :: p) = g (hs ++ (((j + k : Nat) : Int) :: p)) x) → (dnL hs j 0 [] l).flatMap (fun d => g d.1 d.2) = (plcL j l).flatMap G := by
  intro l
  induction l using Tm.indL with
  | h0 => intro hs j G h; simp [dnL, plcL]
  | h s l rest ih1 ih2 =>
    intro hs j G h
    have h1 : (dnT (hs ++ [(j : Int)]) [] ⟨s, l⟩).flatMap (fun d => g d.1 d.2) = (plcT (⟨s, l⟩ : Tm)).flatMap fun p => G ((j : Int) :: p) := by
      unfold dnT plcT
      rw [List.flatMap_cons, List.flatMap_cons]
      congr 1
      · have := h 0 [] ⟨s, l⟩ (by simp) rfl
        simpa using this.symm
      · refine ih1 (hs ++ [(j : Int)]) 0 _ fun k p x hk hx => ?_
        have := h 0 (((0 + k : Nat) : Int) :: p) x (by simp) (by
          simp only [List.getElem_cons_zero, atT]
          have e : ((0 + k : Nat) : Int).toNat = k := by omega
          rw [dif_pos ⟨by omega, by rw [e]; exact hk⟩]
          simp only [e]
          exact hx)
        simpa using this
    rw [dnL_cons, plcL_cons, List.flatMap_append, List.flatMap_append, List.flatMap_map]
    congr 1
    · rw [if_neg (by omega)]
      have e : (if j = 0 then ([] : List Int) else []) = [] := by split <;> rfl
      rw [e]
      exact h1
    · refine ih2 hs (j + 1) G fun k p x hk hx => ?_
      have := h (k + 1) p x (by simp; omega) (by simpa using hx)
      have e : ((j + (k + 1) : Nat) : Int) = ((j + 1 + k : Nat) : Int) := by omega
      rw [e] at this
      exact this
/-- All places are gone through, each with the term there. -/
theorem plc_dnT {β : Type} (g : List Int → Tm → List β) (t : Tm) (G : List Int → List β) (h : ∀ p x, atT t p = some x → G p = g p x) : (dnT [] [] t).flatMap (fun d => g d.1 d.2) = (plcT t).flatMap G := by
  unfold dnT plcT
  rw [List.flatMap_cons, List.flatMap_cons]
  congr 1
  · exact (h [] t rfl).symm
  · refine plc_dn g t.args [] 0 G fun k p x hk hx => ?_
    refine h _ _ ?_
    have e : ((0 + k : Nat) : Int).toNat = k := by omega
    simp only [atT]
    rw [dif_pos ⟨by omega, by rw [e]; exact hk⟩]
    simp only [e]
    exact hx

/-- The path is as it was, whatever is done behind it. -/
theorem here_backQ {W W' W'' : World} {N : Nat} {u u' : Value} {hs : List Int} {i : Int} {Q : Nat → Prop} (h : W.ownsRow N 3 1 u hs.length (hs.map fun z => .int .i64 z)) (hg : W.grownBy W' u.ownBlock) (he : Ext W W' u u' hs.length) (h' : W''.ownsRow N 3 1 u' (hs ++ [i]).length ((hs ++ [i]).map fun z => .int .i64 z)) (hf : ExQ Q W' W'') (hq : ∀ k, u.ownBlock = some k → u'.ownBlock ≠ some k → ¬ Q k) :
    W''.ownsRow N 3 1 u hs.length (hs.map fun z => .int .i64 z) := by
  rcases he with ⟨g, cap, rfl, rfl⟩ | ⟨hnew, hbl⟩
  · obtain ⟨_, h1⟩ := h
    obtain ⟨_, h2⟩ := h'
    rcases h1 with ⟨h1, _⟩ | ⟨g1, cap1, cur1, h1, hN, _, hnc, hcm, _, _⟩
    · simp at h1
    · rcases h2 with ⟨h2, _⟩ | ⟨g2, cap2, cur2, h2, _, hh, _, _, hcs, htk⟩
      · simp at h2
      · simp at h1 h2
        obtain ⟨rfl, rfl⟩ := h1
        obtain ⟨rfl, rfl⟩ := h2
        refine ⟨by simp, Or.inr ⟨g, cap, cur2, rfl, hN, hh, hnc, hcm, hcs, ?_⟩⟩
        have h3 := congrArg (List.take hs.length) htk
        rw [List.take_take] at h3
        simpa [List.take_append_of_le_length, Nat.min_eq_left] using h3
  · have hlt := h.lt
    refine ownsRow_at h fun g hk => ?_
    have hl := (hlt g hk).2
    have hs2 := hbl.size
    rw [hf.block g (by omega) (hq g hk (fun e => by have := hnew g e; omega)), hbl.block g hl]
#print axioms plc_dnT
#print axioms here_backQ
end Go.Proofs.Ytcjdbbdmighliac

/- A range over a function whose rounds all go on: own laws. -/
namespace Go.Proofs.Ytcjdbbdmighliac
open Go.RowKit Go.Shelf
set_option linter.unusedSimpArgs false
set_option linter.unusedVariables false
set_option maxRecDepth 8000

/-- A round that goes on. -/
theorem yield_on {P : Program} {n l : Nat} {r : Loop} {args : Array Value} {W : World} {Post : World → Prop} {assign body : Code} {ps : Array Tmp} {tmps : Array Value} {rb : Loop} (hrbz : rb = { r with state := .busy }) (hra : r.assign = assign) (hrb : r.body = body) (hrp : r.params = ps) (hrt : r.tmps = tmps) (hl : W.heap[l]? = some (.loop r)) (hr : r.state = .ready) (hp0 : r.pending = none) (hps : args.size = ps.size)
    (h : assign.wpIn (Fence.wide.inRound l) n P (Exit.then (fun a₁ w₁ => w₁.heap[l]? = some (.loop r) ∧ body.wpIn (Fence.wide.inRound l) n P (fun e _ w3 => e = .normal ∧ w3.heap[l]? = some (.loop rb) ∧ Post (w3.putObj l (.loop r))) a₁ (w₁.putObj l (.loop rb))) (fun _ _ _ => False)) { tmps := (ps.zip args).foldl (fun t (p, v) => t.setIfInBounds p v) tmps, defers := [] } W) :
    YieldAt Fence.wide n P l args W fun e W' => e = .returned (.bool true) ∧ Post W' := by
  subst hrbz; subst hra; subst hrb; subst hrp; subst hrt
  refine ⟨r.fn, _, r.assign, r.body, run_yield hl hps, roundIn_of_wpIn trivial (wpIn_mono h ?_)⟩
  rintro e a w1 hp
  cases e with
  | normal =>
    obtain ⟨h1, h2⟩ := hp
    refine ⟨_, run_beginRound h1 hr, wpIn_mono h2 ?_⟩
    rintro e3 a3 w3 ⟨rfl, h3, h4⟩
    refine ⟨_, _, run_endRound none h3, rfl, ?_⟩
    have e4 : ({ r with state := .ready, pending := none } : Loop) = r := by
      obtain ⟨_, _, _, _, _, _, _, _⟩ := r
      simp at hr hp0
      subst hr; subst hp0
      rfl
    have e5 : ({ ({ r with state := .busy } : Loop) with state := if (none : Option Code).isNone then .ready else .done, pending := none } : Loop) = r := by rw [← e4]; rfl
    rw [e5]
    exact h4
  | ret => exact hp.elim
  | exit id => exact hp.elim
  | goto t => exact hp.elim
  | panic c => exact hp.elim
  | outgrown => exact hp.elim

/-- The range itself. -/
theorem wp_range {P : Program} {n : Nat} {g : Operand} {ps : Array Tmp} {assign body : Code} {Q : Exit → Act → World → Prop} {a : Act} {w : World} {gf : Nat} {lb : Array Value} (hg : a.eval g = .func (.func gf) #[] lb) (eg : ∀ args w, (callFunc gf args).run P w = .ok (.enter gf args) w)
    (h : ∀ (r : Loop), r.state = .ready → r.pending = none → r.tmps = a.tmps → r.params = ps → r.assign = assign → r.body = body → 
      Calls P gf (#[.func (.yield (w.heap.size + 1)) #[] #[]] ++ lb) ((w.alloc (.deferred (some []))).alloc (.loop r)) fun e W => (∃ v, e = .returned v) ∧ W.heap[w.heap.size + 1]? = some (.loop r) ∧ Q .normal { a with defers := { target := .collected w.heap.size, args := #[] } :: a.defers } (W.putObj (w.heap.size + 1) (.loop { r with state := .exhausted }))) :
    (Code.rangeFunc g ps assign body).wpIn Fence.wide n P Q a w := by
  refine wpIn_rangeFunc ?_
  intro fn hfn
  obtain ⟨r, hr⟩ : ∃ r : Loop, r = { state := .ready, pending := none, fn, tmps := a.tmps, params := ps, assign, body, defers := w.heap.size } := ⟨_, rfl⟩
  refine ⟨w.heap.size + 1, [{ target := .collected w.heap.size, args := #[] }], (w.alloc (.deferred (some []))).alloc (.loop r), { target := .fn (.func gf) lb, args := #[.func (.yield (w.heap.size + 1)) #[] #[]] }, (w.alloc (.deferred (some []))).alloc (.loop r), gf, #[.func (.yield (w.heap.size + 1)) #[] #[]] ++ lb, (w.alloc (.deferred (some []))).alloc (.loop r), ?_, ?_, ?_, ?_, ?_, ?_⟩
  · rw [hr]; exact run_enterLoop_outer _ _ _ _ _
  · simp only [resolve, hg]
    simp [go_sem]
  · intro f' hf'; trivial
  · simp [invoke, go_sem, eg]
  · intro h; simp [Fence.wide] at h
  · refine (callsIn_wide.2 (h r (by rw [hr]) (by rw [hr]) (by rw [hr]) (by rw [hr]) (by rw [hr]) (by rw [hr]))).mono ?_
    rintro e W ⟨⟨v, rfl⟩, hl, hq⟩
    have e1 := run_endLoop (P := P) hl (by rw [hr]; simp)
    have e2 : r.pending = none := by rw [hr]
    exact ⟨none, _, e1.trans (by rw [e2]), hq⟩
#print axioms yield_on
#print axioms wp_range
end Go.Proofs.Ytcjdbbdmighliac

/- A range over a function whose rounds go on or leave by a return: own laws; what takes, and what it is told. -/
namespace Go.Proofs.Ytcjdbbdmighliac
open Go.RowKit Go.Shelf
set_option linter.unusedSimpArgs false
set_option linter.unusedVariables false
set_option maxRecDepth 8000

/-- How a round is left: it goes on, or it returns. -/
def rndPost (l : Nat) (r rb rd : Loop) (Post : Bool → World → Prop) : Exit → Act → World → Prop
  | .normal, _, w3 => w3.heap[l]? = some (.loop rb) ∧ Post true (w3.putObj l (.loop r))
  | .ret, _, w3 => w3.heap[l]? = some (.loop rb) ∧ Post false (w3.putObj l (.loop rd))
  | _, _, _ => False

theorem yield_two {P : Program} {n l : Nat} {r : Loop} {args : Array Value} {W : World} {Post : Bool → World → Prop} {assign body : Code} {ps : Array Tmp} {tmps : Array Value} {rb rd : Loop} (hrbz : rb = { r with state := .busy }) (hrdz : rd = { r with state := .done, pending := some .ret }) (hra : r.assign = assign) (hrb : r.body = body) (hrp : r.params = ps) (hrt : r.tmps = tmps) (hl : W.heap[l]? = some (.loop r)) (hr : r.state = .ready) (hp0 : r.pending = none) (hps : args.size = ps.size)
    (h : assign.wpIn (Fence.wide.inRound l) n P (Exit.then (fun a₁ w₁ => w₁.heap[l]? = some (.loop r) ∧ body.wpIn (Fence.wide.inRound l) n P (rndPost l r rb rd Post) a₁ (w₁.putObj l (.loop rb))) (fun _ _ _ => False)) { tmps := (ps.zip args).foldl (fun t (p, v) => t.setIfInBounds p v) tmps, defers := [] } W) :
    YieldAt Fence.wide n P l args W fun e W' => ∃ s, e = .returned (.bool s) ∧ Post s W' := by
  subst hrbz; subst hrdz; subst hra; subst hrb; subst hrp; subst hrt
  refine ⟨r.fn, _, r.assign, r.body, run_yield hl hps, roundIn_of_wpIn trivial (wpIn_mono h ?_)⟩
  rintro e a w1 hp
  cases e with
  | normal =>
    obtain ⟨h1, h2⟩ := hp
    refine ⟨_, run_beginRound h1 hr, wpIn_mono h2 ?_⟩
    rintro e3 a3 w3 h3
    cases e3 with
    | normal =>
      obtain ⟨h3, h4⟩ := h3
      refine ⟨_, _, run_endRound none h3, true, rfl, ?_⟩
      have e4 : ({ r with state := .ready, pending := none } : Loop) = r := by
        obtain ⟨_, _, _, _, _, _, _, _⟩ := r
        simp at hr hp0
        subst hr; subst hp0
        rfl
      have e5 : ({ ({ r with state := .busy } : Loop) with state := if (none : Option Code).isNone then .ready else .done, pending := none } : Loop) = r := by rw [← e4]; rfl
      rw [e5]
      exact h4
    | ret =>
      obtain ⟨h3, h4⟩ := h3
      exact ⟨_, _, run_endRound (some .ret) h3, false, rfl, h4⟩
    | exit id => exact h3.elim
    | goto t => exact h3.elim
    | panic c => exact h3.elim
    | outgrown => exact h3.elim
  | ret => exact hp.elim
  | exit id => exact hp.elim
  | goto t => exact hp.elim
  | panic c => exact hp.elim
  | outgrown => exact hp.elim

/-- The range itself, outermost. -/
theorem wp_range2 {P : Program} {n : Nat} {g : Operand} {ps : Array Tmp} {assign body : Code} {Q : Exit → Act → World → Prop} {a : Act} {w : World} {gf : Nat} {lb : Array Value} (hg : a.eval g = .func (.func gf) #[] lb) (eg : ∀ args w, (callFunc gf args).run P w = .ok (.enter gf args) w)
    (h : ∀ (r : Loop), r.state = .ready → r.pending = none → r.tmps = a.tmps → r.params = ps → r.assign = assign → r.body = body → 
      Calls P gf (#[.func (.yield (w.heap.size + 1)) #[] #[]] ++ lb) ((w.alloc (.deferred (some []))).alloc (.loop r)) fun e W => (∃ v, e = .returned v) ∧ ((W.heap[w.heap.size + 1]? = some (.loop r) ∧ Q .normal { a with defers := { target := .collected w.heap.size, args := #[] } :: a.defers } (W.putObj (w.heap.size + 1) (.loop { r with state := .exhausted }))) ∨
        (W.heap[w.heap.size + 1]? = some (.loop { r with state := .done, pending := some .ret }) ∧ Q .ret { a with defers := { target := .collected w.heap.size, args := #[] } :: a.defers } (W.putObj (w.heap.size + 1) (.loop { r with state := .exhausted, pending := some .ret }))))) :
    (Code.rangeFunc g ps assign body).wpIn Fence.wide n P Q a w := by
  refine wpIn_rangeFunc ?_
  intro fn hfn
  obtain ⟨r, hr⟩ : ∃ r : Loop, r = { state := .ready, pending := none, fn, tmps := a.tmps, params := ps, assign, body, defers := w.heap.size } := ⟨_, rfl⟩
  refine ⟨w.heap.size + 1, [{ target := .collected w.heap.size, args := #[] }], (w.alloc (.deferred (some []))).alloc (.loop r), { target := .fn (.func gf) lb, args := #[.func (.yield (w.heap.size + 1)) #[] #[]] }, (w.alloc (.deferred (some []))).alloc (.loop r), gf, #[.func (.yield (w.heap.size + 1)) #[] #[]] ++ lb, (w.alloc (.deferred (some []))).alloc (.loop r), ?_, ?_, ?_, ?_, ?_, ?_⟩
  · rw [hr]; exact run_enterLoop_outer _ _ _ _ _
  · simp only [resolve, hg]
    simp [go_sem]
  · intro f' hf'; trivial
  · simp [invoke, go_sem, eg]
  · intro h; simp [Fence.wide] at h
  · refine (callsIn_wide.2 (h r (by rw [hr]) (by rw [hr]) (by rw [hr]) (by rw [hr]) (by rw [hr]) (by rw [hr]))).mono ?_
    rintro e W ⟨⟨v, rfl⟩, hc⟩
    rcases hc with ⟨hl, hq⟩ | ⟨hl, hq⟩
    · have e1 := run_endLoop (P := P) hl (by rw [hr]; simp)
      have e2 : r.pending = none := by rw [hr]
      exact ⟨none, _, e1.trans (by rw [e2]), hq⟩
    · have e1 := run_endLoop (P := P) hl (by simp)
      exact ⟨some .ret, _, e1, wpIn_ret hq⟩

/-- The range itself, in a round. -/
theorem wp_rangeN {P : Program} {n : Nat} {g : Operand} {ps : Array Tmp} {assign body : Code} {Q : Exit → Act → World → Prop} {a : Act} {w : World} {l₀ : Nat} {r₀ : Loop} (hl₀ : w.heap[l₀]? = some (.loop r₀)) {gf : Nat} {lb : Array Value} (hg : a.eval g = .func (.func gf) #[] lb) (eg : ∀ args w, (callFunc gf args).run P w = .ok (.enter gf args) w)
    (h : ∀ (r : Loop), r.state = .ready → r.pending = none → r.tmps = a.tmps → r.params = ps → r.assign = assign → r.body = body → 
      Calls P gf (#[.func (.yield w.heap.size) #[] #[]] ++ lb) (w.alloc (.loop r)) fun e W => (∃ v, e = .returned v) ∧ ((W.heap[w.heap.size]? = some (.loop r) ∧ Q .normal a (W.putObj w.heap.size (.loop { r with state := .exhausted }))) ∨
        (W.heap[w.heap.size]? = some (.loop { r with state := .done, pending := some .ret }) ∧ Q .ret a (W.putObj w.heap.size (.loop { r with state := .exhausted, pending := some .ret }))))) :
    (Code.rangeFunc g ps assign body).wpIn (Fence.wide.inRound l₀) n P Q a w := by
  refine wpIn_rangeFunc ?_
  intro fn hfn
  obtain ⟨r, hr⟩ : ∃ r : Loop, r = { state := .ready, pending := none, fn, tmps := a.tmps, params := ps, assign, body, defers := r₀.defers } := ⟨_, rfl⟩
  refine ⟨w.heap.size, [], w.alloc (.loop r), { target := .fn (.func gf) lb, args := #[.func (.yield w.heap.size) #[] #[]] }, w.alloc (.loop r), gf, #[.func (.yield w.heap.size) #[] #[]] ++ lb, w.alloc (.loop r), ?_, ?_, ?_, ?_, ?_, ?_⟩
  · rw [hr]; exact run_enterLoop_inner hl₀ _ _ _ _ _
  · simp only [resolve, hg]
    simp [go_sem]
  · intro f' hf'; trivial
  · simp [invoke, go_sem, eg]
  · intro h; simp [Fence.wide] at h
  · refine (CallsIn.inRound l₀ (callsIn_wide.2 (h r (by rw [hr]) (by rw [hr]) (by rw [hr]) (by rw [hr]) (by rw [hr]) (by rw [hr])))).mono ?_
    rintro e W ⟨⟨v, rfl⟩, hc⟩
    rcases hc with ⟨hl, hq⟩ | ⟨hl, hq⟩
    · have e1 := run_endLoop (P := P) hl (by rw [hr]; simp)
      have e2 : r.pending = none := by rw [hr]
      exact ⟨none, _, e1.trans (by rw [e2]), hq⟩
    · have e1 := run_endLoop (P := P) hl (by simp)
      exact ⟨some .ret, _, e1, wpIn_ret hq⟩

/-- What one who takes keeps: what has come, whether more is wanted, the blocks that are his own (f); what he reads besides, and nobody writes (K). -/
abbrev Tk (α : Type) := List α → Bool → (Nat → Prop) → World → Prop
structure TkOk {α : Type} (J : Tk α) (K : Nat → Prop) : Prop where
  inside : ∀ {pre s f W}, J pre s f W → ∀ b, f b ∨ K b → b < W.heap.size
  apart : ∀ {pre s f W}, J pre s f W → ∀ b, K b → ¬ f b
  abide : ∀ {pre s f W W'}, J pre s f W → W.heap.size ≤ W'.heap.size → (∀ b, f b ∨ K b → W'.heap[b]? = W.heap[b]?) → J pre s f W'
theorem TkOk.exq {α : Type} {J : Tk α} {K : Nat → Prop} (h : TkOk J K) {pre : List α} {s : Bool} {f g : Nat → Prop} {W W' : World} (hj : J pre s f W) (he : ExQ g W W') (hg : ∀ b, f b ∨ K b → ¬ g b) : J pre s f W' :=
  h.abide hj he.size fun b hb => he.block b (h.inside hj b hb) (hg b hb)
/-- One round of his: an item is handed over that lies outside his blocks. -/
def Rnd {α : Type} (lp : Nat) (L : α → Array Value → World → (Nat → Prop) → Prop) (J : Tk α) (all : List α) : Prop :=
  ∀ (n : Nat) (pre : List α) (x : α) (args : Array Value) (Z f : Nat → Prop) (W : World), (pre ++ [x]) <+: all → J pre true f W → L x args W Z → (∀ b, Z b → b < W.heap.size ∧ ¬ f b) →
    YieldAt Fence.wide n Try.prog lp args W fun e W' => ∃ s, e = .returned (.bool s) ∧ ∃ f', J (pre ++ [x]) s f' W' ∧ ExQ f W W' ∧ ∀ b, f' b → f b ∨ W.heap.size ≤ b
/-- Where no more is wanted. -/
def IfNo (s : Bool) (P : Prop) : Prop := s = false → P
/-- Likewise; where no more is wanted, S holds from then on. -/
def RndS {α : Type} (lp : Nat) (L : α → Array Value → World → (Nat → Prop) → Prop) (J : Tk α) (all : List α) (S : World → Prop) : Prop :=
  ∀ (n : Nat) (pre : List α) (x : α) (args : Array Value) (Z f : Nat → Prop) (W : World), (pre ++ [x]) <+: all → J pre true f W → L x args W Z → (∀ b, Z b → b < W.heap.size ∧ ¬ f b) →
    YieldAt Fence.wide n Try.prog lp args W fun e W' => ∃ s, e = .returned (.bool s) ∧ ∃ f', J (pre ++ [x]) s f' W' ∧ ExQ f W W' ∧ (∀ b, f' b → f b ∨ W.heap.size ≤ b) ∧ IfNo s (S W')
/-- It holds still when loops end. -/
def StopOk (S : World → Prop) : Prop := ∀ (W W' : World), S W → W.heap.size ≤ W'.heap.size → (∀ b, b < W.heap.size → W'.heap[b]? = W.heap[b]? ∨ (∃ r, W.heap[b]? = some (.loop r)) ∨ ∃ d, W.heap[b]? = some (.deferred d)) → S W'
theorem StopOk.put {S : World → Prop} (h : StopOk S) {W : World} (hs : S W) {l : Nat} {r : Loop} (hl : W.heap[l]? = some (.loop r)) (o : Obj) : S (W.putObj l o) :=
  h _ _ hs (by simp) fun b hb => by
    by_cases e : b = l
    · subst e; exact Or.inr (Or.inl ⟨r, hl⟩)
    · exact Or.inl (World.putObj_heap_other e)
theorem StopOk.putD {S : World → Prop} (h : StopOk S) {W : World} (hs : S W) {l : Nat} {d : Option (List Deferred)} (hl : W.heap[l]? = some (.deferred d)) (o : Obj) : S (W.putObj l o) :=
  h _ _ hs (by simp) fun b hb => by
    by_cases e : b = l
    · subst e; exact Or.inr (Or.inr ⟨d, hl⟩)
    · exact Or.inl (World.putObj_heap_other e)
theorem StopOk.triv : StopOk fun _ => True := fun _ _ _ _ _ => trivial
theorem Rnd.toS {α : Type} {lp : Nat} {L : α → Array Value → World → (Nat → Prop) → Prop} {J : Tk α} {all : List α} (h : Rnd lp L J all) : RndS lp L J all (fun _ => True) := by
  intro n pre x args Z f W h1 h2 h3 h4
  obtain ⟨hfn, htmps, hasg, hbody, hy, hR⟩ := h n pre x args Z f W h1 h2 h3 h4
  refine ⟨hfn, htmps, hasg, hbody, hy, RoundIn.mono hR ?_⟩
  rintro e W' ⟨s, he, f', a, b, c⟩
  exact ⟨s, he, f', a, b, c, fun _ => trivial⟩
/-- All of a list, or as much of it as was wanted, has been handed over. -/
def Went {α : Type} (J : Tk α) (all pre : List α) (f g : Nat → Prop) (W : World) (s : Bool) (W' : World) : Prop :=
  ∃ (m : Nat) (f' : Nat → Prop), m ≤ all.length ∧ (s = true → m = all.length) ∧ J (pre ++ all.take m) s f' W' ∧ ExQ (fun b => f b ∨ g b) W W' ∧ ∀ b, f' b → f b ∨ W.heap.size ≤ b

theorem Went.nil {α : Type} {J : Tk α} {pre : List α} {f g : Nat → Prop} {W : World} (h : J pre true f W) : Went J [] pre f g W true W :=
  ⟨0, f, Nat.le_refl _, fun _ => rfl, by simpa using h, ExQ.refl _ _, fun b hb => Or.inl hb⟩
theorem Went.one {α : Type} {J : Tk α} {pre : List α} {x : α} {f f' g : Nat → Prop} {W W' : World} {s : Bool} (h : J (pre ++ [x]) s f' W') (he : ExQ f W W') (hf : ∀ b, f' b → f b ∨ W.heap.size ≤ b) : Went J [x] pre f g W s W' :=
  ⟨1, f', by simp, fun _ => rfl, by simpa using h, he.mono fun b hb _ => Or.inl hb, hf⟩
theorem Went.end_true {α : Type} {J : Tk α} {all pre : List α} {f g : Nat → Prop} {W W' : World} (h : Went J all pre f g W true W') : ∃ f', J (pre ++ all) true f' W' ∧ ExQ (fun b => f b ∨ g b) W W' ∧ ∀ b, f' b → f b ∨ W.heap.size ≤ b := by
  obtain ⟨m, f', hm, hs, hj, he, hf⟩ := h
  obtain rfl := hs rfl
  exact ⟨f', by simpa using hj, he, hf⟩
/-- One behind the other. -/
theorem Went.trans {α : Type} {J : Tk α} {a1 a2 pre : List α} {f f1 g g2 : Nat → Prop} {W W1 W2 : World} {s : Bool} (hj : J (pre ++ a1) true f1 W1) (he : ExQ (fun b => f b ∨ g b) W W1) (hf : ∀ b, f1 b → f b ∨ W.heap.size ≤ b) (h : Went J a2 (pre ++ a1) f1 g2 W1 s W2) (hg : ∀ b, g2 b → g b ∨ W.heap.size ≤ b) : Went J (a1 ++ a2) pre f g W s W2 := by
  obtain ⟨m, f', hm, hs, hj2, he2, hf2⟩ := h
  refine ⟨a1.length + m, f', by simp; omega, fun h => by simp [hs h], ?_, he.transN he2 ?_, ?_⟩
  · rw [List.take_append, List.take_of_length_le (by omega)]
    simpa [List.append_assoc] using hj2
  · rintro i hi hl
    rcases hi with hi | hi
    · rcases hf i hi with h | h
      · exact Or.inl h
      · omega
    · rcases hg i hi with h | h
      · exact Or.inr h
      · omega
  · intro b hb
    have := he.size
    rcases hf2 b hb with h | h
    · exact hf b h
    · right; omega
/-- What was not wanted any more is not handed over. -/
theorem Went.stop {α : Type} {J : Tk α} {a1 a2 pre : List α} {f g : Nat → Prop} {W W' : World} (h : Went J a1 pre f g W false W') : Went J (a1 ++ a2) pre f g W false W' := by
  obtain ⟨m, f', hm, hs, hj, he, hf⟩ := h
  exact ⟨m, f', by simp; omega, by simp, by rw [List.take_append_of_le_length hm]; exact hj, he, hf⟩
theorem Went.mono {α : Type} {J : Tk α} {a pre : List α} {f g g' : Nat → Prop} {W W' : World} {s : Bool} (h : Went J a pre f g W s W') (hg : ∀ b, g b → b < W.heap.size → g' b) : Went J a pre f g' W s W' := by
  obtain ⟨m, f', hm, hs, hj, he, hf⟩ := h
  exact ⟨m, f', hm, hs, hj, he.mono fun b hb hl => hb.imp id (fun h => hg b h hl), hf⟩
theorem Went.exq {α : Type} {J : Tk α} {a pre : List α} {f g : Nat → Prop} {W W' : World} {s : Bool} (h : Went J a pre f g W s W') : ExQ (fun b => f b ∨ g b) W W' := by
  obtain ⟨_, _, _, _, _, he, _⟩ := h
  exact he
/-- From a little earlier on. -/
theorem Went.from {α : Type} {J : Tk α} {a pre : List α} {f g g' : Nat → Prop} {W0 W W' : World} {s : Bool} (h : Went J a pre f g W s W') (he : ExQ g' W0 W) (hg : ∀ b, g b → g' b ∨ W0.heap.size ≤ b) : Went J a pre f g' W0 s W' := by
  obtain ⟨m, f', hm, hs, hj, he2, hf⟩ := h
  refine ⟨m, f', hm, hs, hj, (he.mono (R := fun b => f b ∨ g' b) fun b hb _ => Or.inr hb).transN he2 ?_, fun b hb => ?_⟩
  · rintro i hi hl
    rcases hi with hi | hi
    · exact Or.inl hi
    · rcases hg i hi with h | h
      · exact Or.inr h
      · omega
  · have := he.size
    rcases hf b hb with h | h
    · exact Or.inl h
    · right; omega
/-- What one who hands on says: as much as was wanted has been handed over; where no more was wanted, S holds. -/
def WentS {α : Type} (J : Tk α) (all pre : List α) (f : Nat → Prop) (S : World → Prop) (w : World) (e : Ending) (w' : World) : Prop :=
  (∃ v, e = .returned v) ∧ ∃ b, Went J all pre f (fun _ => False) w b w' ∧ IfNo b (S w')
#print axioms yield_two
#print axioms wp_range2
#print axioms wp_rangeN
#print axioms Went.trans
end Go.Proofs.Ytcjdbbdmighliac


/- Walks: the places of a term, as the program gathers them. -/
namespace Go.Proofs.Ytcjdbbdmighliac
open Go.RowKit Go.Shelf
attribute [local go_sem] Oper.semAt_some
set_option linter.unusedSimpArgs false
set_option linter.unusedVariables false
set_option maxRecDepth 8000

theorem step_here {ops : Array Oper} {o : Oper} {a : Act} {K : Act → World → Prop} {Q : Exit → Act → World → Prop} {E : Prop} {W : World} {N : Nat} {u : Value} {hs : List Int} (hgd : o.guard = none) (s x : Operand)
    (ho : o.op = .call { callee := .builtin .append, args := #[s, x], argTypes := #[34, 34] }) (hty : o.type = 34) (hs' : a.eval s = u) (i : Int) (F : Nat) (hx : a.eval x = .slice (some ⟨F, 0, none⟩) 1 1)
    (h : W.ownsRow N 3 1 u hs.length (hs.map fun z => .int .i64 z)) (hN : N ≤ W.heap.size) (hF : W.heap[F]? = some (.cells #[.int .i64 i] 3 (0, 0))) (hn : hs.length ≤ 1000000)
    (hk : ∀ u' W', W'.ownsRow N 3 1 u' (hs ++ [i]).length ((hs ++ [i]).map fun z => .int .i64 z) → W.grownBy W' u.ownBlock → Ext W W' u u' hs.length → K (a.put o.dst u') W') : if Region.wanted o (yielded ops a.tmps) = true then Oper.wp Try.prog o a W K Q else E := by
  obtain ⟨u', W', hr, h1, h2, h3⟩ := here_step h hN i F hF hn
  exact step_append_eq hgd s x _ _ ho hs' hx (by rw [hty]; exact hr) (hk u' W' h1 h2 h3)

theorem Sl.fr2 {w w' : World} {X : Nat → Prop} {a : Option Addr} {l : List Tm} {A : Nat} {q u : Value} (h : Sl w X a l) (hg : Fr2 A w w' q u) (hA : ∀ b, X b → b ≠ A) (hq : ∀ b, X b → some b ≠ q.ownBlock) (hu : ∀ b, X b → some b ≠ u.ownBlock) : Sl w' X a l := by
  have h1 : Sl w (fun b => X b ∧ b < w.heap.size) a l := h.mono fun b h1 h2 => ⟨h1, h2⟩
  have h2 : Sl w' (fun b => X b ∧ b < w.heap.size) a l := h1.kept fun b hx => hg.2.2.2.2 b hx.2 (hA b hx.1) (hq b hx.1) (hu b hx.1)
  exact h2.mono fun b hx _ => hx.1

/-- Behind the box of the parameter. -/
theorem PlAt.from {A : Nat} {w wr : World} {o : Obj} {N : Nat} {q0 q u : Value} {hs : List Int} {Y : Nat → Prop} {ps : List (List Int)} {xs : List Value} (h : PlAt A (w.alloc o) N q0 u hs Y ps q xs wr) : PlAt A w N q0 u hs Y ps q xs wr := by
  refine ⟨h.1, h.2.1, h.2.2.1, (Fr2.of_below ((Below.refl _ _).alloc (Nat.le_refl _) o) q0 u).trans h.2.2.2.1 (fun k h => Or.inl h) (fun k h => Or.inl h), fun k hk => ?_⟩
  rcases h.2.2.2.2 k hk with e | e
  · exact Or.inl e
  · right; simp at e; omega

theorem box_cell {A : Nat} {w w2 : World} {q u : Value} {s : ByteArray} {v : Value} {T : Nat} (hA : w.heap.size ≠ A) (h : Fr2 A (w.alloc (.cells #[.string s, v] T)) w2 q u) (hq : some w.heap.size ≠ q.ownBlock) (hu : some w.heap.size ≠ u.ownBlock) : w2.cell? ⟨w.heap.size, 1, none⟩ = some v := by
  have h1 := h.2.2.2.2 w.heap.size (by simp) hA hq hu
  have h2 := heap_alloc_new w (.cells #[.string s, v] T)
  rw [h2] at h1
  simp [World.cell?, h1]

theorem sizeL_ge1 (l : List Tm) (k : Nat) (h : k < l.length) : 1 + sizeL [l[k]] ≤ 1 + sizeL l := by
  have := sizeL_take l k h
  have := sizeL_take_le l (k + 1)
  omega

def PlInv (A : Nat) (w0 : World) (N : Nat) (q0 u : Value) (hs : List Int) (Y : Nat → Prop) (ps : List (List Int)) (l : List Tm) (lp : Nat) (r : Loop) (rest i : Value) (wr : World) : Prop :=
  rest = .slice none 0 0 ∧ ∃ (k : Nat) (q : Value) (xs : List Value), k ≤ l.length ∧ i = .int .i64 k ∧ Blk wr A #[q] 78 ∧ PlAt A w0 N q0 u hs Y (ps ++ hs :: (plcL 0 (l.take k)).map fun p => hs ++ p) q xs wr ∧ wr.heap[lp]? = some (.loop r)

/-- What a round does: the path is gathered. -/
def RoundH (A N lp : Nat) (r : Loop) : Prop := ∀ (n : Nat) (u tv : Value) (hs : List Int) (Y : Nat → Prop) (ps : List (List Int)) (q : Value) (xs : List Value) (W : World), (∃ z, tv = .agg z) → N ≤ W.heap.size → (∀ b, Y b → b < W.heap.size) → W.heap[lp]? = some (.loop r) → Blk W A #[q] 78 → PlAt A W N q u hs Y ps q xs W → ps.length ≤ 1000000 → hs.length ≤ 1000000 →
  YieldAt Fence.wide n Try.prog lp #[u, tv] W fun e W' => e = .returned (.bool true) ∧ ∃ q' xs', Blk W' A #[q'] 78 ∧ PlAt A W N q u hs Y (ps ++ [hs]) q' xs' W' ∧ W'.heap[lp]? = some (.loop r)

theorem next_nil (w : World) : Calls Try.prog 125 #[.slice none 0 0] w fun e w' => e = .returned (.tuple #[.int .i64 0, .slice none 0 0]) ∧ w' = w := by
  go_enter Try.func125, Try.ntmps125
  go_wp2_with fail
  refine bodyPost_ret (v := .tuple #[.int .i64 0, .slice none 0 0]) (by simp [results, Try.results125, go_sem]) rfl ?_
  exact ⟨rfl, rfl⟩

set_option maxHeartbeats 2000000 in
theorem down_any (A N lp : Nat) (r : Loop) (hAN : A < N) (RH : RoundH A N lp r) (t : Tm) : ∀ (q v u : Value) (ps : List (List Int)) (xs : List Value) (hs : List Int) (Y : Nat → Prop) (w : World) (X : Nat → Prop), TV w X v t → (∀ b, X b → b < N ∧ b ≠ A) → N ≤ w.heap.size → (∀ b, Y b → b < w.heap.size) → Blk w A #[q] 78 → PlAt A w N q u hs Y ps q xs w → w.heap[lp]? = some (.loop r) → ps.length + sizeL [t] ≤ 900000 → hs.length + sizeL [t] ≤ 900000 →
    Calls Try.prog 105 #[v, u, .slice none 0 0, .func (.yield lp) #[] #[]] w fun e w' => e = .returned (.bool true) ∧ ∃ q' xs', Blk w' A #[q'] 78 ∧ PlAt A w N q u hs Y (ps ++ (plcT t).map fun p => hs ++ p) q' xs' w' ∧ w'.heap[lp]? = some (.loop r) := by
  induction t using Tm.ind with
  | h s l ih =>
    intro q v u ps xs hs Y w X hv hX hN hY hA hpl hlp hsm hsm2
    obtain ⟨a, c, rfl, hsl⟩ := hv
    have IH := hide ih
    clear ih
    have hl := hsl.1
    have hz : sizeL [(⟨s, l⟩ : Tm)] = 1 + sizeL l := by simp [sizeL]
    rw [hz] at hsm hsm2
    clear hz
    have hB0 : Below w.heap.size w (w.alloc (.cells #[.string s, .slice a l.length c] 25)) := (Below.refl _ _).alloc (Nat.le_refl _) _
    have HPL := hide (PlAt.later hAN hpl hB0).here
    have hlq := hpl.1.lt
    have hlu := hpl.2.1.lt
    have HXq : Hid (∀ b, X b → some b ≠ q.ownBlock) := fun b hb e => by have := (hlq b e.symm).1; have := hX b hb; omega
    have HXu : Hid (∀ b, X b → some b ≠ u.ownBlock) := fun b hb e => by have := (hlu b e.symm).1; have := hX b hb; omega
    have HBq : Hid (some w.heap.size ≠ q.ownBlock) := fun e => by have := (hlq _ e.symm).2; omega
    have HBu : Hid (some w.heap.size ≠ u.ownBlock) := fun e => by have := (hlu _ e.symm).2; omega
    have HN0 : Hid (N ≤ (w.alloc (.cells #[.string s, .slice a l.length c] 25)).heap.size) := by unfold Hid; simp; omega
    have HY0 : Hid (∀ b, Y b → b < (w.alloc (.cells #[.string s, .slice a l.length c] 25)).heap.size) := fun b hb => by have := hY b hb; simp; omega
    have HSL := hide hsl
    have HX := hide hX
    have HY := hide hY
    have hps : ps.length ≤ 1000000 := by omega
    have hhs : hs.length ≤ 1000000 := by omega
    have hlpl : lp < w.heap.size := (Array.getElem?_eq_some_iff.1 hlp).1
    have RHW := RH 0 u (.agg #[.string s, .slice a l.length c]) hs Y ps q xs (w.alloc (.cells #[.string s, .slice a l.length c] 25)) ⟨_, rfl⟩ HN0.out HY0.out ((Below.heap_alloc _ _ _ hlpl).trans hlp) (hA.alloc _) HPL.out hps hhs
    obtain ⟨hfn, htmps, hasg, hbody, hy, hR⟩ := RHW
    have HR := hide hR
    have HRH := hide RH
    clear hpl hlq hlu hsl hX hY hB0 hR RH hlp hA
    have hf1 : Fence.wide.fn 125 := trivial
    go_enter Try.func105, Try.ntmps105
    refine (wpIn_wide (n := 1)).1 ?_
    gi_wp2
    refine HR.out.mono ?_
    rintro e W1 ⟨rfl, q1, xs1, hA1, hp1, hl1⟩
    have HPL1 := hide hp1
    have HA1 := hide hA1
    have HL1 := hide hl1
    have K1 : W1.cell? ⟨w.heap.size, 1, none⟩ = some (.slice a l.length c) := box_cell (by omega) hp1.2.2.2.1 HBq.out HBu.out
    clear hp1 hA1 hl1 hy
    gi_wp2_with (gi_at_call 125; refine (callsIn_wide.2 (next_nil _)).mono ?_; rintro e w' ⟨rfl, rfl⟩)
    refine wpIn_wide.2 ?_
    go_loopw [10, 11] (fun q' i wr => PlInv A (w.alloc (.cells #[.string s, .slice a l.length c] 25)) N q u hs Y ps l lp r q' i wr) (fun q' i wr => l.length - (intOf i).toNat)
    case atStart => exact ⟨rfl, 0, q1, xs1, Nat.zero_le _, rfl, HA1.out, by simpa [plcL] using HPL1.out, HL1.out⟩
    case round =>
      obtain ⟨rfl, k, q2, xs2, hk, rfl, hA2, hp2, hl2⟩ := hrel
      have HA2 := hide hA2
      have HL2 := hide hl2
      have HP2 := hide hp2
      have hlp2 : lp < wr.heap.size := (Array.getElem?_eq_some_iff.1 hl2).1
      have HNr : Hid (N ≤ wr.heap.size) := Nat.le_trans HN0.out hp2.2.2.2.1.2.2.2.1
      have HYr : Hid (∀ b, Y b → b < wr.heap.size) := fun b hb => Nat.lt_of_lt_of_le (HY0.out b hb) hp2.2.2.2.1.2.2.2.1
      have hfr := hp2.2.2.2.1
      have K2 : wr.cell? ⟨w.heap.size, 1, none⟩ = some (.slice a l.length c) := box_cell (by omega) hfr HBq.out HBu.out
      clear hp2 hA2 hl2
      by_cases hlt : k < l.length
      · have hst := sizeL_take l k hlt
        have hst2 := sizeL_take_le l (k + 1)
        obtain ⟨b, o, a', c', rfl, d0, d1, hx⟩ := ((HSL.out.fr2 (A := A) (Fr2.of_below ((Below.refl _ _).alloc (Nat.le_refl _) (.cells #[.string s, .slice a l.length c] 25)) q u) (fun b hb => (HX.out b hb).2) HXq.out HXu.out).fr2 hfr (fun b hb => (HX.out b hb).2) HXq.out HXu.out).get (Below.refl wr.heap.size wr) (fun _ _ h => h) k hlt
        have hbX : X b := by
          obtain ⟨_, h1⟩ := HSL.out
          rcases h1 with h1 | ⟨b', o', e', h1⟩
          · rw [h1] at hlt; simp at hlt
          · cases e'; exact (lies_get _ _ _ h1 k hlt).1
        have HXX := hide hx
        have HT := hide (plcL_take l k hlt)
        have HSM : Hid ((ps ++ hs :: (plcL 0 (l.take k)).map fun p => hs ++ p).length + sizeL [l[k]] ≤ 900000) := by unfold Hid; simp [plcL_len]; omega
        have HSM2 : Hid ((hs ++ [(k : Int)]).length + sizeL [l[k]] ≤ 900000) := by unfold Hid; simp; have := sizeL_ge1 l k hlt; omega
        clear hx hst hst2 hfr
        have HS0 := hide (And.intro K2 (And.intro d0 d1))
        go_wp2_with fail
        have hbW : Below wr.heap.size wr (wr.alloc (.cells #[.int .i64 (k : Int)] 3)).drew := ((Below.refl _ _).alloc (Nat.le_refl _) _).drew
        have HBW := hide hbW
        have HOU := hide (PlAt.later hAN HP2.out hbW).2.1
        have HNW : Hid (N ≤ (wr.alloc (.cells #[.int .i64 (k : Int)] 3)).drew.heap.size) := Nat.le_trans HNr.out hbW.size
        have HFW : Hid ((wr.alloc (.cells #[.int .i64 (k : Int)] 3)).drew.heap[wr.heap.size]? = some (.cells #[.int .i64 (k : Int)] 3 (0, 0))) := heap_alloc_new wr (.cells #[.int .i64 (k : Int)] 3)
        have HTT : Hid ((ps ++ hs :: (plcL 0 (l.take (k + 1))).map fun p => hs ++ p) = (ps ++ hs :: (plcL 0 (l.take k)).map fun p => hs ++ p) ++ (plcT l[k]).map fun p => (hs ++ [(k : Int)]) ++ p) := by
          unfold Hid; rw [HT.out]; simp [Function.comp_def]
        have HSE : Hid (∀ u2 W2, (wr.alloc (.cells #[.int .i64 (k : Int)] 3)).drew.grownBy W2 u.ownBlock → Ext (wr.alloc (.cells #[.int .i64 (k : Int)] 3)).drew W2 u u2 hs.length → (W2.cell? ⟨w.heap.size, 1, none⟩ = some (.slice (some ⟨b, o, none⟩) l.length c) ∧ W2.cell? ⟨b, o + k * 2, none⟩ = some (.string l[k].name) ∧ W2.cell? ⟨b, o + k * 2 + 1, none⟩ = some (.slice a' l[k].args.length c')) ∧ Blk W2 A #[q2] 78 ∧ W2.heap[lp]? = some (.loop r) ∧
            ∀ w5, Fr2 A W2 w5 q2 u2 → w5.cell? ⟨w.heap.size, 1, none⟩ = some (.slice (some ⟨b, o, none⟩) l.length c) ∧ w5.cell? ⟨b, o + k * 2, none⟩ = some (.string l[k].name) ∧ w5.cell? ⟨b, o + k * 2 + 1, none⟩ = some (.slice a' l[k].args.length c')) := fun u2 W2 hg2 he2 => by
          have hwz : w.heap.size < wr.heap.size := by have := HP2.out.2.2.2.1.2.2.2.1; simp at this; omega
          have hbz : b < wr.heap.size := by have := HX.out b hbX; have := HNr.out; omega
          have hgz := hg2.size
          simp at hgz
          have kp : ∀ j, j < wr.heap.size → some j ≠ u.ownBlock → W2.heap[j]? = wr.heap[j]? := fun j hj hne => (hg2.block j (by simp; omega) hne).trans (HBW.out.block j hj)
          have hlt := HP2.out.2.1.lt
          have hltq := HP2.out.1.lt
          have hbN := HX.out b hbX
          have e0 := kp w.heap.size hwz HBu.out
          have e1 := kp b hbz (HXu.out b hbX)
          have eA := kp A (by omega) (fun e => by have := (hlt _ e.symm).1; omega)
          have eL := kp lp hlp2 (fun e => by
            rcases HP2.out.2.1.2 with ⟨h1, _⟩ | ⟨g, cap, cur, h1, _, h2, _⟩
            · rw [h1] at e; simp [Value.ownBlock] at e
            · rw [h1] at e
              have e3 : lp = g := by simpa [Value.ownBlock] using e
              rw [← e3, HL2.out] at h2
              cases h2)
          have hE : ∀ j, j < wr.heap.size → some j ≠ u.ownBlock → some j ≠ u2.ownBlock := fun j hj hne e => by
            rcases he2 with ⟨g, cap, e3, e4⟩ | ⟨hn, _⟩
            · rw [e4] at e; rw [e3] at hne; exact hne e
            · have := hn j e.symm
              simp at this
              omega
          refine ⟨⟨(World.cell?_of_block e0).trans HS0.out.1, (World.cell?_of_block e1).trans HS0.out.2.1, (World.cell?_of_block e1).trans HS0.out.2.2⟩, eA.trans HA2.out, eL.trans HL2.out, fun w5 hf => ?_⟩
          have f0 : w5.heap[w.heap.size]? = wr.heap[w.heap.size]? := (hf.2.2.2.2 _ (by omega) (by omega) (fun e => by
            rcases HP2.out.2.2.2.2 _ e.symm with e | e
            · exact HBq.out e.symm
            · simp at e; omega) (hE _ hwz HBu.out)).trans e0
          have f1 : w5.heap[b]? = wr.heap[b]? := (hf.2.2.2.2 _ (by omega) hbN.2 (fun e => by have := (hltq _ e.symm).1; omega) (hE _ hbz (HXu.out b hbX))).trans e1
          exact ⟨(World.cell?_of_block f0).trans HS0.out.1, (World.cell?_of_block f1).trans HS0.out.2.1, (World.cell?_of_block f1).trans HS0.out.2.2⟩
        clear hbW
        go_region_held3 (fun w' => w'.cell? ⟨w.heap.size, 1, none⟩ = some (.slice (some ⟨b, o, none⟩) l.length c) ∧ w'.cell? ⟨b, o + k * 2, none⟩ = some (.string l[k].name) ∧ w'.cell? ⟨b, o + k * 2 + 1, none⟩ = some (.slice a' l[k].args.length c')) (first | exact HS0.out | exact hS5 | exact hS2 | go_keep)
          (first
            | (refine step_here (N := N) (hs := hs) (u := u) rfl _ _ rfl rfl rfl (k : Int) _ rfl HOU.out HNW.out HFW.out hhs ?_; intro u2 W2 ho2 hg2 he2; obtain ⟨hS2, hA3, hL3, hK3⟩ := HSE.out u2 W2 hg2 he2; have hd2 := PlAt.down hAN HP2.out HBW.out ho2 hg2 he2; have hx2 := (HXX.out.later HBW.out).grown hg2 HXu.out; have hn2 := Nat.le_trans HNW.out hg2.size; have hw2 := Nat.le_trans HBW.out.size hg2.size)
            | (go_at_call 105; refine (IH.out _ (List.getElem_mem hlt) _ _ _ _ _ _ _ _ X hx2 HX.out hn2 (fun b hb => Nat.lt_of_lt_of_le hb.1 hw2) hA3 hd2 hL3 HSM.out HSM2.out).mono ?_; rintro e w5 ⟨rfl, q5, xs5, hA5, hp5, hl5⟩; have HUP := hide (PlAt.up hAN HP2.out HYr.out HBW.out hg2 he2 hp5); have hS5 := hK3 w5 hp5.2.2.2.1; have HA5 := hide hA5; have HL5 := hide hl5; clear hp5 hA5 hl5))
        clear hS5 hd2 hx2 hS2 ho2 hg2 he2
        go_wp2_with fail
        go_roundw
        case rel => exact ⟨rfl, k + 1, _, _, by omega, by go_num, HA5.out, by rw [HTT.out]; exact HUP.out, HL5.out⟩
        case measure => simp [intOf]; omega
      · have htk : l.take k = l := List.take_of_length_le (by omega)
        have h1 := HP2.out.from
        rw [htk] at h1
        have HF := hide h1
        clear h1 hfr
        go_wp2_with fail
        gi_wp2
        go_ret
        exact ⟨rfl, q2, xs2, HA2.out, by simpa [plcT] using HF.out, HL2.out⟩
#print axioms down_any
end Go.Proofs.Ytcjdbbdmighliac

/- Walks: the knots of a term from a place on, handed over one by one. -/
namespace Go.Proofs.Ytcjdbbdmighliac
open Go.RowKit Go.Shelf
attribute [local go_sem] Oper.semAt_some
set_option linter.unusedSimpArgs false
set_option linter.unusedVariables false
set_option maxRecDepth 8000

/-- How a place and the term there are handed over. -/
def LpD (x : Dn) (args : Array Value) (W : World) (Z : Nat → Prop) : Prop := ∃ u v, args = #[u, v] ∧ PV W Z u x.1 ∧ TV W Z v x.2

theorem nextI_any (fs : List Int) (v : Value) (w : World) (X : Nat → Prop) (hv : PV w X v fs) (h0 : ∀ z ∈ fs.take 1, 0 ≤ z) :
    Calls Try.prog 125 #[v] w fun e w' => Below w.heap.size w w' ∧ ∃ rv, e = .returned (.tuple #[.int .i64 (hdN fs : Int), rv]) ∧ PV w' X rv fs.tail := by
  obtain ⟨a, c, rfl, hl, hc⟩ := hv
  cases fs with
  | nil =>
    go_enter Try.func125, Try.ntmps125
    go_wp2_with fail
    refine bodyPost_ret (v := .tuple #[.int .i64 0, .slice none 0 0]) (by simp [results, Try.results125, go_sem]) rfl ?_
    exact ⟨Below.refl _ _, _, rfl, none, 0, rfl, by simp, Or.inl rfl⟩
  | cons z zs =>
    have hz := h0 z (by simp)
    have e : (hdN (z :: zs) : Int) = z := by unfold hdN; simp; omega
    rcases hc with hc | ⟨b, o, rfl, hxb, hcell⟩
    · cases hc
    obtain ⟨hzl1, hzl2⟩ := hl
    simp only [List.length_cons] at hzl1 hzl2
    have hz0 := hcell 0 (by simp)
    simp only [Nat.add_zero, List.getElem_cons_zero] at hz0
    have HE := hide e
    by_cases h1 : c = 1
    · have h2 : zs = [] := List.length_eq_zero_iff.1 (by omega)
      subst h1; subst h2
      clear hcell h0 e
      go_enter Try.func125, Try.ntmps125
      go_wp2_with fail
      go_region_held3 (fun w' => w'.cell? ⟨b, o, none⟩ = some (.int .i64 z)) (go_keep) (fail)
      go_wp2_with fail
      refine bodyPost_ret (v := .tuple #[.int .i64 z, .slice (some ⟨b, o, none⟩) 0 0]) (by simp [results, Try.results125, go_sem]) rfl ?_
      exact ⟨(Below.refl _ _).drew, .slice (some ⟨b, o, none⟩) 0 0, by rw [HE.out], some ⟨b, o, none⟩, 0, rfl, by simp, Or.inl rfl⟩
    · have HT : Hid (PV w X (.slice (some ⟨b, o + 1, none⟩) zs.length (c - 1)) zs) := PV.tail ⟨hzl1, hzl2⟩ hxb hcell
      simp only [List.length_cons] at *
      have b1 : ¬ ((zs.length : Int) + 1 < 1) := by omega
      have b2 : ¬ ((c : Int) < (zs.length : Int) + 1) := by omega
      clear hcell h0 e
      go_enter Try.func125, Try.ntmps125
      go_wp2_with fail
      go_region_held3 (fun w' => w'.cell? ⟨b, o, none⟩ = some (.int .i64 z)) (go_keep) (fail)
      go_wp2_with fail
      refine bodyPost_ret (v := .tuple #[.int .i64 z, .slice (some ⟨b, o + 1, none⟩) zs.length (c - 1)]) (by simp [results, Try.results125, go_sem]) rfl ?_
      exact ⟨(Below.refl _ _).drew, _, by rw [HE.out], HT.out.later ((Below.refl _ _).drew)⟩

def DnInv {J : Tk Dn} (w0 : World) (N : Nat) (u : Value) (hs : List Int) (f : Nat → Prop) (pre : List Dn) (t : Tm) (st : Nat) (rl : List Int) (rv : Value) (l : List Tm) (rest i : Value) (wr : World) : Prop :=
  ∃ (k : Nat) (f' : Nat → Prop), st ≤ k ∧ k ≤ l.length ∧ i = .int .i64 (k : Int) ∧ rest = (if k = st then rv else .slice none 0 0) ∧ J (pre ++ (hs, t) :: dnL hs 0 st rl (l.take k)) true f' wr ∧ ExQ (fun b => f b ∨ u.ownBlock = some b) w0 wr ∧ (∀ b, f' b → f b ∨ w0.heap.size ≤ b) ∧ wr.ownsRow N 3 1 u hs.length (hs.map fun z => .int .i64 z)
def DnPost (J : Tk Dn) (N : Nat) (S : World → Prop) (t : Tm) (u : Value) (hs fs : List Int) (pre : List Dn) (f : Nat → Prop) (w : World) (e : Ending) (w' : World) : Prop :=
  ∃ b, e = .returned (.bool b) ∧ Went J (dnT hs fs t) pre f (fun b => u.ownBlock = some b) w b w' ∧ (b = true → w'.ownsRow N 3 1 u hs.length (hs.map fun z => .int .i64 z)) ∧ IfNo b (S w')
set_option maxHeartbeats 2000000 in
theorem downS_any {J : Tk Dn} {K : Nat → Prop} {all : List Dn} (hJ : TkOk J K) (N lp : Nat) (hK : ∀ b, K b → b < N) {S : World → Prop} (RH : RndS lp LpD J all S) (t : Tm) : ∀ (v u fv : Value) (hs fs : List Int) (pre : List Dn) (f : Nat → Prop) (w : World) (X : Nat → Prop), TV w X v t → PV w X fv fs → (atT t fs).isSome = true → (∀ b, X b → b < N ∧ ¬ f b) → N ≤ w.heap.size → w.ownsRow N 3 1 u hs.length (hs.map fun z => .int .i64 z) → (∀ k, u.ownBlock = some k → ¬ f k) → J pre true f w → hs.length + sizeL [t] ≤ 900000 → (pre ++ dnT hs fs t) <+: all →
    Calls Try.prog 105 #[v, u, fv, .func (.yield lp) #[] #[]] w fun e w' => DnPost J N S t u hs fs pre f w e w' := by
  induction t using Tm.ind with
  | h s l ih =>
    intro v u fv hs fs pre f w X hv hfv hat hX hN hown huf hj hsm hOk
    have HOK := hide hOk
    clear hOk
    obtain ⟨a, c, rfl, hsl⟩ := hv
    have IH := hide ih
    clear ih
    have hl := hsl.1
    have hz : sizeL [(⟨s, l⟩ : Tm)] = 1 + sizeL l := by simp [sizeL]
    rw [hz] at hsm
    clear hz
    have hB0 : Below w.heap.size w (w.alloc (.cells #[.string s, .slice a l.length c] 25)) := (Below.refl _ _).alloc (Nat.le_refl _) _
    have hE0 : ExQ (fun _ => False) w (w.alloc (.cells #[.string s, .slice a l.length c] 25)) := (ExQ.refl _ _).alloc _
    have HE0 := hide hE0
    have HJ0 := hide (hJ.exq hj hE0 (fun _ _ h => h))
    have HIN := hide (hJ.inside hj)
    have hown0 : ((w.alloc (.cells #[.string s, .slice a l.length c] 25))).ownsRow N 3 1 u hs.length (hs.map fun z => .int .i64 z) := ownsRow_at hown fun g hg => Below.heap_alloc _ _ _ (hown.lt g hg).2
    have hltu := hide hown.lt
    have HXu : Hid (∀ b, X b → some b ≠ u.ownBlock) := fun b hb e => by have := (hltu.out b e.symm).1; have := hX b hb; omega
    have HBu : Hid (u.ownBlock ≠ some w.heap.size) := fun e => by have := (hltu.out _ e).2; omega
    have HBf : Hid (¬ f w.heap.size) := fun e => by have := HIN.out _ (Or.inl e); omega
    have hw0 : Hid (((w.alloc (.cells #[.string s, .slice a l.length c] 25))).heap.size = w.heap.size + 1) := by simp [Hid]
    have HSL := hide (hsl.later hB0)
    have HFV := hide (hfv.later hB0)
    have HX := hide hX
    have HK := hide hK
    clear hK
    have HUF := hide huf
    have hpos : ∀ z ∈ fs.take 1, 0 ≤ z := by
      cases fs with
      | nil => simp
      | cons z zs => intro y hy; simp at hy; subst hy; rw [atT] at hat; split at hat; (next h => exact h.1); (next => cases hat)
    have hstl : hdN fs ≤ l.length := by
      cases fs with
      | nil => simp [hdN]
      | cons z zs => rw [atT] at hat; split at hat; (next h => have := h.2; simp [hdN]; simp at this; omega); (next => cases hat)
    have HAT : Hid (∀ k (h : k < l.length), hdN fs ≤ k → (atT l[k] (if k = hdN fs then fs.tail else [])).isSome = true) := fun k h hk => by
      by_cases e : k = hdN fs
      · rw [if_pos e]
        cases fs with
        | nil => rfl
        | cons z zs =>
          simp only [atT] at hat
          split at hat
          next h2 =>
            have e2 : z.toNat = k := by rw [e]; simp [hdN]
            simp only [e2] at hat
            exact hat
          next => simp at hat
      · rw [if_neg e]; rfl
    have HJx := hide hJ
    have hhs : hs.length ≤ 1000000 := by omega
    have RHW := RH 0 pre (hs, ⟨s, l⟩) #[u, .agg #[.string s, .slice a l.length c]] (fun b => (X b ∨ u.ownBlock = some b) ∧ b < ((w.alloc (.cells #[.string s, .slice a l.length c] 25))).heap.size) f (w.alloc (.cells #[.string s, .slice a l.length c] 25)) (List.IsPrefix.trans ⟨dnL hs 0 (hdN fs) fs.tail l, by simp [dnT]⟩ HOK.out) HJ0.out ⟨u, _, rfl, (pv_of_own hown0).mono fun b hb hl => ⟨Or.inr hb.2, hl⟩, a, c, rfl, HSL.out.mono fun b hb hl => ⟨Or.inl hb, hl⟩⟩ (fun b hb => ⟨hb.2, by
      rcases hb.1 with h | h
      · exact (hX b h).2
      · exact huf b h⟩)
    obtain ⟨hfn, htmps, hasg, hbody, hy, hR⟩ := RHW
    have HR := hide hR
    have HRH := hide RH
    have HO0 := hide hown0
    clear hsl hfv hX hB0 hE0 hR RH hown hown0 huf hj hat hJ
    have hf1 : Fence.wide.fn 125 := trivial
    go_enter Try.func105, Try.ntmps105
    refine (wpIn_wide (n := 1)).1 ?_
    gi_wp2
    refine HR.out.mono ?_
    rintro e W1 ⟨s1, rfl, f1, hj1, he1, hff1, hS1⟩
    have HS1 := hide hS1
    clear hS1
    clear hy
    have K1 : W1.cell? ⟨w.heap.size, 1, none⟩ = some (.slice a l.length c) := by
      have h1 := he1.block w.heap.size (by simp) HBf.out
      rw [heap_alloc_new] at h1
      simp [World.cell?, h1]
    cases s1 with
    | false =>
      gi_wp2
      go_ret
      refine ⟨false, rfl, ?_, by simp, fun _ => HS1.out rfl⟩
      exact Went.from (Went.stop (a1 := ([(hs, (⟨s, l⟩ : Tm))] : List Dn)) (Went.one hj1 he1 hff1)) (HE0.out.mono fun _ h _ => h.elim) (fun b hb => Or.inl hb)
    | true =>
      have HJ1 := hide hj1
      have HE1 := hide he1
      have HFF1 := hide hff1
      have hP1 : PV W1 X fv fs := ((HFV.out.mono (Y := fun b => X b ∧ b < (w.alloc (.cells #[.string s, .slice a l.length c] 25)).heap.size) fun b h1 h2 => ⟨h1, h2⟩).kept (w' := W1) fun b hb => HE1.out.block b hb.2 (HX.out b hb.1).2).mono fun b hb _ => hb.1
      have HO1 : Hid (W1.ownsRow N 3 1 u hs.length (hs.map fun z => .int .i64 z)) := ownsRow_at HO0.out fun g hg => HE1.out.block g (by have := (hltu.out g hg).2; have := hw0.out; omega) (HUF.out g hg)
      have hwW : w.heap.size < W1.heap.size := by have := he1.size; have := hw0.out; omega
      clear hj1 he1 hff1
      gi_wp2_with (gi_at_call 125; refine (callsIn_wide.2 (nextI_any fs fv _ X hP1 hpos)).mono ?_; rintro e W2 ⟨hb2, rv, rfl, hrv⟩; have K2 := (hb2.cell (p := ⟨w.heap.size, 1, none⟩) hwW).trans K1)
      have HRV := hide hrv
      have HB2 := hide hb2
      clear hP1 hrv hb2
      refine wpIn_wide.2 ?_
      go_loopw [10, 11] (fun q' i wr => DnInv (J := J) (w.alloc (.cells #[.string s, .slice a l.length c] 25)) N u hs f pre ⟨s, l⟩ (hdN fs) fs.tail rv l q' i wr ∧ PV wr X (if (intOf i).toNat = hdN fs then rv else .slice none 0 0) (if (intOf i).toNat = hdN fs then fs.tail else [])) (fun q' i wr => l.length - (intOf i).toNat)
      case atStart =>
        refine ⟨⟨hdN fs, f1, Nat.le_refl _, hstl, rfl, by rw [if_pos rfl], ?_, (HE1.out.mono fun b hb _ => Or.inl hb).trans (ExQ.ofBelow HB2.out), HFF1.out, ownsRow_at HO1.out fun g hg => HB2.out.block g (HO1.out.lt g hg).2⟩, by simpa [intOf] using HRV.out⟩
        rw [dnL_before hs (hdN fs) fs.tail (l.take (hdN fs)) 0 (by simp; omega)]
        exact HJx.out.abide HJ1.out HB2.out.size fun b hb => HB2.out.block b (HJx.out.inside HJ1.out b hb)
      case round =>
        obtain ⟨⟨k, f2, hst, hk, rfl, rfl, hj2, he2, hff2, ho2⟩, hpv2⟩ := hrel
        have ek : (intOf (.int .i64 (k : Int))).toNat = k := by simp [intOf]
        rw [ek] at hpv2
        clear ek
        have HJ2 := hide hj2
        have HE2 := hide he2
        have HFF2 := hide hff2
        have HO2 := hide ho2
        have HPV2 := hide hpv2
        have hz2 : w.heap.size + 1 ≤ wr.heap.size := by have := he2.size; have := hw0.out; omega
        have HXQ : Hid (∀ b, X b → ¬ (f b ∨ u.ownBlock = some b)) := fun b hb h => by
          rcases h with h | h
          · exact (HX.out b hb).2 h
          · exact HXu.out b hb h.symm
        have HX2 : Hid (∀ b, X b → b < N ∧ ¬ f2 b) := fun b hb => ⟨(HX.out b hb).1, fun h => by
          rcases HFF2.out b h with h | h
          · exact (HX.out b hb).2 h
          · have := (HX.out b hb).1; have := hw0.out; omega⟩
        have HBf2 : Hid (∀ b, f2 b ∨ K b → b < wr.heap.size) := HJx.out.inside hj2
        have HUF2 : Hid (∀ g, u.ownBlock = some g → ¬ f2 g) := fun g hg h => by
          rcases HFF2.out g h with h | h
          · exact HUF.out g hg h
          · have := (hltu.out g hg).2; have := hw0.out; omega
        have HB2 : Hid (¬ f2 w.heap.size) := fun h => by
          rcases HFF2.out _ h with h | h
          · exact HBf.out h
          · have := hw0.out; omega
        have K2 : wr.cell? ⟨w.heap.size, 1, none⟩ = some (.slice a l.length c) := by
          have h1 := he2.block w.heap.size (by simp) (fun h => by
            rcases h with h | h
            · exact HBf.out h
            · exact HBu.out h)
          rw [heap_alloc_new] at h1
          simp [World.cell?, h1]
        clear hj2 he2 hff2 ho2 hpv2
        have hpre : dnT hs fs ⟨s, l⟩ = (hs, ⟨s, l⟩) :: dnL hs 0 (hdN fs) fs.tail l := rfl
        have HPRE := hide hpre
        clear hpre
        by_cases hlt : k < l.length
        · have hst2 := sizeL_ge1 l k hlt
          obtain ⟨b, o, a', c', rfl, d0, d1, hx⟩ := (HSL.out.exq HE2.out HXQ.out).get (Below.refl wr.heap.size wr) (fun _ _ h => h) k hlt
          have hbX : X b := by
            obtain ⟨_, h1⟩ := HSL.out
            rcases h1 with h1 | ⟨b', o', e', h1⟩
            · rw [h1] at hlt; simp at hlt
            · cases e'; exact (lies_get _ _ _ h1 k hlt).1
          have HXX := hide hx
          have HT := hide (dnL_take hs (hdN fs) fs.tail l k hlt hst)
          have HSM : Hid ((hs ++ [(k : Int)]).length + sizeL [l[k]] ≤ 900000) := by unfold Hid; simp; omega
          have HATk := hide (HAT.out k hlt hst)
          have HSPL : Hid (dnL hs 0 (hdN fs) fs.tail l = dnL hs 0 (hdN fs) fs.tail (l.take k) ++ (dnT (hs ++ [(k : Int)]) (if k = hdN fs then fs.tail else []) l[k] ++ dnL hs (0 + (l.take (k + 1)).length) (hdN fs) fs.tail (l.drop (k + 1)))) := by
            unfold Hid
            rw [← List.append_assoc, ← HT.out, ← dnL_append, List.take_append_drop]
          have HOKk : Hid (((pre ++ (hs, ⟨s, l⟩) :: dnL hs 0 (hdN fs) fs.tail (l.take k)) ++ dnT (hs ++ [(k : Int)]) (if k = hdN fs then fs.tail else []) l[k]) <+: all) := List.IsPrefix.trans ⟨dnL hs (0 + (l.take (k + 1)).length) (hdN fs) fs.tail (l.drop (k + 1)), by rw [HPRE.out, HSPL.out]; simp⟩ HOK.out
          generalize hqv : (if k = hdN fs then rv else .slice none 0 0) = qv at *
          clear hqv
          generalize (if k = hdN fs then fs.tail else []) = ql at *
          clear hx hst2
          have HS0 := hide (And.intro K2 (And.intro d0 d1))
          go_wp2_with fail
          have hbW : Below wr.heap.size wr (wr.alloc (.cells #[.int .i64 (k : Int)] 3)).drew := ((Below.refl _ _).alloc (Nat.le_refl _) _).drew
          have HBW := hide hbW
          have HOU : Hid (((wr.alloc (.cells #[.int .i64 (k : Int)] 3)).drew).ownsRow N 3 1 u hs.length (hs.map fun z => .int .i64 z)) := ownsRow_at HO2.out fun g hg => hbW.block g (HO2.out.lt g hg).2
          have HNW : Hid (N ≤ ((wr.alloc (.cells #[.int .i64 (k : Int)] 3)).drew).heap.size) := by unfold Hid; simp; omega
          have HFW : Hid (((wr.alloc (.cells #[.int .i64 (k : Int)] 3)).drew).heap[wr.heap.size]? = some (.cells #[.int .i64 (k : Int)] 3 (0, 0))) := heap_alloc_new wr (.cells #[.int .i64 (k : Int)] 3)
          have HSE : Hid (∀ u2 W2, ((wr.alloc (.cells #[.int .i64 (k : Int)] 3)).drew).grownBy W2 u.ownBlock → Ext (wr.alloc (.cells #[.int .i64 (k : Int)] 3)).drew W2 u u2 hs.length → (W2.cell? ⟨w.heap.size, 1, none⟩ = some (.slice (some ⟨b, o, none⟩) l.length c) ∧ W2.cell? ⟨b, o + k * 2, none⟩ = some (.string l[k].name) ∧ W2.cell? ⟨b, o + k * 2 + 1, none⟩ = some (.slice a' l[k].args.length c')) ∧ (∀ b, f2 b ∨ K b → W2.heap[b]? = wr.heap[b]?) ∧ (∀ b, X b → W2.heap[b]? = wr.heap[b]?) ∧ wr.heap.size < W2.heap.size ∧ (∀ g, u2.ownBlock = some g → ¬ f2 g) ∧ (∀ g, u2.ownBlock = some g → u.ownBlock = some g ∨ wr.heap.size ≤ g) ∧ ExQ (fun b => u.ownBlock = some b) wr W2 ∧
              ∀ w5, ExQ (fun b => f2 b ∨ u2.ownBlock = some b) W2 w5 → w5.cell? ⟨w.heap.size, 1, none⟩ = some (.slice (some ⟨b, o, none⟩) l.length c) ∧ w5.cell? ⟨b, o + k * 2, none⟩ = some (.string l[k].name) ∧ w5.cell? ⟨b, o + k * 2 + 1, none⟩ = some (.slice a' l[k].args.length c')) := fun u2 W2 hg2 he2 => by
            have hbN := HX.out b hbX
            have hgz := hg2.size
            simp at hgz
            have kp : ∀ j, j < wr.heap.size → u.ownBlock ≠ some j → W2.heap[j]? = wr.heap[j]? := fun j hj hne => (hg2.block j (by simp; omega) (fun e => hne e.symm)).trans (HBW.out.block j hj)
            have hE : ∀ g, u2.ownBlock = some g → u.ownBlock = some g ∨ wr.heap.size ≤ g := fun g hg => by
              rcases he2 with ⟨g2, cap, e3, e4⟩ | ⟨hn, _⟩
              · left; rw [e4] at hg; rw [e3]; exact hg
              · right; have := hn g hg; simp at this; omega
            have e0 := kp w.heap.size (by omega) HBu.out
            have e1 := kp b (by omega) (fun e => HXu.out b hbX e.symm)
            refine ⟨⟨(World.cell?_of_block e0).trans HS0.out.1, (World.cell?_of_block e1).trans HS0.out.2.1, (World.cell?_of_block e1).trans HS0.out.2.2⟩, fun j hj => kp j (HBf2.out j hj) (fun e => by
              rcases hj with hj | hj
              · exact HUF2.out j e hj
              · have := HK.out j hj; have := (hltu.out j e).1; omega), fun j hj => kp j (by have := HX.out j hj; omega) (fun e => HXu.out j hj e.symm), by omega, fun g hg h => ?_, hE, ⟨hg2.os, hg2.tape, hg2.output, by omega, fun j hj hne => kp j hj hne⟩, fun w5 hf => ?_⟩
            · rcases hE g hg with e | e
              · exact HUF2.out g e h
              · have := HBf2.out g (Or.inl h); omega
            · have f0 : w5.heap[w.heap.size]? = wr.heap[w.heap.size]? := (hf.block _ (by omega) (fun h => by
                rcases h with h | h
                · exact HB2.out h
                · rcases hE _ h with h | h
                  · exact HBu.out h
                  · omega)).trans e0
              have f1 : w5.heap[b]? = wr.heap[b]? := (hf.block _ (by omega) (fun h => by
                rcases h with h | h
                · exact (HX2.out b hbX).2 h
                · rcases hE _ h with h | h
                  · exact HXu.out b hbX h.symm
                  · omega)).trans e1
              exact ⟨(World.cell?_of_block f0).trans HS0.out.1, (World.cell?_of_block f1).trans HS0.out.2.1, (World.cell?_of_block f1).trans HS0.out.2.2⟩
          clear hbW
          go_region_held3 (fun w' => w'.cell? ⟨w.heap.size, 1, none⟩ = some (.slice (some ⟨b, o, none⟩) l.length c) ∧ w'.cell? ⟨b, o + k * 2, none⟩ = some (.string l[k].name) ∧ w'.cell? ⟨b, o + k * 2 + 1, none⟩ = some (.slice a' l[k].args.length c')) (first | exact HS0.out | exact hS5 | exact hS2 | go_keep)
            (first
              | (refine step_here (N := N) (hs := hs) (u := u) rfl _ _ rfl rfl rfl (k : Int) _ rfl HOU.out HNW.out HFW.out hhs ?_; intro u2 W2 ho2 hg2 he2; obtain ⟨hS2, kf, kX, hw2, hu2, hu2', hq2, hK3⟩ := HSE.out u2 W2 hg2 he2; have HO22 := hide ho2; have HG2 := hide hg2; have HX22 := hide he2; have HQ2 := hide hq2; have HU2 := hide hu2'; have hx2 := HXX.out.kept kX; have hp2 := HPV2.out.kept kX; have hj2 := HJx.out.abide HJ2.out (by omega) kf)
              | (go_at_call 105; refine (IH.out _ (List.getElem_mem hlt) _ _ _ _ _ _ f2 _ X hx2 hp2 HATk.out HX2.out (by omega) ho2 hu2 hj2 HSM.out HOKk.out).mono ?_; rintro e w5 ⟨s5, rfl, hw5, ho5, hss5⟩; have HSS5 := hide hss5; clear hss5; have HW5 := hide hw5; have hS5 := hK3 w5 hw5.exq; have HO5 := hide ho5; clear hw5 ho5))
          clear hS5 hx2 hp2 hS2 ho2 hg2 he2 kf kX hu2 hu2' hq2 hj2 hK3
          cases s5 with
          | false =>
            go_wp2_with fail
            go_ret
            refine ⟨false, rfl, ?_, by simp, fun _ => HSS5.out rfl⟩
            rw [HPRE.out, HSPL.out, ← List.cons_append]
            refine Went.from (Went.trans HJ2.out HE2.out HFF2.out (Went.stop (Went.from (g' := fun b => u.ownBlock = some b) HW5.out HQ2.out HU2.out)) (fun b hb => Or.inl hb)) (HE0.out.mono fun _ h _ => h.elim) (fun b hb => Or.inl hb)
          | true =>
            have hf5 := Went.end_true (Went.trans HJ2.out HE2.out HFF2.out (Went.from (g' := fun b => u.ownBlock = some b) HW5.out HQ2.out HU2.out) (fun b hb => Or.inl hb))
            obtain ⟨f5, hj5, he5, hff5⟩ := hf5
            have HJ5 := hide hj5
            have HE5 := hide he5
            have HFF5 := hide hff5
            clear hj5 he5 hff5
            have HOB : Hid (w5.ownsRow N 3 1 u hs.length (hs.map fun z => .int .i64 z)) := here_backQ HOU.out HG2.out HX22.out (HO5.out rfl) HW5.out.exq (fun g hg hne h => by
              rcases h with h | h
              · exact HUF2.out g hg h
              · exact hne h)
            go_wp2_with fail
            go_roundw
            case rel =>
              refine ⟨⟨k + 1, f5, by omega, by omega, by go_num, by rw [if_neg (by omega)], ?_, HE5.out, HFF5.out, HOB.out⟩, ?_⟩
              · rw [HT.out]
                simpa using HJ5.out
              · have e1 : (intOf (.int .i64 ((k : Int) + 1))).toNat = k + 1 := by simp [intOf]
                have e2 : ¬ (k + 1 = hdN fs) := by omega
                simp only [e1, e2, if_false]
                exact ⟨none, 0, rfl, by simp, Or.inl rfl⟩
            case measure => simp [intOf]; omega
        · have htk : l.take k = l := List.take_of_length_le (by omega)
          have HF : Hid (Went J (dnT hs fs ⟨s, l⟩) pre f (fun b => u.ownBlock = some b) w true wr) := by
            rw [htk] at HJ2
            exact ⟨_, f2, Nat.le_refl _, fun _ => rfl, by rw [HPRE.out, List.take_length]; exact HJ2.out, (HE0.out.mono fun _ h _ => h.elim).trans HE2.out, fun b hb => by
              rcases HFF2.out b hb with h | h
              · exact Or.inl h
              · right; have := hw0.out; omega⟩
          generalize (if k = hdN fs then rv else .slice none 0 0) = qv at *
          go_wp2_with fail
          gi_wp2
          go_ret
          exact ⟨true, rfl, HF.out, (fun _ => HO2.out), fun h => by cases h⟩
set_option maxHeartbeats 2000000 in
theorem downI_any {J : Tk Dn} {K : Nat → Prop} {all : List Dn} (hJ : TkOk J K) (N lp : Nat) (hK : ∀ b, K b → b < N) (RH : Rnd lp LpD J all) (t : Tm) : ∀ (v u fv : Value) (hs fs : List Int) (pre : List Dn) (f : Nat → Prop) (w : World) (X : Nat → Prop), TV w X v t → PV w X fv fs → (atT t fs).isSome = true → (∀ b, X b → b < N ∧ ¬ f b) → N ≤ w.heap.size → w.ownsRow N 3 1 u hs.length (hs.map fun z => .int .i64 z) → (∀ k, u.ownBlock = some k → ¬ f k) → J pre true f w → hs.length + sizeL [t] ≤ 900000 → (pre ++ dnT hs fs t) <+: all →
    Calls Try.prog 105 #[v, u, fv, .func (.yield lp) #[] #[]] w fun e w' => ∃ b, e = .returned (.bool b) ∧ Went J (dnT hs fs t) pre f (fun b => u.ownBlock = some b) w b w' ∧ (b = true → w'.ownsRow N 3 1 u hs.length (hs.map fun z => .int .i64 z)) := by
  intro v u fv hs fs pre f w X h1 h2 h3 h4 h5 h6 h7 h8 h9 h10
  refine (downS_any hJ N lp hK RH.toS t v u fv hs fs pre f w X h1 h2 h3 h4 h5 h6 h7 h8 h9 h10).mono ?_
  rintro e w' ⟨b, he, hw, ho, _⟩
  exact ⟨b, he, hw, ho⟩
#print axioms nextI_any
#print axioms downI_any
end Go.Proofs.Ytcjdbbdmighliac

/- One term has another one's symbols wherever that has some: plain. -/
namespace Go.Proofs.Ytcjdbbdmighliac
open Go.RowKit
set_option linter.unusedSimpArgs false
set_option linter.unusedVariables false

/-- Symbols, and how many there are below, are the pattern's, wherever the pattern has one. -/
def shL : List Tm → List Tm → Bool
  | [], _ => true
  | ⟨s, a⟩ :: r, ts => match ts with
    | [] => false
    | t :: ts' => (varB s || ((s.toList == t.name.toList) && (a.length == t.args.length) && shL a t.args)) && shL r ts'
def shT (p t : Tm) : Bool := varB p.name || ((p.name.toList == t.name.toList) && (p.args.length == t.args.length) && shL p.args t.args)
theorem shL_cons (p t : Tm) (r ts : List Tm) : shL (p :: r) (t :: ts) = (shT p t && shL r ts) := by obtain ⟨s, a⟩ := p; simp only [shL, shT]
theorem shT_deep {s s2 : ByteArray} {l m : List Tm} (hv : varB s = false) : shT ⟨s, l⟩ ⟨s2, m⟩ = ((s.toList == s2.toList) && (l.length == m.length) && shL l m) := by simp [shT, hv]
theorem shT_var {s : ByteArray} {l : List Tm} {t : Tm} (hv : varB s = true) : shT ⟨s, l⟩ t = true := by simp [shT, hv]
theorem shL_iff : ∀ (l m : List Tm), l.length = m.length → (shL l m = true ↔ ∀ k (h : k < l.length) (h2 : k < m.length), shT l[k] m[k] = true)
  | [], m, _ => by simp [shL]
  | _ :: _, [], e => by simp at e
  | p :: r, t :: ts, e => by
    have ih := shL_iff r ts (by simpa using e)
    rw [shL_cons, Bool.and_eq_true, ih]
    refine ⟨fun h k h1 h2 => ?_, fun h => ⟨h 0 (by simp) (by simp), fun k h1 h2 => h (k + 1) (by simpa using h1) (by simpa using h2)⟩⟩
    cases k with
    | zero => exact h.1
    | succ k => exact h.2 k (by simpa using h1) (by simpa using h2)
theorem shL_no {l m : List Tm} {k : Nat} (hlm : l.length = m.length) (h : k < l.length) (h2 : k < m.length) (h0 : shT l[k] m[k] = false) : shL l m = false := by
  cases hs : shL l m with
  | false => rfl
  | true => rw [(shL_iff l m hlm).1 hs k h h2] at h0; cases h0
/-- Where they aren't, nothing makes one the other. -/
theorem mtL_unshaped : ∀ (l m : List Tm) (h : List Bd), l.length = m.length → shL l m = false → mtL l m h = none := by
  intro l
  induction l using Tm.indL with
  | h0 => intro m h _ hs; simp [shL] at hs
  | h s a r iha ihr =>
    intro m h hlm hs
    cases m with
    | nil => simp at hlm
    | cons t ts =>
      rw [shL_cons] at hs
      rw [mtL_cons]
      cases h1 : shT ⟨s, a⟩ t with
      | true =>
        rw [h1, Bool.true_and] at hs
        cases mtT ⟨s, a⟩ t h with
        | none => rfl
        | some h' => exact ihr ts h' (by simpa using hlm) hs
      | false =>
        obtain ⟨s2, m2⟩ := t
        have hv : varB s = false := by
          cases hv : varB s with
          | false => rfl
          | true => rw [shT_var hv] at h1; cases h1
        rw [shT_deep hv] at h1
        have e : mtT ⟨s, a⟩ ⟨s2, m2⟩ h = none := by
          cases hn : ((s.toList == s2.toList) && (a.length == m2.length)) with
          | false => exact mtT_off hv hn
          | true =>
            rw [hn, Bool.true_and] at h1
            rw [Bool.and_eq_true] at hn
            have hl : a.length = m2.length := by simpa using hn.2
            rw [mtT_deep hv hn.1 hl]
            exact iha m2 h hl h1
        rw [e]
theorem mtT_unshaped {p t : Tm} (h : List Bd) (hs : shT p t = false) : mtT p t h = none := by
  have := mtL_unshaped [p] [t] h rfl (by rw [shL_cons, hs]; rfl)
  rw [mtL_cons] at this
  cases hm : mtT p t h with
  | none => rfl
  | some h' => rw [hm] at this; simp [mtL] at this
#print axioms mtT_unshaped
end Go.Proofs.Ytcjdbbdmighliac

/- Walks: whether two terms are the same, as the program asks. -/
namespace Go.Proofs.Ytcjdbbdmighliac
open Go.RowKit
set_option linter.unusedSimpArgs false
set_option linter.unusedVariables false
set_option maxRecDepth 8000

set_option maxHeartbeats 2000000 in
theorem sameK_all (t : Tm) : ∀ (x : Tm) (v u : Value) (w : World) (X Y : Nat → Prop), TV w X v t → TV w Y u x →
    Calls Try.prog 92 #[v, u] w fun e w' => e = .returned (.bool (sameB t x)) ∧ Below w.heap.size w w' := by
  induction t using Tm.ind with
  | h s l ih =>
    intro x v u w X Y hv hu
    obtain ⟨s2, m⟩ := x
    have IH := hide ih
    clear ih
    obtain ⟨a, c, rfl, hs⟩ := hv
    obtain ⟨a2, c2, rfl, hs2⟩ := hu
    have hl := hs.1
    have hl2 := hs2.1
    dsimp only
    cases hn : (s.toList == s2.toList) with
    | false =>
      have HR : Hid (false = sameB ⟨s, l⟩ ⟨s2, m⟩) := by unfold Hid sameB; rw [hn]; rfl
      go_enter Try.func92, Try.ntmps92
      go_wp2_with fail
      go_ret
      exact ⟨ret_bool HR.out, below2 _ _⟩
    | true =>
      by_cases hm : l.length = m.length
      · have HR : Hid (eqL l m = sameB ⟨s, l⟩ ⟨s2, m⟩) := by unfold Hid sameB; simp [hn, hm]
        have HM := hide hm
        rw [← hm]
        clear hm
        go_enter Try.func92, Try.ntmps92
        go_wp2_with fail
        go_loopw [23] (fun i wr => SaInv w l m a a2 c c2 i wr) (fun i wr => l.length - (intOf i).toNat)
        case atStart => exact ⟨0, Nat.zero_le _, rfl, by simp [eqL], below2 _ _, by simp, by simp, by simp⟩
        case round =>
          obtain ⟨k, hk, rfl, hq, hb, hc1, hc2, hsz⟩ := hrel
          have HQ := hide hq
          clear hq
          by_cases hlt : k < l.length
          · obtain ⟨b, o, a', c', rfl, d0, d1, hx⟩ := hs.get hb (fun _ _ h => h) k hlt
            obtain ⟨b2, o2, a2', c2', rfl, e0, e1, hx2⟩ := hs2.get hb (fun _ _ h => h) k (by have := HM.out; omega)
            have hltm : k < m.length := by have := HM.out; omega
            have HX := hide hx
            have HX2 := hide hx2
            have HB := hide hb
            have HS0 := hide (And.intro hc1 (And.intro hc2 (And.intro d0 (And.intro d1 (And.intro e0 e1)))))
            have IHK := hide (fun (w' : World) => IH.out l[k] (List.getElem_mem hlt) m[k] (.agg #[.string l[k].name, .slice a' l[k].args.length c']) (.agg #[.string m[k].name, .slice a2' m[k].args.length c2']) w' X Y)
            have HT := hide (eqL_take hlt hltm)
            have HNO := hide (eqL_no hlt HM.out)
            clear hx hx2 hb
            generalize l[k] = y at *
            generalize m[k] = z at *
            go_wp2_with fail
            cases hsm : sameB y z with
            | true =>
              rw [hsm] at IHK HT
              go_region_held3 (fun w' => w'.cell? ⟨w.heap.size, 1, none⟩ = some (.slice (some ⟨b, o, none⟩) l.length c) ∧ w'.cell? ⟨w.heap.size + 1, 1, none⟩ = some (.slice (some ⟨b2, o2, none⟩) l.length c2) ∧ w'.cell? ⟨b, o + k * 2, none⟩ = some (.string y.name) ∧ w'.cell? ⟨b, o + k * 2 + 1, none⟩ = some (.slice a' y.args.length c') ∧ w'.cell? ⟨b2, o2 + k * 2, none⟩ = some (.string z.name) ∧ w'.cell? ⟨b2, o2 + k * 2 + 1, none⟩ = some (.slice a2' z.args.length c2')) (first | exact HS0.out | exact hS1 | go_keep)
                ((go_at_call 92; refine (IHK.out _ (by exact HX.out.later (below_drewN (Below.refl _ _) 1)) (by exact HX2.out.later (below_drewN (Below.refl _ _) 1))).mono ?_; rintro e w1 ⟨rfl, hb1⟩; have hS1 := same_cells (n := 1) hb1 HS0.out))
              go_wp2_with fail
              go_roundw
              case rel => exact ⟨k + 1, by omega, by go_num, by rw [HT.out, HQ.out]; rfl, (HB.out.trans (below_drewN (Below.refl _ _) 1)).trans (hb1.mono (by simp; omega)), hS1.1, hS1.2.1, by have := hb1.size; simp at this; omega⟩
              case measure => simp [intOf]; omega
            | false =>
              have HF : Hid (false = sameB ⟨s, l⟩ ⟨s2, m⟩) := by unfold Hid; rw [← HR.out, HNO.out hsm]
              rw [hsm] at IHK
              go_region_held3 (fun w' => w'.cell? ⟨w.heap.size, 1, none⟩ = some (.slice (some ⟨b, o, none⟩) l.length c) ∧ w'.cell? ⟨w.heap.size + 1, 1, none⟩ = some (.slice (some ⟨b2, o2, none⟩) l.length c2) ∧ w'.cell? ⟨b, o + k * 2, none⟩ = some (.string y.name) ∧ w'.cell? ⟨b, o + k * 2 + 1, none⟩ = some (.slice a' y.args.length c') ∧ w'.cell? ⟨b2, o2 + k * 2, none⟩ = some (.string z.name) ∧ w'.cell? ⟨b2, o2 + k * 2 + 1, none⟩ = some (.slice a2' z.args.length c2')) (first | exact HS0.out | exact hS1 | go_keep)
                ((go_at_call 92; refine (IHK.out _ (by exact HX.out.later (below_drewN (Below.refl _ _) 1)) (by exact HX2.out.later (below_drewN (Below.refl _ _) 1))).mono ?_; rintro e w1 ⟨rfl, hb1⟩; have hS1 := same_cells (n := 1) hb1 HS0.out))
              go_wp2_with fail
              go_ret
              exact ⟨ret_bool HF.out, (HB.out.trans (below_drewN (Below.refl _ _) 1)).trans (hb1.mono (by simp; omega))⟩
          · have HF : Hid (true = sameB ⟨s, l⟩ ⟨s2, m⟩) := by
              unfold Hid
              rw [← HR.out, ← HQ.out, List.take_of_length_le (by omega), List.take_of_length_le (by have := HM.out; omega)]
            go_wp2_with fail
            go_ret
            exact ⟨ret_bool HF.out, hb⟩
      · have HR : Hid (false = sameB ⟨s, l⟩ ⟨s2, m⟩) := by unfold Hid sameB; simp [hn, hm]
        have hm2 : ((l.length : Int) == (m.length : Int)) = false := beq_eq_false_iff_ne.2 (by omega)
        clear hm
        go_enter Try.func92, Try.ntmps92
        go_wp2_with fail
        go_ret
        exact ⟨ret_bool HR.out, below2 _ _⟩
#print axioms sameK_all
end Go.Proofs.Ytcjdbbdmighliac


/- Walks: what stands for variables, in a map; what is looked for there. -/
namespace Go.Proofs.Ytcjdbbdmighliac
open Go.RowKit
set_option linter.unusedSimpArgs false
set_option linter.unusedVariables false
set_option maxRecDepth 8000

/-- No variable twice. -/
def Once (ls : List Bd) : Prop := ∀ k (h : k < ls.length), forT (ls.take k) ls[k].nm = none

/-- The map's values are the bindings' terms. -/
def PairsL (w : World) (X : Nat → Prop) : List Bd → List (ByteArray × Value) → Prop
  | [], L => L = []
  | d :: r, L => ∃ a c L', L = (d.nm, .agg #[.string d.t.name, .slice a d.t.args.length c]) :: L' ∧ Sl w X a d.t.args ∧ PairsL w X r L'
theorem PairsL.imp {w w' : World} {X Y : Nat → Prop} (hs : ∀ a l, Sl w X a l → Sl w' Y a l) : ∀ {l : List Bd} {L : List (ByteArray × Value)}, PairsL w X l L → PairsL w' Y l L
  | [], L, h => h
  | d :: r, L, h => by obtain ⟨a, c, L', e, h1, h2⟩ := h; exact ⟨a, c, L', e, hs _ _ h1, PairsL.imp hs h2⟩
theorem PairsL.push {w : World} {X : Nat → Prop} {d : Bd} {a : Option Addr} {c : Nat} (hs : Sl w X a d.t.args) : ∀ {l : List Bd} {L : List (ByteArray × Value)}, PairsL w X l L → PairsL w X (l ++ [d]) (L ++ [(d.nm, .agg #[.string d.t.name, .slice a d.t.args.length c])])
  | [], L, h => by
    have e : L = [] := h
    subst e
    exact ⟨a, c, [], rfl, hs, rfl⟩
  | d' :: r, L, h => by obtain ⟨a', c', L', e, h1, h2⟩ := h; subst e; exact ⟨a', c', _, rfl, h1, PairsL.push hs h2⟩
theorem PairsL.get {w : World} {X : Nat → Prop} (n : ByteArray) : ∀ {l : List Bd} {L : List (ByteArray × Value)}, PairsL w X l L → (forT l n = none → mapGet L n = none) ∧ (∀ t, forT l n = some t → ∃ a c, mapGet L n = some (.agg #[.string t.name, .slice a t.args.length c]) ∧ Sl w X a t.args)
  | [], L, h => by
    have e : L = [] := h
    subst e
    exact ⟨fun _ => rfl, fun t h => by simp [forT] at h⟩
  | d :: r, L, h => by
    obtain ⟨a, c, L', rfl, h1, h2⟩ := h
    obtain ⟨g1, g2⟩ := PairsL.get n h2
    by_cases hd : d.nm = n
    · refine ⟨fun h => by simp [forT, hd] at h, fun t h => ?_⟩
      rw [forT, if_pos hd] at h
      cases h
      exact ⟨a, c, by simp [mapGet, hd], h1⟩
    · refine ⟨fun h => ?_, fun t h => ?_⟩
      · rw [forT, if_neg hd] at h
        simp only [mapGet, hd, if_false]
        exact g1 h
      · rw [forT, if_neg hd] at h
        simp only [mapGet, hd, if_false]
        exact g2 t h

def ByInv (w : World) (X : Nat → Prop) (ls : List Bd) (v : Value) (wr : World) : Prop := ∃ (k : Nat) (L : List (ByteArray × Value)), v = .int .i64 (k : Int) ∧ k ≤ ls.length ∧ MapAt wr w.heap.size L ∧ PairsL wr (fun b => X b ∧ b < w.heap.size) (ls.take k) L ∧ Below w.heap.size w wr

end Go.Proofs.Ytcjdbbdmighliac
