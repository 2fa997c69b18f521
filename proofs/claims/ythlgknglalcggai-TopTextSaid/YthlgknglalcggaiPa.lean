/- Rows of places that are gathered along a path. -/
import Derived.Test.YthlgknglalcggaiW24
import Derived.Test.YthlgknglalcggaiShelf
namespace Go.Proofs.Ythlgknglalcggai
open Go.RowKit
set_option linter.unusedSimpArgs false
set_option linter.unusedVariables false

/-- An append whose outcome is known, at a step of a region that draws its order. -/
theorem step_append_eq {P : Program} {ops : Array Oper} {o : Oper} {a : Act} {K : Act → World → Prop} {Q : Exit → Act → World → Prop} {E : Prop} {w w' : World} {v u v' : Value} (hgd : o.guard = none) (s x : Operand) (t t' : TypeId)
    (ho : o.op = .call { callee := .builtin .append, args := #[s, x], argTypes := #[t, t'] }) (hs : a.eval s = v) (hx : a.eval x = u)
    (hr : (Builtin.append_ #[t, t'] o.type #[v, u]).run P w = .ok v' w') (h : K (a.put o.dst v') w') : if Region.wanted o (yielded ops a.tmps) = true then Oper.wp P o a w K Q else E := by
  have hw : Region.wanted o (yielded ops a.tmps) = true := by simp [Region.wanted, hgd]
  rw [if_pos hw]
  unfold Oper.wp execOp
  simp only [ho, resolve, invoke, builtin, Sem.run_bind, Sem.run_pure, Result.andThen_ok, List.map_toArray, List.map_cons, List.map_nil, hs, hx, hr]
  exact h

/-- Rows of two types lie in two blocks. -/
theorem own_far {w : World} {N N' T T' n m : Nat} {q u : Value} {xs ys : List Value} (h : w.ownsRow N T 1 q n xs) (h' : w.ownsRow N' T' 1 u m ys) (hT : T ≠ T') (k : Nat) (hk : q.ownBlock = some k) : u.ownBlock ≠ some k := by
  intro e
  obtain ⟨_, h⟩ := h
  obtain ⟨_, h'⟩ := h'
  rcases h with ⟨rfl, _⟩ | ⟨g, cap, cur, rfl, _, hg, _⟩
  · simp [Value.ownBlock] at hk
  · rcases h' with ⟨rfl, _⟩ | ⟨g', cap', cur', rfl, _, hg', _⟩
    · simp [Value.ownBlock] at e
    · simp [Value.ownBlock] at hk e
      subst hk; subst e
      rw [hg] at hg'; simp at hg'; exact hT hg'.2

/-- How a path and the path that is one step longer lie. -/
def Ext (W W' : World) (u u' : Value) (n : Nat) : Prop :=
  (∃ g cap, u = .slice (some ⟨g, 0, none⟩) n cap ∧ u' = .slice (some ⟨g, 0, none⟩) (n + 1) cap) ∨ ((∀ k, u'.ownBlock = some k → W.heap.size ≤ k) ∧ Below W.heap.size W W')

theorem here_step {W : World} {N : Nat} {u : Value} {hs : List Int} (h : W.ownsRow N 3 1 u hs.length (hs.map fun z => .int .i64 z)) (hN : N ≤ W.heap.size) (i : Int) (F : Nat) (hF : W.heap[F]? = some (.cells #[.int .i64 i] 3 (0, 0))) (hn : hs.length ≤ 1000000) :
    ∃ u' W', (Builtin.append_ #[22, 22] 22 #[u, .slice (some ⟨F, 0, none⟩) 1 1]).run Try.prog W = .ok u' W' ∧ W'.ownsRow N 3 1 u' (hs ++ [i]).length ((hs ++ [i]).map fun z => .int .i64 z) ∧ W.grownBy W' u.ownBlock ∧ Ext W W' u u' hs.length := by
  obtain ⟨i0, hi, hz0, hz1, hz2⟩ := info_parts Try.infoInt
  have hFc : W.cell? ⟨F, 0, none⟩ = some (.int .i64 i) := by simp [World.cell?, hF]
  have hsrc : Src Try.prog i0.size 22 (.slice (some ⟨F, 0, none⟩) 1 1) 1 [.int .i64 i] W := by
    rw [hz1]
    refine Src.ofSlice W Try.underlying22 ⟨F, 0, none⟩ 1 1 _ (by simp) (fun j v hj => ?_) (by intro v hv; simp at hv; subst hv; rfl)
    match j, hj with
    | 0, hj => simp at hj; subst hj; simpa [Addr.add] using hFc
  have h' := h
  obtain ⟨hl, h1⟩ := h
  have grow : ∀ (base : Option Addr) (cap : Nat), u = .slice base hs.length cap → (Builtin.firstCells i0.size hs.length (.slice base hs.length cap)).run Try.prog W.drew = .ok (hs.map fun z => Value.int .i64 z).toArray W.drew → cap < hs.length + 1 → cap ≤ 1000000 → 
      ∃ u' W', (Builtin.append_ #[22, 22] 22 #[u, .slice (some ⟨F, 0, none⟩) 1 1]).run Try.prog W = .ok u' W' ∧ W'.ownsRow N 3 1 u' (hs ++ [i]).length ((hs ++ [i]).map fun z => .int .i64 z) ∧ W.grownBy W' u.ownBlock ∧ Ext W W' u u' hs.length := by
    intro base cap hu hfc hcap hcm
    subst hu
    have hg := run_append_grow_src (P := Try.prog) W 22 22 22 3 i0 (.int .i64 0) Try.underlying22 hi hz0 base hs.length cap _ hfc _ 1 _ hsrc (by omega) (by omega) (by rw [hz2]; exact growslice_fits (by omega) (by omega))
    have hge := grownCap_ge W (hs.length + 1) cap 3
    have hcm := grownCap_le_maxLen W (hs.length + 1) cap 3 (by unfold maxLen; omega)
    have hbl : Below W.heap.size W (W.drew.alloc (.cells (((hs.map fun z => Value.int .i64 z) ++ [Value.int .i64 i]).toArray ++ Builtin.zeroCells (Value.int .i64 0).cells (grownCap W (hs.length + 1) cap 3 - (hs.length + 1))) 3)) := ((Below.refl W.heap.size W).drew).alloc (Nat.le_refl _) _
    refine ⟨_, _, hg, ⟨by simp, Or.inr ⟨W.heap.size, _, _, by simp, hN, heap_alloc_new W.drew _, by simp; omega, hcm, ?_, ?_⟩⟩, grown_of_below hbl _, Or.inr ⟨fun k hk => ?_, hbl⟩⟩
    · simp [Builtin.zeroCells, Value.cells]; omega
    · rw [Array.toList_append, List.take_append_of_le_length (by simp), List.take_of_length_le (by simp)]; simp
    · simp [Value.ownBlock] at hk; omega
  rcases h1 with ⟨hu, h0⟩ | ⟨g, cap, cur, hu, hgN, hgb, hnc, hcm, hcs, htk⟩
  · have e : hs = [] := List.length_eq_zero_iff.1 h0
    subst e
    exact grow none 0 hu (by simp [Builtin.firstCells, go_sem]) (by simp) (by omega)
  · by_cases hroom : hs.length + 1 ≤ cap
    · subst hu
      simp only [Nat.mul_one] at hcs htk
      have hgl : g < W.heap.size := (h'.lt g rfl).2
      have hnz : hs.length < cur.size := by omega
      have hg := run_append_room_src (P := Try.prog) W 22 22 22 3 i0 Try.underlying22 hi g 0 hs.length cap _ 1 _ hsrc hroom (fun j hj => by simp at hj; subst hj; rw [hz1]; simp [World.cell?, hgb, hnz]) (fun j hj => by simp at hj; subst hj; rw [hz1]; simp [World.frozen?, hgb])
      rw [hz1] at hg
      simp only [World.setCells, Nat.zero_add, Nat.mul_one] at hg
      refine ⟨_, _, hg, ⟨by simp, Or.inr ⟨g, cap, cur.setIfInBounds hs.length (.int .i64 i), by simp, hgN, ?_, by simpa using hroom, hcm, by simp [hcs], ?_⟩⟩, ⟨rfl, rfl, rfl, by simp [World.setCell], fun k hk hkb => Below.heap_setCell _ _ _ _ (by simp [Value.ownBlock] at hkb; simpa using hkb)⟩, Or.inl ⟨g, cap, rfl, rfl⟩⟩
      · simp [World.setCell, Array.getElem?_modify, hgb]
      · simp only [Array.toList_setIfInBounds, List.length_append, List.length_singleton, Nat.mul_one, List.map_append, List.map_cons, List.map_nil]
        rw [List.take_succ_eq_append_getElem (by simpa using hnz), List.take_set_of_le (by omega), htk]
        simp
    · exact grow (some ⟨g, 0, none⟩) cap hu (by
        have hc := h'.cells (g := g) (by rw [hu]; rfl)
        exact run_firstCells_some (P := Try.prog) W.drew i0.size hs.length ⟨g, 0, none⟩ hs.length cap _ (by rw [hz1]; simp) (fun j v hj => hc j v hj)) (by omega) (by omega)

/-- All but two rows and one block are as they were. -/
def Fr2 (A : Nat) (w w' : World) (q u : Value) : Prop :=
  w'.os = w.os ∧ w'.tape = w.tape ∧ w'.output = w.output ∧ w.heap.size ≤ w'.heap.size ∧ ∀ b, b < w.heap.size → b ≠ A → some b ≠ q.ownBlock → some b ≠ u.ownBlock → w'.heap[b]? = w.heap[b]?

theorem Fr2.of_below {A : Nat} {w w' : World} (hb : Below w.heap.size w w') (q u : Value) : Fr2 A w w' q u := ⟨hb.os, hb.tape, hb.output, hb.size, fun k hk _ _ _ => hb.block k hk⟩
theorem Fr2.of_grown {A : Nat} {w w' : World} {q : Value} (hb : w.grownBy w' q.ownBlock) (u : Value) : Fr2 A w w' q u := ⟨hb.os, hb.tape, hb.output, hb.size, fun k hk _ h _ => hb.block k hk h⟩
theorem Fr2.of_grown' {A : Nat} {w w' : World} {u : Value} (hb : w.grownBy w' u.ownBlock) (q : Value) : Fr2 A w w' q u := ⟨hb.os, hb.tape, hb.output, hb.size, fun k hk _ _ h => hb.block k hk h⟩
theorem Fr2.trans {A : Nat} {w w1 w2 : World} {q q1 u u1 : Value} (h : Fr2 A w w1 q u) (h1 : Fr2 A w1 w2 q1 u1) (hq : ∀ k, q1.ownBlock = some k → q.ownBlock = some k ∨ w.heap.size ≤ k) (hu : ∀ k, u1.ownBlock = some k → u.ownBlock = some k ∨ w.heap.size ≤ k) : Fr2 A w w2 q u :=
  ⟨h1.1.trans h.1, h1.2.1.trans h.2.1, h1.2.2.1.trans h.2.2.1, Nat.le_trans h.2.2.2.1 h1.2.2.2.1, fun b hb hbA hbq hbu => (h1.2.2.2.2 b (Nat.lt_of_lt_of_le hb h.2.2.2.1) hbA
    (fun e => by rcases hq b e.symm with h2 | h2; exact hbq h2.symm; omega) (fun e => by rcases hu b e.symm with h2 | h2; exact hbu h2.symm; omega)).trans (h.2.2.2.2 b hb hbA hbq hbu)⟩

theorem Fr2.own {A : Nat} {w w' : World} {q u v : Value} {N T n : Nat} {xs : List Value} (hAN : A < N) (h : Fr2 A w w' q u) (hv : w.ownsRow N T 1 v n xs) (hq : ∀ k, v.ownBlock = some k → q.ownBlock ≠ some k) (hu : ∀ k, v.ownBlock = some k → u.ownBlock ≠ some k) : w'.ownsRow N T 1 v n xs := by
  have hlt := hv.lt
  obtain ⟨h1, h2⟩ := hv
  refine ⟨h1, h2.imp id ?_⟩
  rintro ⟨g, cap, cur, rfl, hg, hh, hr⟩
  exact ⟨g, cap, cur, rfl, hg, by rw [h.2.2.2.2 g (hlt g rfl).2 (by have := (hlt g rfl).1; omega) (fun e => hq g rfl e.symm) (fun e => hu g rfl e.symm)]; exact hh, hr⟩

theorem PV.fr2 {A : Nat} {w w' : World} {Z : Nat → Prop} {x : Value} {z : List Int} {q u : Value} (h : PV w Z x z) (hg : Fr2 A w w' q u) (hA : ∀ b, Z b → b ≠ A) (hq : ∀ b, Z b → some b ≠ q.ownBlock) (hu : ∀ b, Z b → some b ≠ u.ownBlock) : PV w' (fun b => Z b ∧ b < w.heap.size) x z := by
  have h1 : PV w (fun b => Z b ∧ b < w.heap.size) x z := h.mono fun b h1 h2 => ⟨h1, h2⟩
  exact h1.kept fun b hx => hg.2.2.2.2 b hx.2 (hA b hx.1) (hq b hx.1) (hu b hx.1)

/-- Places that are gathered, and the path that stays. -/
def PlAt (A : Nat) (w0 : World) (N : Nat) (q0 u : Value) (hs : List Int) (Y : Nat → Prop) (ps : List (List Int)) (q : Value) (xs : List Value) (wr : World) : Prop :=
  wr.ownsRow N 22 1 q ps.length xs ∧ wr.ownsRow N 3 1 u hs.length (hs.map fun z => .int .i64 z) ∧ RowP wr (fun b => N ≤ b ∧ some b ≠ q.ownBlock ∧ some b ≠ u.ownBlock ∧ ¬ Y b) ps xs ∧ Fr2 A w0 wr q0 u ∧ (∀ k, q.ownBlock = some k → q0.ownBlock = some k ∨ w0.heap.size ≤ k)

theorem pl_ne : (22 : Nat) ≠ 3 := by decide

theorem PlAt.far {A : Nat} {w0 wr : World} {N : Nat} {q0 q u : Value} {hs : List Int} {Y : Nat → Prop} {ps : List (List Int)} {xs : List Value} (h : PlAt A w0 N q0 u hs Y ps q xs wr) (k : Nat) (hk : q.ownBlock = some k) : u.ownBlock ≠ some k := own_far h.1 h.2.1 pl_ne k hk
theorem PlAt.far' {A : Nat} {w0 wr : World} {N : Nat} {q0 q u : Value} {hs : List Int} {Y : Nat → Prop} {ps : List (List Int)} {xs : List Value} (h : PlAt A w0 N q0 u hs Y ps q xs wr) (k : Nat) (hk : u.ownBlock = some k) : q.ownBlock ≠ some k := own_far h.2.1 h.1 (Ne.symm pl_ne) k hk

theorem PlAt.later {A : Nat} {w0 w1 w2 : World} {N : Nat} {q0 q u : Value} {hs : List Int} {Y : Nat → Prop} {ps : List (List Int)} {xs : List Value} (hAN : A < N) (h : PlAt A w0 N q0 u hs Y ps q xs w1) (hb : Below w1.heap.size w1 w2) : PlAt A w0 N q0 u hs Y ps q xs w2 := by
  refine ⟨Fr2.own hAN (Fr2.of_below (A := A) hb (.slice none 0 0) (.slice none 0 0)) h.1 (by simp [Value.ownBlock]) (by simp [Value.ownBlock]), Fr2.own hAN (Fr2.of_below (A := A) hb (.slice none 0 0) (.slice none 0 0)) h.2.1 (by simp [Value.ownBlock]) (by simp [Value.ownBlock]), h.2.2.1.imp fun u z hp => hp.later hb, h.2.2.2.1.trans (Fr2.of_below hb q u) h.2.2.2.2 (fun k h => Or.inl h), h.2.2.2.2⟩

theorem PlAt.here {A : Nat} {w0 w1 : World} {N : Nat} {q0 q u : Value} {hs : List Int} {Y : Nat → Prop} {ps : List (List Int)} {xs : List Value} (h : PlAt A w0 N q0 u hs Y ps q xs w1) : PlAt A w1 N q u hs Y ps q xs w1 := ⟨h.1, h.2.1, h.2.2.1, Fr2.of_below (Below.refl _ _) _ _, fun _ h => Or.inl h⟩

theorem PlAt.push {A : Nat} {w0 wr w1 : World} {N : Nat} {q0 q u : Value} {hs : List Int} {Y : Nat → Prop} {ps : List (List Int)} {xs : List Value} (hAN : A < N) (h : PlAt A w0 N q0 u hs Y ps q xs wr) (hN : N ≤ wr.heap.size) (hY : ∀ b, Y b → b < wr.heap.size) (hb : Below wr.heap.size wr w1) {x : Value} {z : List Int} (hx : PV w1 (fun b => wr.heap.size ≤ b) x z) (hn : ps.length ≤ 1000000) (B0 : Nat) (hA : w1.heap.size = B0) :
    ∃ q' w3, (Builtin.append_ #[33, 33] 33 #[q, .slice (some ⟨B0, 0, none⟩) 1 1]).run Try.prog (w1.alloc (.cells #[x] 22)) = .ok q' w3 ∧ PlAt A w0 N q0 u hs Y (ps ++ [z]) q' (xs ++ [x]) w3 ∧ (w1.alloc (.cells #[x] 22)).grownBy w3 q.ownBlock := by
  subst hA
  obtain ⟨i0, hi, hz0, hz1, hz2⟩ := info_parts Try.infoInts
  have hb2 : Below wr.heap.size wr (w1.alloc (.cells #[x] 22)) := hb.alloc hb.size _
  have h2 := PlAt.later hAN h hb2
  have hfar := h2.far
  have hfar' := h2.far'
  have hs1 := hb.size
  have hltq := h.1.lt
  have hltu := h.2.1.lt
  obtain ⟨g, cap, w3, hr, ho, hg, hga, hgl⟩ := run_append_lies (P := Try.prog) (w := w1.alloc (.cells #[x] 22)) 33 33 N 22 i0 _ 1 24 Try.underlying33 hi hz0 hz1 hz2 rfl (by decide) q ps.length xs h2.1
    ⟨w1.heap.size, 0, none⟩ 1 1 [x] rfl (cell_one_new _ _ _) (fun y hy => by simp at hy; subst hy; exact hx.one) (by decide) (by unfold maxLen; omega) (by omega) (by simp; omega) _ rfl
  have hgu : ∀ b, some b = Value.ownBlock (.slice (some ⟨g, 0, none⟩) (ps.length + 1) cap) → q.ownBlock = some b ∨ w1.heap.size + 1 ≤ b := fun b e => by
    simp [Value.ownBlock] at e
    subst e
    rcases hga with e | e
    · exact Or.inl e
    · right; simp at e; omega
  have hF : Fr2 A (w1.alloc (.cells #[x] 22)) w3 q (.slice none 0 0) := Fr2.of_grown hg _
  refine ⟨_, w3, hr, ⟨by simpa using ho, Fr2.own hAN hF h2.2.1 hfar' (by simp [Value.ownBlock]), ?_, ?_, fun k hk => ?_⟩, hg⟩
  · refine RowP.append (h.2.2.1.imp fun u' z' hp => ?_) ⟨x, [], rfl, ?_, rfl⟩
    · refine ((hp.mono (Y := fun b => (N ≤ b ∧ some b ≠ q.ownBlock ∧ some b ≠ u.ownBlock ∧ ¬ Y b) ∧ b < wr.heap.size) fun b h1 h2 => ⟨h1, h2⟩).kept (w' := w3) fun b hx => ?_).mono fun b hx _ => ⟨hx.1.1, fun e => ?_, hx.1.2.2⟩
      · rw [hg.block b (by simp; omega) hx.1.2.1, hb2.block b hx.2]
      · rcases hgu b e with e | e
        · exact hx.1.2.1 e.symm
        · omega
    · refine ((hx.mono (Y := fun b => wr.heap.size ≤ b ∧ b < w1.heap.size) fun b h1 h2 => ⟨h1, h2⟩).kept (w' := w3) fun b hx => ?_).mono fun b hx _ => ⟨by omega, fun e => ?_, fun e => ?_, fun e => ?_⟩
      · rw [hg.block b (by simp; omega) (fun e => by have := (hltq b e.symm).2; omega), Below.heap_alloc _ _ _ hx.2]
      · rcases hgu b e with e | e
        · have := (hltq b e).2; omega
        · omega
      · have := (hltu b e.symm).2; omega
      · have := hY b e; omega
  · exact h2.2.2.2.1.trans (Fr2.of_grown hg u) h2.2.2.2.2 (fun k h => Or.inl h)
  · rcases hgu k hk.symm with e | e
    · exact h.2.2.2.2 k e
    · right; have := h.2.2.2.1.2.2.2.1; omega

/-- The block itself is written. -/
theorem PlAt.store {A : Nat} {w0 wr : World} {N : Nat} {q0 q u : Value} {hs : List Int} {Y : Nat → Prop} {ps : List (List Int)} {xs : List Value} (hAN : A < N) (h : PlAt A w0 N q0 u hs Y ps q xs wr) (v : Value) : PlAt A w0 N q0 u hs Y ps q xs (wr.setCell ⟨A, 0, none⟩ v) := by
  have hf : Fr2 A wr (wr.setCell ⟨A, 0, none⟩ v) (.slice none 0 0) (.slice none 0 0) := ⟨rfl, rfl, rfl, by simp [World.setCell], fun b hb hA _ _ => Below.heap_setCell _ _ _ _ (by simpa using hA)⟩
  refine ⟨Fr2.own hAN hf h.1 (by simp [Value.ownBlock]) (by simp [Value.ownBlock]), Fr2.own hAN hf h.2.1 (by simp [Value.ownBlock]) (by simp [Value.ownBlock]), h.2.2.1.imp fun x z hp => hp.kept fun b hb => Below.heap_setCell _ _ _ _ (by have := hb.1; simp; omega), h.2.2.2.1.trans hf (by simp [Value.ownBlock]) (by simp [Value.ownBlock]), h.2.2.2.2⟩

/-- The path is as it was, whatever is done behind it. -/
theorem here_back {A : Nat} {W W' W'' : World} {N : Nat} {q u u' : Value} {hs : List Int} {i : Int} (hAN : A < N) (h : W.ownsRow N 3 1 u hs.length (hs.map fun z => .int .i64 z)) (hg : W.grownBy W' u.ownBlock) (he : Ext W W' u u' hs.length) (h' : W''.ownsRow N 3 1 u' (hs ++ [i]).length ((hs ++ [i]).map fun z => .int .i64 z)) (hf : Fr2 A W' W'' q u') (hq : ∀ k, u.ownBlock = some k → q.ownBlock ≠ some k) :
    W''.ownsRow N 3 1 u hs.length (hs.map fun z => .int .i64 z) := by
  rcases he with ⟨g, cap, rfl, rfl⟩ | ⟨hnew, hbl⟩
  · obtain ⟨_, h1⟩ := h
    obtain ⟨_, h2⟩ := h'
    rcases h1 with ⟨h1, _⟩ | ⟨g1, cap1, cur1, h1, hN, _, hnc, hcm, _, _⟩
    · simp at h1
    · rcases h2 with ⟨h2, _⟩ | ⟨g2, cap2, cur2, h2, _, hh, _, _, hcs, htk⟩
      · simp at h2
      · simp at h1 h2
        obtain ⟨rfl, rfl⟩ := h1
        obtain ⟨rfl, rfl⟩ := h2
        refine ⟨by simp, Or.inr ⟨g, cap, cur2, rfl, hN, hh, hnc, hcm, hcs, ?_⟩⟩
        have h3 := congrArg (List.take hs.length) htk
        rw [List.take_take] at h3
        simpa [List.take_append_of_le_length, Nat.min_eq_left] using h3
  · have hlt := h.lt
    exact Fr2.own hAN ((Fr2.of_below hbl q u').trans hf (fun k h => Or.inl h) (fun k h => Or.inl h)) h hq (fun k hk e => by have := hnew k e; have := (hlt k hk).2; omega)

/-- Ahead of the call below. -/
theorem PlAt.down {A : Nat} {w0 wr W W' : World} {N : Nat} {q0 q u u' : Value} {hs : List Int} {Y : Nat → Prop} {ps : List (List Int)} {xs : List Value} {i : Int} (hAN : A < N) (h : PlAt A w0 N q0 u hs Y ps q xs wr) (hb : Below wr.heap.size wr W) (h' : W'.ownsRow N 3 1 u' (hs ++ [i]).length ((hs ++ [i]).map fun z => .int .i64 z)) (hg : W.grownBy W' u.ownBlock) (he : Ext W W' u u' hs.length) :
    PlAt A W' N q u' (hs ++ [i]) (fun b => b < wr.heap.size ∧ (Y b ∨ some b = u.ownBlock)) ps q xs W' := by
  have h2 := PlAt.later hAN h hb
  have hltu := h.2.1.lt
  have hs1 := hb.size
  have hu : ∀ b, b < wr.heap.size → some b = u'.ownBlock → some b = u.ownBlock := fun b hb e => by
    rcases he with ⟨g, cap, rfl, rfl⟩ | ⟨hnew, _⟩
    · simpa [Value.ownBlock] using e
    · have := hnew b e.symm; omega
  refine ⟨Fr2.own hAN (Fr2.of_grown' (A := A) hg (.slice none 0 0)) h2.1 (by simp [Value.ownBlock]) h2.far, h', h.2.2.1.imp fun x z hp => ?_, Fr2.of_below (Below.refl _ _) _ _, fun _ h => Or.inl h⟩
  refine ((hp.mono (Y := fun b => (N ≤ b ∧ some b ≠ q.ownBlock ∧ some b ≠ u.ownBlock ∧ ¬ Y b) ∧ b < wr.heap.size) fun b h1 h2 => ⟨h1, h2⟩).kept (w' := W') fun b hx => ?_).mono fun b hx _ => ⟨hx.1.1, hx.1.2.1, fun e => hx.1.2.2.1 (hu b hx.2 e), fun e => ?_⟩
  · rw [hg.block b (by omega) hx.1.2.2.1, hb.block b hx.2]
  · rcases e.2 with e | e
    · exact hx.1.2.2.2 e
    · exact hx.1.2.2.1 e

/-- Behind the call below. -/
theorem PlAt.up {A : Nat} {w0 wr W W' W'' : World} {N : Nat} {q0 q q' u u' : Value} {hs : List Int} {Y : Nat → Prop} {ps ps' : List (List Int)} {xs xs' : List Value} {i : Int} (hAN : A < N) (h : PlAt A w0 N q0 u hs Y ps q xs wr) (hY : ∀ b, Y b → b < wr.heap.size) (hb : Below wr.heap.size wr W) (hg : W.grownBy W' u.ownBlock) (he : Ext W W' u u' hs.length)
    (h' : PlAt A W' N q u' (hs ++ [i]) (fun b => b < wr.heap.size ∧ (Y b ∨ some b = u.ownBlock)) ps' q' xs' W'') : PlAt A w0 N q0 u hs Y ps' q' xs' W'' := by
  have h2 := PlAt.later hAN h hb
  have hltu := h.2.1.lt
  have hs1 := hb.size
  have hs2 := hg.size
  have hs0 := h.2.2.2.1.2.2.2.1
  have hext : ∀ k, u'.ownBlock = some k → u.ownBlock = some k ∨ W.heap.size ≤ k := fun k hk => by
    rcases he with ⟨g, cap, rfl, rfl⟩ | ⟨hnew, _⟩
    · exact Or.inl hk
    · exact Or.inr (hnew k hk)
  refine ⟨h'.1, here_back hAN h2.2.1 hg he h'.2.1 h'.2.2.2.1 h2.far', h'.2.2.1.imp fun x z hp => hp.mono fun b hx _ => ⟨hx.1, hx.2.1, fun e => hx.2.2.2 ⟨(hltu b e.symm).2, Or.inr e⟩, fun e => hx.2.2.2 ⟨hY b e, Or.inl e⟩⟩, ?_, fun k hk => ?_⟩
  · exact h2.2.2.2.1.trans ((Fr2.of_grown' hg q).trans h'.2.2.2.1 (fun k h => Or.inl h) hext) h2.2.2.2.2 (fun k h => Or.inl h)
  · rcases h'.2.2.2.2 k hk with e | e
    · exact h.2.2.2.2 k e
    · right; omega

/-- A copy of the path. -/
theorem clone_any {w : World} {N : Nat} {u : Value} {hs : List Int} (h : w.ownsRow N 3 1 u hs.length (hs.map fun z => .int .i64 z)) (hn : hs.length ≤ 1000000) :
    Calls Try.prog 27 #[u] w fun e w' => ∃ v', e = .returned v' ∧ PV w' (fun b => w.heap.size ≤ b) v' hs ∧ Below w.heap.size w w' := by
  have h' := h
  obtain ⟨_, h1⟩ := h
  rcases h1 with ⟨rfl, h0⟩ | ⟨g, cap, cur, rfl, _⟩
  · have e : hs = [] := List.length_eq_zero_iff.1 h0
    subst e
    refine (Try.slices_Clone_int_nil 0 0 w).mono ?_
    rintro e w' ⟨rfl, rfl⟩
    exact ⟨_, rfl, ⟨none, 0, rfl, by simp, Or.inl rfl⟩, Below.refl _ _⟩
  · refine (Try.slices_Clone_int g 0 hs.length cap hs w (Nat.le_refl _) (by omega) (fun j hj => ?_)).mono ?_
    · have := h'.cells (g := g) rfl j (.int .i64 hs[j]) (by simp [hj])
      rw [Nat.zero_add, List.getD_eq_getElem?_getD, List.getElem?_eq_getElem hj, Option.getD_some]
      by_cases h0 : j = 0
      · subst h0; first | (simp [Addr.add]; done) | simpa [Addr.add] using this
      · first | (simp [Addr.add, h0]; done) | simpa [Addr.add, h0] using this
    · rintro e w' ⟨v', rfl, ho, _, hb⟩
      rw [List.take_of_length_le (Nat.le_refl _)] at ho
      exact ⟨v', rfl, (pv_of_own ho).mono fun b hb _ => hb.1, hb⟩
#print axioms here_step
#print axioms PlAt.push
#print axioms PlAt.store
#print axioms PlAt.down
#print axioms PlAt.up
#print axioms clone_any
end Go.Proofs.Ythlgknglalcggai
