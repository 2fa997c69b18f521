/- Memory: the sets that have been found, in a row of their own, and which have been seen (auto.ends). -/
import Derived.Test.YtfodgmnnjgcpgaaAx1
import Derived.Test.YtfodgmnnjgcpgaaZIAutoKindsOwn
import Derived.Test.YtfodgmnnjgcpgaaAv3
import Derived.Deep.AppendSrc
namespace Go.Proofs.Ytfodgmnnjgcpgaa
open Go.RowKit Go.Shelf
set_option linter.unusedSimpArgs false
set_option linter.unusedVariables false
set_option maxRecDepth 8000

def allocsX (w : World) (os : List Obj) : World := os.foldl (fun w o => w.alloc o) w
theorem allocsX_facts : ∀ (os : List Obj) (w : World), Below w.heap.size w (allocsX w os) ∧ (allocsX w os).heap.size = w.heap.size + os.length ∧ ∀ (i : Nat) (o : Obj), os[i]? = some o → (allocsX w os).heap[w.heap.size + i]? = some o
  | [], w => ⟨Below.refl _ _, rfl, fun i o h => by simp at h⟩
  | o :: os, w => by
    obtain ⟨h1, h2, h3⟩ := allocsX_facts os (w.alloc o)
    have e : allocsX w (o :: os) = allocsX (w.alloc o) os := rfl
    rw [e]
    refine ⟨((Below.refl _ _).alloc (Nat.le_refl _) o).trans (h1.mono (by simp)), by rw [h2]; simp; omega, fun i q h => ?_⟩
    match i, h with
    | 0, h =>
      simp at h
      subst h
      rw [Nat.add_zero, h1.block _ (by simp)]
      exact heap_alloc_new w o
    | i + 1, h =>
      have := h3 i q (by simpa using h)
      rw [World.size_alloc] at this
      rw [show w.heap.size + (i + 1) = w.heap.size + 1 + i by omega]
      exact this
theorem addX (b i : Nat) : (⟨b, 0, none⟩ : Addr).add i = ⟨b, i, none⟩ := by
  by_cases h0 : i = 0
  · subst h0; simp [Addr.add]
  · simp [Addr.add, h0]
/-- An append whose outcome is known, inside a fence. -/
theorem wpListIn_append_eqX {F : Fence} {nF : Nat} {P : Program} {ops : Array Oper} {rest : List Oper} {o : Oper} {a : Act} {Q : Exit → Act → World → Prop} {w w' : World} {v u v' : Value} (hgd : o.guard = none) (s x : Operand) (t t' : TypeId)
    (ho : o.op = .call { callee := .builtin .append, args := #[s, x], argTypes := #[t, t'] }) (hs : a.eval s = v) (hx : a.eval x = u)
    (hr : (Builtin.append_ #[t, t'] o.type #[v, u]).run P w = .ok v' w') (h : wpListIn F nF P ops Q rest (a.put o.dst v') w') : wpListIn F nF P ops Q (o :: rest) a w := by
  refine wpListIn_plain hgd fun K hK => ?_
  unfold Oper.wpIn
  refine ⟨by simp [Oper.about, ho, resolve, Target.leads, Sem.run_pure], ?_⟩
  rw [Oper.semAt_plain F _ _ (by rw [ho]; intro c hc'; cases hc')]
  simp [execOp, ho, resolve, invoke, builtin, hs, hx, hr, Result.andThen]
  exact hK _ _ h

/-- What is known of the sets that have been found. -/
structure AlP (ms : List Mv) (n : Nat) (al : List Nat) : Prop where
  nd : al.Nodup
  lt : ∀ x ∈ al, x < 64
  tm : ∀ x ∈ al, ∃ t : Tm, SymT ms t ∧ SetIs x (endX ms n t)
theorem AlP.nil (ms : List Mv) (n : Nat) : AlP ms n [] := ⟨List.nodup_nil, (fun x hx => by cases hx), (fun x hx => by cases hx)⟩
theorem AlP.len {ms : List Mv} {n : Nat} {al : List Nat} (h : AlP ms n al) : al.length ≤ 64 := by
  have := inj_len (Q := fun (a b : Nat) => a = b) (l1 := al) (l2 := List.range 64) (h.nd.imp fun hne b h1 h2 => hne (h1.trans h2.symm)) fun a ha => ⟨a, List.mem_range.2 (h.lt a ha), rfl⟩
  simpa using this
theorem AlP.add {ms : List Mv} {n : Nat} {al : List Nat} (h : AlP ms n al) {x : Nat} (hx : x ∉ al) (hl : x < 64) (ht : ∃ t : Tm, SymT ms t ∧ SetIs x (endX ms n t)) : AlP ms n (al ++ [x]) := by
  refine ⟨?_, fun y hy => ?_, fun y hy => ?_⟩
  · rw [List.nodup_append]
    exact ⟨h.nd, by simp, fun a ha b hb => by simp at hb; subst hb; intro e; subst e; exact hx ha⟩
  · rcases List.mem_append.1 hy with hy | hy
    · exact h.lt y hy
    · simp at hy; subst hy; exact hl
  · rcases List.mem_append.1 hy with hy | hy
    · exact h.tm y hy
    · simp at hy; subst hy; exact ht
theorem setN_ltK {zs : List Int} {k : Nat} (h : ∀ z ∈ zs, 0 ≤ z ∧ z < (k : Int)) : setN zs < 2 ^ k := by
  apply Nat.lt_pow_two_of_testBit
  intro i hi
  rw [setN_bit _ (fun z hz => (h z hz).1), decide_eq_false_iff_not]
  intro hm
  have := (h _ hm).2
  omega
theorem endN_lt64 {ms : List Mv} {n : Nat} {bs : List (List Bool)} (hn : n ≤ 6) (h : ∀ m ∈ ms, 0 ≤ m.to ∧ m.to < (n : Int)) : endN ms bs < 64 := by
  have h1 : setN ((ms.filter fun m => goB bs m.frm).map (·.to)) < 2 ^ 6 := setN_ltK fun z hz => by
    obtain ⟨m, hm, rfl⟩ := List.mem_map.1 hz
    have := h m (List.mem_filter.1 hm).1
    omega
  exact h1
/-- Which have been seen. -/
def seenA (al : List Nat) : Array Value := ((List.range 64).map fun (i : Nat) => Value.bool (decide (i ∈ al))).toArray
theorem seenA_at (al : List Nat) {x : Nat} (hx : x < 64) : (seenA al)[x]? = some (.bool (decide (x ∈ al))) := by
  simp [seenA, hx]
theorem seenA_add (al : List Nat) {x : Nat} (hx : x < 64) : (seenA al).setIfInBounds x (.bool true) = seenA (al ++ [x]) := by
  unfold seenA
  rw [List.setIfInBounds_toArray]
  congr 1
  apply List.ext_getElem
  · simp
  · intro i h1 h2
    simp only [List.length_set, List.length_map, List.length_range] at h1
    rw [List.getElem_set]
    simp only [List.getElem_map, List.getElem_range]
    by_cases e : x = i
    · subst e; simp
    · rw [if_neg e]
      have : (i ∈ al ++ [x]) ↔ i ∈ al := by simp; intro h; exact absurd h.symm e
      simp [this]
/-- How a row and the row that is one longer lie. -/
def ExtX (W W' : World) (u u' : Value) (n : Nat) : Prop :=
  (∃ g cap, u = .slice (some ⟨g, 0, none⟩) n cap ∧ u' = .slice (some ⟨g, 0, none⟩) (n + 1) cap) ∨ ((∀ k, u'.ownBlock = some k → W.heap.size ≤ k) ∧ Below W.heap.size W W')

theorem here_stepX {W : World} {N : Nat} {u : Value} {hs : List Nat} (h : W.ownsRow N 61 1 u hs.length (hs.map stV)) (hN : N ≤ W.heap.size) (i : Nat) (F : Nat) (hF : W.heap[F]? = some (.cells #[stV i] 61 (0, 0))) (hn : hs.length ≤ 1000000) :
    ∃ u' W', (Builtin.append_ #[63, 63] 63 #[u, .slice (some ⟨F, 0, none⟩) 1 1]).run Try.prog W = .ok u' W' ∧ W'.ownsRow N 61 1 u' (hs ++ [i]).length ((hs ++ [i]).map stV) ∧ W.grownBy W' u.ownBlock ∧ ExtX W W' u u' hs.length := by
  obtain ⟨i0, hi, hz0, hz1, hz2⟩ := info_parts infoSetX
  have hFc : W.cell? ⟨F, 0, none⟩ = some (stV i) := by simp [World.cell?, hF]
  have hsrc : Src Try.prog i0.size 63 (.slice (some ⟨F, 0, none⟩) 1 1) 1 [stV i] W := by
    rw [hz1]
    refine Src.ofSlice W Try.underlying63 ⟨F, 0, none⟩ 1 1 _ (by simp) (fun j v hj => ?_) (by intro v hv; simp at hv; subst hv; rfl)
    match j, hj with
    | 0, hj => simp at hj; subst hj; simpa [Addr.add] using hFc
  have h' := h
  obtain ⟨hl, h1⟩ := h
  have grow : ∀ (base : Option Addr) (cap : Nat), u = .slice base hs.length cap → (Builtin.firstCells i0.size hs.length (.slice base hs.length cap)).run Try.prog W.drew = .ok (hs.map stV).toArray W.drew → cap < hs.length + 1 → cap ≤ 1000000 → 
      ∃ u' W', (Builtin.append_ #[63, 63] 63 #[u, .slice (some ⟨F, 0, none⟩) 1 1]).run Try.prog W = .ok u' W' ∧ W'.ownsRow N 61 1 u' (hs ++ [i]).length ((hs ++ [i]).map stV) ∧ W.grownBy W' u.ownBlock ∧ ExtX W W' u u' hs.length := by
    intro base cap hu hfc hcap hcm
    subst hu
    have hg := run_append_grow_src (P := Try.prog) W 63 63 63 61 i0 (.int .u64 0) Try.underlying63 hi hz0 base hs.length cap _ hfc _ 1 _ hsrc (by omega) (by omega) (by rw [hz2]; exact growslice_fits (by omega) (by omega))
    have hge := grownCap_ge W (hs.length + 1) cap 61
    have hcm := grownCap_le_maxLen W (hs.length + 1) cap 61 (by unfold maxLen; omega)
    have hbl : Below W.heap.size W (W.drew.alloc (.cells (((hs.map stV) ++ [stV i]).toArray ++ Builtin.zeroCells (Value.int .u64 0).cells (grownCap W (hs.length + 1) cap 61 - (hs.length + 1))) 61)) := ((Below.refl W.heap.size W).drew).alloc (Nat.le_refl _) _
    refine ⟨_, _, hg, ⟨by simp, Or.inr ⟨W.heap.size, _, _, by simp, hN, heap_alloc_new W.drew _, by simp; omega, hcm, ?_, ?_⟩⟩, grown_of_below hbl _, Or.inr ⟨fun k hk => ?_, hbl⟩⟩
    · simp [Builtin.zeroCells, Value.cells]; omega
    · rw [Array.toList_append, List.take_append_of_le_length (by simp), List.take_of_length_le (by simp)]; simp
    · simp [Value.ownBlock] at hk; omega
  rcases h1 with ⟨hu, h0⟩ | ⟨g, cap, cur, hu, hgN, hgb, hnc, hcm, hcs, htk⟩
  · have e : hs = [] := List.length_eq_zero_iff.1 h0
    subst e
    exact grow none 0 hu (by simp [Builtin.firstCells, go_sem]) (by simp) (by omega)
  · by_cases hroom : hs.length + 1 ≤ cap
    · subst hu
      simp only [Nat.mul_one] at hcs htk
      have hgl : g < W.heap.size := (h'.lt g rfl).2
      have hnz : hs.length < cur.size := by omega
      have hg := run_append_room_src (P := Try.prog) W 63 63 63 61 i0 Try.underlying63 hi g 0 hs.length cap _ 1 _ hsrc hroom (fun j hj => by simp at hj; subst hj; rw [hz1]; simp [World.cell?, hgb, hnz]) (fun j hj => by simp at hj; subst hj; rw [hz1]; simp [World.frozen?, hgb])
      rw [hz1] at hg
      simp only [World.setCells, Nat.zero_add, Nat.mul_one] at hg
      refine ⟨_, _, hg, ⟨by simp, Or.inr ⟨g, cap, cur.setIfInBounds hs.length (stV i), by simp, hgN, ?_, by simpa using hroom, hcm, by simp [hcs], ?_⟩⟩, ⟨rfl, rfl, rfl, by simp [World.setCell], fun k hk hkb => Below.heap_setCell _ _ _ _ (by simp [Value.ownBlock] at hkb; simpa using hkb)⟩, Or.inl ⟨g, cap, rfl, rfl⟩⟩
      · simp [World.setCell, Array.getElem?_modify, hgb]
      · simp only [Array.toList_setIfInBounds, List.length_append, List.length_singleton, Nat.mul_one, List.map_append, List.map_cons, List.map_nil]
        rw [List.take_succ_eq_append_getElem (by simpa using hnz), List.take_set_of_le (by omega), htk]
        simp
    · exact grow (some ⟨g, 0, none⟩) cap hu (by
        have hc := h'.cells (g := g) (by rw [hu]; rfl)
        exact run_firstCells_some (P := Try.prog) W.drew i0.size hs.length ⟨g, 0, none⟩ hs.length cap _ (by rw [hz1]; simp) (fun j v hj => hc j v hj)) (by omega) (by omega)

/-- The sets that have been found: the box A, the row, the array S. -/
structure EnS (N A S : Nat) (W : World) (al : List Nat) (v : Value) : Prop where
  bA : Blk W A #[v] 63
  own : W.ownsRow N 61 1 v al.length (al.map stV)
  bS : Blk W S (seenA al) 98
  lo : A < N ∧ S < N ∧ A ≠ S ∧ N ≤ W.heap.size
theorem EnS.kept {N A S : Nat} {W W' : World} {al : List Nat} {v : Value} (h : EnS N A S W al v) (hz : W.heap.size ≤ W'.heap.size) (hk : ∀ b, b = A ∨ b = S ∨ v.ownBlock = some b → W'.heap[b]? = W.heap[b]?) : EnS N A S W' al v :=
  ⟨(hk A (Or.inl rfl)).trans h.bA, ownsRow_at h.own fun g hg => hk g (Or.inr (Or.inr hg)), (hk S (Or.inr (Or.inl rfl))).trans h.bS, h.lo.1, h.lo.2.1, h.lo.2.2.1, by have := h.lo; omega⟩
theorem EnS.later {N A S : Nat} {W W' : World} {al : List Nat} {v : Value} (h : EnS N A S W al v) (hb : Below W.heap.size W W') : EnS N A S W' al v :=
  h.kept hb.size fun b hb' => hb.block b (by
    rcases hb' with e | e | e
    · have := h.lo; omega
    · have := h.lo; omega
    · exact (h.own.lt b e).2)
theorem EnS.lv {N A S : Nat} {W : World} {al : List Nat} {v : Value} (h : EnS N A S W al v) : LV stV W (fun b => v.ownBlock = some b) v al := by
  obtain ⟨a, c, rfl, hl, hc⟩ := LV.of_own h.own
  refine ⟨a, c, rfl, hl, ?_⟩
  rcases hc with hc | ⟨b, o, rfl, hb, hc⟩
  · exact Or.inl hc
  · rcases h.own.2 with ⟨e, _⟩ | ⟨g, cap, cur, e, _⟩
    · cases e
    · cases e
      exact Or.inr ⟨_, _, rfl, rfl, hc⟩
/-- One more. -/
theorem EnS.push {N A S : Nat} {V : World} {al : List Nat} {v : Value} (h : EnS N A S V al v) {x : Nat} (hx : x < 64) (hl : al.length ≤ 64) :
    ∃ g cap w3, (Builtin.append_ #[63, 63] 63 #[v, .slice (some ⟨V.heap.size, 0, none⟩) 1 1]).run Try.prog ((V.setCell ⟨S, x, none⟩ (.bool true)).alloc (.cells #[stV x] 61)) = .ok (.slice (some ⟨g, 0, none⟩) (al.length + 1) cap) w3 ∧
      w3.cell? ⟨A, 0, none⟩ = some v ∧ w3.frozen? ⟨A, 0, none⟩ = false ∧ A < w3.heap.size ∧
      EnS N A S (w3.setCell ⟨A, 0, none⟩ (.slice (some ⟨g, 0, none⟩) (al.length + 1) cap)) (al ++ [x]) (.slice (some ⟨g, 0, none⟩) (al.length + 1) cap) ∧
      ExQ (fun b => b = A ∨ b = S ∨ v.ownBlock = some b) V (w3.setCell ⟨A, 0, none⟩ (.slice (some ⟨g, 0, none⟩) (al.length + 1) cap)) ∧ (v.ownBlock = some g ∨ (V.heap.size ≤ g ∧ ∀ b, v.ownBlock = some b → (w3.setCell ⟨A, 0, none⟩ (.slice (some ⟨g, 0, none⟩) (al.length + 1) cap)).heap[b]? = V.heap[b]?)) := by
  obtain ⟨hA, hS, hAS, hN⟩ := h.lo
  have hlt := h.own.lt
  have hnA : v.ownBlock ≠ some A := fun e => by have := (hlt A e).1; omega
  have hnS : v.ownBlock ≠ some S := fun e => by have := (hlt S e).1; omega
  obtain ⟨V2, hV2⟩ : ∃ V2, V2 = (V.setCell ⟨S, x, none⟩ (.bool true)).alloc (.cells #[stV x] 61) := ⟨_, rfl⟩
  have hz2 : V2.heap.size = V.heap.size + 1 := by rw [hV2]; simp
  have k2 : ∀ b, b < V.heap.size → b ≠ S → V2.heap[b]? = V.heap[b]? := fun b hb hne => by
    rw [hV2]
    exact (Below.heap_alloc _ _ _ (by simpa using hb)).trans (Below.heap_setCell _ _ _ _ (by simpa using hne))
  have hF : V2.heap[V.heap.size]? = some (.cells #[stV x] 61 (0, 0)) := by
    rw [hV2]
    have := heap_alloc_new (V.setCell ⟨S, x, none⟩ (.bool true)) (.cells #[stV x] 61)
    simpa using this
  have hS2 : Blk V2 S (seenA (al ++ [x])) 98 := by
    rw [hV2]
    have := h.bS.set x (.bool true)
    rw [seenA_add al hx] at this
    exact this.alloc _
  have hA2 : Blk V2 A #[v] 63 := (k2 A (by omega) hAS).trans h.bA
  have ho2 : V2.ownsRow N 61 1 v al.length (al.map stV) := ownsRow_at h.own fun g hg => k2 g (hlt g hg).2 (fun e => hnS (e ▸ hg))
  obtain ⟨u', w3, hr, hown, hgr, hext⟩ := here_stepX ho2 (by omega) x V.heap.size hF (by omega)
  obtain ⟨g, cap, hu⟩ : ∃ g cap, u' = .slice (some ⟨g, 0, none⟩) (al.length + 1) cap := by
    rcases hown.2 with ⟨_, h0⟩ | ⟨g, cap, cur, hv, _⟩
    · simp at h0
    · exact ⟨g, cap, by rw [hv]; simp⟩
  subst hu
  have hgs := hgr.size
  have k3 : ∀ b, b < V2.heap.size → v.ownBlock ≠ some b → w3.heap[b]? = V2.heap[b]? := fun b hb hne => hgr.block b hb (fun e => hne e.symm)
  have hA3 : Blk w3 A #[v] 63 := (k3 A (by omega) hnA).trans hA2
  have hgl := hown.lt g rfl
  refine ⟨g, cap, w3, by rw [hV2] at hr; exact hr, hA3.cell 0, hA3.frozen 0, hA3.lt, ⟨?_, ?_, ?_, hA, hS, hAS, by simp; omega⟩, ⟨hgr.os.trans (by rw [hV2]; rfl), hgr.tape.trans (by rw [hV2]; rfl), hgr.output.trans (by rw [hV2]; rfl), by simp; omega, fun b hb hn => ?_⟩, ?_⟩
  · exact hA3.set 0 _
  · rw [List.length_append, List.length_singleton]
    refine ownsRow_at (by simpa using hown) fun b hb => Below.heap_setCell _ _ _ _ ?_
    have e : g = b := by simpa [Value.ownBlock] using hb
    subst e
    simp
    omega
  · refine Blk.setOther ((k3 S (by omega) hnS).trans hS2) _ _ (fun e => hAS e.symm)
  · have h1 : b ≠ A := fun e => hn (Or.inl e)
    have h2 : b ≠ S := fun e => hn (Or.inr (Or.inl e))
    have h3 : v.ownBlock ≠ some b := fun e => hn (Or.inr (Or.inr e))
    rw [Below.heap_setCell _ _ _ _ (by simpa using h1), k3 b (by omega) h3, k2 b hb h2]
  · rcases hext with ⟨g', cap', e1, e2⟩ | ⟨h1, h2⟩
    · left
      simp at e2
      rw [e1, e2.1]
      rfl
    · right
      have := h1 g rfl
      refine ⟨by omega, fun b hb => ?_⟩
      have hbA : b ≠ A := fun e => hnA (e ▸ hb)
      have hbS : b ≠ S := fun e => hnS (e ▸ hb)
      rw [Below.heap_setCell _ _ _ _ (by simpa using hbA), h2.block b (by have := (hlt b hb).2; omega), k2 b (hlt b hb).2 hbS]
end Go.Proofs.Ytfodgmnnjgcpgaa
