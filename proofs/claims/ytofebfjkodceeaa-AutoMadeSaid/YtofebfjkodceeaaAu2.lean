import Derived.Test.YtofebfjkodceeaaAu1
import Derived.Test.YtofebfjkodceeaaZAutoMadeOwn
namespace Go.Proofs.Ytofebfjkodceeaa
open Go.RowKit
set_option linter.unusedSimpArgs false
set_option linter.unusedVariables false
set_option maxRecDepth 8000
theorem cell_ltA {w : World} {b o : Nat} {v : Value} (h : w.cell? ⟨b, o, none⟩ = some v) : b < w.heap.size := World.block_lt_of_cell? w _ h
def MvAt (w : World) (X : Nat → Prop) (b o : Nat) (m : Mv) : Prop :=
 w.cell? ⟨b, o, none⟩ = some (.string m.name) ∧ (∃ a c, w.cell? ⟨b, o + 1, none⟩ = some (.slice a m.frm.length c) ∧ PV w X (.slice a m.frm.length c) m.frm) ∧ w.cell? ⟨b, o + 2, none⟩ = some (.int .i64 m.to)
def SlV (w : World) (X : Nat → Prop) (a : Option Addr) (l : List Mv) : Prop := l.length ≤ 9223372036854775807 ∧ (l = [] ∨ ∃ b o, a = some ⟨b, o, none⟩ ∧ X b ∧ ∀ i (h : i < l.length), MvAt w X b (o + i * 3) l[i])
def AV (w : World) (X : Nat → Prop) (v : Value) (A : Au) : Prop := ∃ am cm al cl, v = .agg #[.int .i64 A.st, .slice am A.mv.length cm, .slice al A.la.length cl] ∧ SlV w X am A.mv ∧ PV w X (.slice al A.la.length cl) A.la
theorem MvAt.later {w w' : World} {X : Nat → Prop} {b o : Nat} {m : Mv} (h : MvAt w X b o m) (hb : Below w.heap.size w w') : MvAt w' X b o m := by
 obtain ⟨h0, ⟨a, c, h1, h2⟩, h3⟩ := h
 exact ⟨(hb.cell (p := ⟨b, o, none⟩) (cell_ltA h0)).trans h0, ⟨a, c, (hb.cell (p := ⟨b, o + 1, none⟩) (cell_ltA h1)).trans h1, h2.later hb⟩, (hb.cell (p := ⟨b, o + 2, none⟩) (cell_ltA h3)).trans h3⟩
theorem SlV.later {w w' : World} {X : Nat → Prop} {a : Option Addr} {l : List Mv} (h : SlV w X a l) (hb : Below w.heap.size w w') : SlV w' X a l := by
 obtain ⟨hl, h⟩ := h
 refine ⟨hl, ?_⟩
 rcases h with h | ⟨b, o, e, hx, h⟩
 ·exact Or.inl h
 ·exact Or.inr ⟨b, o, e, hx, fun i hi => (h i hi).later hb⟩
theorem SlV.mono {w : World} {X Y : Nat → Prop} {a : Option Addr} {l : List Mv} (h : SlV w X a l) (hk : ∀ b, X b → b < w.heap.size → Y b) : SlV w Y a l := by
 obtain ⟨hl, h⟩ := h
 refine ⟨hl, ?_⟩
 rcases h with h | ⟨b, o, e, hx, h⟩
 ·exact Or.inl h
 ·by_cases h0 : l = []
  ·exact Or.inl h0
  ·refine Or.inr ⟨b, o, e, hk b hx (cell_ltA (h 0 (List.length_pos_iff.2 h0)).1), fun i hi => ?_⟩
   obtain ⟨g0, ⟨a', c', g1, g2⟩, g3⟩ := h i hi
   exact ⟨g0, ⟨a', c', g1, g2.mono hk⟩, g3⟩
theorem AV.later {w w' : World} {X : Nat → Prop} {v : Value} {A : Au} (h : AV w X v A) (hb : Below w.heap.size w w') : AV w' X v A := by
 obtain ⟨am, cm, al, cl, e, h1, h2⟩ := h
 exact ⟨am, cm, al, cl, e, h1.later hb, h2.later hb⟩
theorem SlV.get {w wr : World} {X : Nat → Prop} {a : Option Addr} {l : List Mv} (h : SlV w X a l) (hb : Below w.heap.size w wr) (k : Nat) (hk : k < l.length) :
  ∃ b o af cf, a = some ⟨b, o, none⟩ ∧ b < w.heap.size ∧ wr.cell? ⟨b, o + k * 3, none⟩ = some (.string l[k].name) ∧ wr.cell? ⟨b, o + k * 3 + 1, none⟩ = some (.slice af l[k].frm.length cf) ∧ wr.cell? ⟨b, o + k * 3 + 2, none⟩ = some (.int .i64 l[k].to) ∧ PV wr X (.slice af l[k].frm.length cf) l[k].frm := by
 rcases h.2 with h0 | ⟨b, o, e, hx, h1⟩
 ·subst h0; simp at hk
 ·have hl := cell_ltA (h1 k hk).1
  obtain ⟨g0, ⟨a', c', g1, g2⟩, g3⟩ := (h1 k hk).later hb
  exact ⟨b, o, a', c', e, hl, g0, g1, g3, g2⟩
theorem PV.at {w wr : World} {X : Nat → Prop} {a : Option Addr} {n c : Nat} {zs : List Int} (h : PV w X (.slice a n c) zs) (hb : Below w.heap.size w wr) (k : Nat) (hk : k < zs.length) : ∃ b o, a = some ⟨b, o, none⟩ ∧ b < w.heap.size ∧ wr.cell? ⟨b, o + k, none⟩ = some (.int .i64 zs[k]) := by
 obtain ⟨a', c', e, _, h⟩ := h
 simp only [Value.slice.injEq] at e
 obtain ⟨rfl, rfl, rfl⟩ := e
 rcases h with h0 | ⟨b, o, e, hx, h1⟩
 ·subst h0; simp at hk
 ·have hl := cell_ltA (h1 k hk)
  exact ⟨b, o, e, hl, (hb.cell (p := ⟨b, o + k, none⟩) hl).trans (h1 k hk)⟩
theorem PV.len {w : World} {X : Nat → Prop} {a : Option Addr} {n c : Nat} {zs : List Int} (h : PV w X (.slice a n c) zs) : zs.length ≤ 9223372036854775807 ∧ n = zs.length := by
 obtain ⟨a', c', e, hl, h⟩ := h
 simp only [Value.slice.injEq] at e
 exact ⟨hl.1, e.2.1⟩
def RowTV (w : World) (X : Nat → Prop) : List Mv → List Value → Prop
 | [], xs => xs = []
 | m :: r, xs => ∃ a c q, xs = .string m.name :: .slice a m.frm.length c :: .int .i64 m.to :: q ∧ PV w X (.slice a m.frm.length c) m.frm ∧ RowTV w X r q
theorem RowTV.append {w : World} {X : Nat → Prop} : ∀ {l k : List Mv} {xs ys : List Value}, RowTV w X l xs → RowTV w X k ys → RowTV w X (l ++ k) (xs ++ ys)
 | [], k, xs, ys, h, h' => by simp [RowTV] at h; subst h; simpa using h'
 | t :: l, k, xs, ys, h, h' => by
  obtain ⟨a, c, r, rfl, hs, h⟩ := h
  exact ⟨a, c, r ++ ys, rfl, hs, RowTV.append h h'⟩
theorem RowTV.imp {w w' : World} {X Y : Nat → Prop} (hs : ∀ v l, PV w X v l → PV w' Y v l) : ∀ {l : List Mv} {xs : List Value}, RowTV w X l xs → RowTV w' Y l xs
 | [], xs, h => h
 | t :: l, xs, h => by
  obtain ⟨a, c, r, e, h1, h⟩ := h
  exact ⟨a, c, r, e, hs _ _ h1, RowTV.imp hs h⟩
theorem RowTV.get {w : World} {X : Nat → Prop} : ∀ {l : List Mv} {xs : List Value}, RowTV w X l xs → ∀ (k : Nat) (h : k < l.length), ∃ a c, xs[k * 3]? = some (.string l[k].name) ∧ xs[k * 3 + 1]? = some (.slice a l[k].frm.length c) ∧ xs[k * 3 + 2]? = some (.int .i64 l[k].to) ∧ PV w X (.slice a l[k].frm.length c) l[k].frm
 | t :: l, xs, h, 0, _ => by
  obtain ⟨a, c, r, rfl, hs, _⟩ := h
  exact ⟨a, c, rfl, rfl, rfl, hs⟩
 | t :: l, xs, h, k + 1, hk => by
  obtain ⟨a, c, r, rfl, _, h⟩ := h
  obtain ⟨a', c', h1, h2, h3, h4⟩ := RowTV.get h k (by simpa using hk)
  refine ⟨a', c', ?_, ?_, ?_, h4⟩
  ·rw [show (k + 1) * 3 = k * 3 + 3 by omega]; simpa using h1
  ·rw [show (k + 1) * 3 + 1 = k * 3 + 1 + 3 by omega]; simpa using h2
  ·rw [show (k + 1) * 3 + 2 = k * 3 + 2 + 3 by omega]; simpa using h3
structure OutA (w : World) (N O : Nat) (st : Int) (ms : List Mv) (ls : List Int) (mv lv : Value) (xs : List Value) (X : Nat → Prop) : Prop where
 blk : Blk w O #[.int .i64 st, mv, lv] 25
 own : w.ownsRow N 40 3 mv ms.length xs
 row : RowTV w X ms xs
 las : w.ownsRow N 3 1 lv ls.length (ls.map fun z => .int .i64 z)
 on : O < N
 dis : ∀ g, mv.ownBlock = some g → lv.ownBlock ≠ some g
 nx : ∀ b, X b → N ≤ b ∧ some b ≠ mv.ownBlock ∧ some b ≠ lv.ownBlock
theorem owns_keptA {w w' : World} {N T s n : Nat} {v : Value} {xs : List Value} (h : w.ownsRow N T s v n xs) (hk : ∀ b, v.ownBlock = some b → w'.heap[b]? = w.heap[b]?) : w'.ownsRow N T s v n xs := by
 obtain ⟨hl, h1⟩ := h
 refine ⟨hl, ?_⟩
 rcases h1 with h1 | ⟨g, cap, cur, hv, hg, hh, hr⟩
 ·exact Or.inl h1
 ·exact Or.inr ⟨g, cap, cur, hv, hg, by rw [hk g (by subst hv; rfl)]; exact hh, hr⟩
theorem OutA.below {w w' : World} {N O : Nat} {st : Int} {ms : List Mv} {ls : List Int} {mv lv : Value} {xs : List Value} {X : Nat → Prop} (h : OutA w N O st ms ls mv lv xs X) (hb : Below w.heap.size w w') : OutA w' N O st ms ls mv lv xs X :=
 ⟨h.blk.below hb h.blk.lt, owns_keptA h.own fun b e => hb.block b (h.own.lt b e).2, h.row.imp fun v l hp => hp.later hb, owns_keptA h.las fun b e => hb.block b (h.las.lt b e).2, h.on, h.dis, h.nx⟩
theorem OutA.start {w : World} {O : Nat} {st : Int} (h : Blk w O #[.int .i64 st, .slice none 0 0, .slice none 0 0] 25) : OutA w w.heap.size O st [] [] (.slice none 0 0) (.slice none 0 0) [] (fun _ => False) :=
 ⟨h, World.ownsRow_nil _ _ _ _, rfl, World.ownsRow_nil _ _ _ _, h.lt, fun g e => by simp [Value.ownBlock] at e, fun b h => h.elim⟩
theorem Try.infoMove : (Try.prog.info? 40).map (fun i => (i.zero, i.size, i.bytes)) = some (some (.agg #[.string ByteArray.empty, .slice none 0 0, .int .i64 0]), 3, 48) := by kernel_rfl
theorem add_at (P j : Nat) : (⟨P, 0, none⟩ : Addr).add j = ⟨P, j, none⟩ := by
 by_cases h0 : j = 0
 ·subst h0; simp [Addr.add]
 ·simp [Addr.add, h0]
theorem OutA.push {wN w W : World} {N O P : Nat} {st : Int} {ms : List Mv} {ls : List Int} {mv lv : Value} {xs : List Value} {X : Nat → Prop} {m : Mv} {a : Option Addr} {c : Nat} (h : OutA w N O st ms ls mv lv xs X) (hN : N ≤ w.heap.size) (hb : Below w.heap.size w W) (hE : Ex O wN W) (hNs : wN.heap.size = N)
  (hP : Blk W P #[.string m.name, .slice a m.frm.length c, .int .i64 m.to] 40) (hf : PV W (fun b => w.heap.size ≤ b) (.slice a m.frm.length c) m.frm) (hl : ms.length ≤ 100000) :
  ∃ g cap W1 ys X', (Builtin.append_ #[23, 23] 23 #[mv, .slice (some ⟨P, 0, none⟩) 1 1]).run Try.prog W = .ok (.slice (some ⟨g, 0, none⟩) (ms.length + 1) cap) W1 ∧ Blk W1 O #[.int .i64 st, mv, lv] 25 ∧
   OutA (W1.setCell ⟨O, 1, none⟩ (.slice (some ⟨g, 0, none⟩) (ms.length + 1) cap)) N O st (ms ++ [m]) ls (.slice (some ⟨g, 0, none⟩) (ms.length + 1) cap) lv ys X' ∧ Ex O wN (W1.setCell ⟨O, 1, none⟩ (.slice (some ⟨g, 0, none⟩) (ms.length + 1) cap)) ∧ ∀ b, X b → b < w.heap.size → X' b ∧ (W1.setCell ⟨O, 1, none⟩ (.slice (some ⟨g, 0, none⟩) (ms.length + 1) cap)).heap[b]? = w.heap[b]? := by
 obtain ⟨i0, hi, hz0, hz1, hz2⟩ := info_parts Try.infoMove
 have hbs := hb.size
 have hon := h.on
 have hlt := h.own.lt
 have hll := h.las.lt
 have hk := h.below hb
 obtain ⟨g, cap, W1, hr, ho, hg, hat, hgl⟩ := run_append_lies (P := Try.prog) (w := W) 23 23 N 40 i0 _ 3 48 Try.underlying23 hi hz0 hz1 hz2 rfl (by decide) mv ms.length xs hk.own
  ⟨P, 0, none⟩ 1 1 [.string m.name, .slice a m.frm.length c, .int .i64 m.to] rfl (fun j u hj => by
   rw [add_at, hP.cell j]
   simpa using hj) (fun u hu => by simp at hu; rcases hu with rfl | rfl | rfl <;> rfl) (by decide) (by unfold maxLen; omega) (by omega) (by omega) _ rfl
 have hgN : N ≤ g := (ho.lt g rfl).1
 have hO1 : Blk W1 O #[.int .i64 st, mv, lv] 25 := hk.blk.grown hg (fun e => by have := (hlt O e.symm).1; omega)
 have set : ∀ b, b ≠ O → (W1.setCell ⟨O, 1, none⟩ (.slice (some ⟨g, 0, none⟩) (ms.length + 1) cap)).heap[b]? = W1.heap[b]? := fun b hne => Below.heap_setCell _ _ _ _ (by simpa using hne)
 have old : ∀ b, b < w.heap.size → b ≠ O → some b ≠ mv.ownBlock → (W1.setCell ⟨O, 1, none⟩ (.slice (some ⟨g, 0, none⟩) (ms.length + 1) cap)).heap[b]? = w.heap[b]? := fun b h1 h2 h3 => by
  rw [set b h2, hg.block b (by omega) h3, hb.block b h1]
 have mid : ∀ b, w.heap.size ≤ b → b < W.heap.size → (W1.setCell ⟨O, 1, none⟩ (.slice (some ⟨g, 0, none⟩) (ms.length + 1) cap)).heap[b]? = W.heap[b]? := fun b h1 h2 => by
  rw [set b (by omega), hg.block b h2 (fun e => by have := (hlt b e.symm).2; omega)]
 refine ⟨g, cap, W1, xs ++ [.string m.name, .slice a m.frm.length c, .int .i64 m.to], fun b => (X b ∧ b < w.heap.size) ∨ (w.heap.size ≤ b ∧ b < W.heap.size), hr, hO1, ⟨?_, ?_, ?_, ?_, hon, ?_, ?_⟩, ?_, ?_⟩
 ·exact hO1.set 1 _
 ·have h1 := owns_keptA ho (w' := W1.setCell ⟨O, 1, none⟩ (.slice (some ⟨g, 0, none⟩) (ms.length + 1) cap)) (fun b e => set b (by simp [Value.ownBlock] at e; omega))
  simpa using h1
 ·refine RowTV.append (h.row.imp fun v l hp => ?_) ⟨a, c, [], rfl, ?_, rfl⟩
  ·have h1 : PV w (fun b => X b ∧ b < w.heap.size) v l := hp.mono fun b h1 h2 => ⟨h1, h2⟩
   exact (h1.kept fun b hx => old b hx.2 (by have := (h.nx b hx.1).1; omega) (h.nx b hx.1).2.1).mono fun b hx _ => Or.inl hx
  ·have h1 : PV W (fun b => w.heap.size ≤ b ∧ b < W.heap.size) (.slice a m.frm.length c) m.frm := hf.mono fun b h1 h2 => ⟨h1, h2⟩
   exact (h1.kept fun b hx => mid b hx.1 hx.2).mono fun b hx _ => Or.inr hx
 ·exact owns_keptA h.las fun b e => old b (hll b e).2 (by have := (hll b e).1; omega) (fun e2 => h.dis b e2.symm e)
 ·intro g' e e2
  simp [Value.ownBlock] at e
  subst e
  rcases hat with e3 | e3
  ·exact h.dis _ e3 e2
  ·have := (hll _ e2).2; omega
 ·intro b hx
  refine ⟨?_, ?_, ?_⟩
  ·rcases hx with hx | hx
   ·exact (h.nx b hx.1).1
   ·omega
  ·intro e
   simp [Value.ownBlock] at e
   subst e
   rcases hat with e3 | e3
   ·rcases hx with hx | hx
    ·exact (h.nx b hx.1).2.1 e3.symm
    ·have := (hlt b e3).2; omega
   ·rcases hx with hx | hx <;> omega
  ·rcases hx with hx | hx
   ·exact (h.nx b hx.1).2.2
   ·intro e; have := (hll b e.symm).2; omega
 ·exact (hE.grown hg (fun k e => by have := (hlt k e).1; omega)).set 1 _
 ·exact fun b h1 h2 => ⟨Or.inl ⟨h1, h2⟩, old b h2 (by have := (h.nx b h1).1; omega) (h.nx b h1).2.1⟩
theorem OutA.pushL {wN w W : World} {N O P : Nat} {st : Int} {ms : List Mv} {ls : List Int} {mv lv : Value} {xs : List Value} {X : Nat → Prop} {x : Int} (h : OutA w N O st ms ls mv lv xs X) (hN : N ≤ w.heap.size) (hb : Below w.heap.size w W) (hE : Ex O wN W) (hNs : wN.heap.size = N)
  (hP : Blk W P #[.int .i64 x] 3) (hl : ls.length ≤ 100000) :
  ∃ g cap W1 X', (Builtin.append_ #[22, 22] 22 #[lv, .slice (some ⟨P, 0, none⟩) 1 1]).run Try.prog W = .ok (.slice (some ⟨g, 0, none⟩) (ls.length + 1) cap) W1 ∧ Blk W1 O #[.int .i64 st, mv, lv] 25 ∧
   OutA (W1.setCell ⟨O, 2, none⟩ (.slice (some ⟨g, 0, none⟩) (ls.length + 1) cap)) N O st ms (ls ++ [x]) mv (.slice (some ⟨g, 0, none⟩) (ls.length + 1) cap) xs X' ∧ Ex O wN (W1.setCell ⟨O, 2, none⟩ (.slice (some ⟨g, 0, none⟩) (ls.length + 1) cap)) ∧ ∀ b, X b → b < w.heap.size → X' b ∧ (W1.setCell ⟨O, 2, none⟩ (.slice (some ⟨g, 0, none⟩) (ls.length + 1) cap)).heap[b]? = w.heap[b]? := by
 obtain ⟨i0, hi, hz0, hz1, hz2⟩ := info_parts Try.infoInt
 have hbs := hb.size
 have hon := h.on
 have hlt := h.own.lt
 have hll := h.las.lt
 have hk := h.below hb
 obtain ⟨g, cap, W1, hr, ho, hg, hat, hgl⟩ := run_append_lies (P := Try.prog) (w := W) 22 22 N 3 i0 _ 1 8 Try.underlying22 hi hz0 hz1 hz2 rfl (by decide) lv ls.length _ hk.las
  ⟨P, 0, none⟩ 1 1 [.int .i64 x] rfl (fun j u hj => by
   rw [add_at, hP.cell j]
   simpa using hj) (fun u hu => by simp at hu; subst hu; rfl) (by decide) (by unfold maxLen; omega) (by omega) (by omega) _ rfl
 have hgN : N ≤ g := (ho.lt g rfl).1
 have hO1 : Blk W1 O #[.int .i64 st, mv, lv] 25 := hk.blk.grown hg (fun e => by have := (hll O e.symm).1; omega)
 have set : ∀ b, b ≠ O → (W1.setCell ⟨O, 2, none⟩ (.slice (some ⟨g, 0, none⟩) (ls.length + 1) cap)).heap[b]? = W1.heap[b]? := fun b hne => Below.heap_setCell _ _ _ _ (by simpa using hne)
 have old : ∀ b, b < w.heap.size → b ≠ O → some b ≠ lv.ownBlock → (W1.setCell ⟨O, 2, none⟩ (.slice (some ⟨g, 0, none⟩) (ls.length + 1) cap)).heap[b]? = w.heap[b]? := fun b h1 h2 h3 => by
  rw [set b h2, hg.block b (by omega) h3, hb.block b h1]
 refine ⟨g, cap, W1, fun b => X b ∧ b < w.heap.size, hr, hO1, ⟨?_, ?_, ?_, ?_, hon, ?_, ?_⟩, ?_, ?_⟩
 ·exact hO1.set 2 _
 ·exact owns_keptA h.own fun b e => old b (hlt b e).2 (by have := (hlt b e).1; omega) (fun e2 => h.dis b e e2.symm)
 ·refine h.row.imp fun v l hp => ?_
  have h1 : PV w (fun b => X b ∧ b < w.heap.size) v l := hp.mono fun b h1 h2 => ⟨h1, h2⟩
  exact h1.kept fun b hx => old b hx.2 (by have := (h.nx b hx.1).1; omega) (h.nx b hx.1).2.2
 ·have h1 := owns_keptA ho (w' := W1.setCell ⟨O, 2, none⟩ (.slice (some ⟨g, 0, none⟩) (ls.length + 1) cap)) (fun b e => set b (by simp [Value.ownBlock] at e; omega))
  simpa using h1
 ·intro g' e e2
  simp [Value.ownBlock] at e2
  subst e2
  rcases hat with e3 | e3
  ·exact h.dis _ e e3
  ·have := (hlt _ e).2; omega
 ·intro b hx
  refine ⟨(h.nx b hx.1).1, (h.nx b hx.1).2.1, ?_⟩
  intro e
  simp [Value.ownBlock] at e
  subst e
  rcases hat with e3 | e3
  ·exact (h.nx b hx.1).2.2 e3.symm
  ·have := hx.2; omega
 ·exact (hE.grown hg (fun k e => by have := (hll k e).1; omega)).set 2 _
 ·exact fun b h1 h2 => ⟨⟨h1, h2⟩, old b h2 (by have := (h.nx b h1).1; omega) (h.nx b h1).2.2⟩
theorem OutA.more {w : World} {N O : Nat} {st : Int} {ms : List Mv} {ls : List Int} {mv lv : Value} {xs : List Value} {X : Nat → Prop} (h : OutA w N O st ms ls mv lv xs X) (Z : Nat → Prop) (hZ : ∀ b, Z b → N ≤ b ∧ some b ≠ mv.ownBlock ∧ some b ≠ lv.ownBlock) : OutA w N O st ms ls mv lv xs (fun b => X b ∨ Z b) :=
 ⟨h.blk, h.own, h.row.imp fun v l hp => hp.mono fun b h _ => Or.inl h, h.las, h.on, h.dis, fun b hb => by
  rcases hb with hb | hb
  ·exact h.nx b hb
  ·exact hZ b hb⟩
theorem OutA.av {w : World} {N O : Nat} {st : Int} {ms : List Mv} {ls : List Int} {mv lv : Value} {xs : List Value} {X : Nat → Prop} (h : OutA w N O st ms ls mv lv xs X) : AV w (fun b => N ≤ b) (.agg #[.int .i64 st, mv, lv]) ⟨st, ms, ls⟩ := by
 have hp := pv_of_own h.las
 have hp2 : PV w (fun b => N ≤ b) lv ls := hp.mono fun _ h _ => h.1
 obtain ⟨al, cl, rfl, _⟩ := hp
 have hml : ms.length ≤ 9223372036854775807 := by
  rcases h.own.2 with ⟨_, h0⟩ | ⟨g, cap, cur, _, _, _, h1, h2, _⟩
  ·omega
  ·unfold maxLen at h2; omega
 by_cases h0 : 0 < ms.length
 ·obtain ⟨g, cap, rfl, hg, hlt, hc⟩ := owned_val h.own h0
  refine ⟨_, _, al, cl, rfl, ⟨hml, Or.inr ⟨g, 0, rfl, hg, fun i hi => ?_⟩⟩, hp2⟩
  obtain ⟨a, c, h1, h2, h3, h4⟩ := h.row.get i hi
  rw [Nat.zero_add]
  exact ⟨hc _ _ h1, ⟨a, c, hc _ _ h2, h4.mono fun b hb _ => (h.nx b hb).1⟩, hc _ _ h3⟩
 ·have e : ms = [] := List.length_eq_zero_iff.1 (by omega)
  subst e
  rcases h.own.2 with ⟨hv, _⟩ | ⟨g, cap, cur, hv, _⟩
  ·exact ⟨none, 0, al, cl, by subst hv; rfl, ⟨by simp, Or.inl rfl⟩, hp2⟩
  ·exact ⟨_, _, al, cl, by subst hv; rfl, ⟨by simp, Or.inl rfl⟩, hp2⟩
end Go.Proofs.Ytofebfjkodceeaa
