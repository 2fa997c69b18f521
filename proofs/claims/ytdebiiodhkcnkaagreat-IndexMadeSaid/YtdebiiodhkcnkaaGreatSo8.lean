import Derived.Test.YtdebiiodhkcnkaaGreatSo7
import Derived.Test.YtdebiiodhkcnkaaGreatQSp
import Derived.Maps.OwnIn
import Derived.Maps.AppendAt
import Derived.Sort.LoopGhostIn
namespace Go.Proofs.YtdebiiodhkcnkaaGreat
open Go.RowKit Go.Shelf
attribute [local go_sem] Oper.semAt_some
set_option linter.unusedSimpArgs false
set_option linter.unusedVariables false
set_option maxRecDepth 8000
def OldY (w : World) (x : Yx) : Prop := Sl w (fun b => b < w.heap.size) x.2.2.1.1 x.2.1.l.args ∧ Sl w (fun b => b < w.heap.size) x.2.2.2.1 x.2.1.r.args
def LyI (w : World) (pre : List { x : Yx // OldY w x }) (W : World) : Prop :=
 ∃ (td : Value) (cs : List Ec), Blk W (w.heap.size + 1) #[td, .map (some w.heap.size), .bool false] 124 ∧ MapAt W w.heap.size [] ∧ W.ownsRow (w.heap.size + 3) 129 5 td cs.length (flat5 cs) ∧ (∀ x ∈ cs, Sl W (fun b => b < w.heap.size) x.1.2.1.1 x.1.1.l.args ∧ Sl W (fun b => b < w.heap.size) x.1.2.2.1 x.1.1.r.args) ∧ cs.map ecP = pre.map (fun x => (x.1.2.1, 0)) ∧ Below w.heap.size w W ∧ w.heap.size + 3 ≤ W.heap.size
theorem lyI_own (w : World) : OwnFrom (w.heap.size + 3) (LyI w) := by
 intro pre W W' row hI hg hr
 obtain ⟨td, cs, h1, h2, h3, h4, h5, h6, h7⟩ := hI
 have hgs := hg.size
 have hne : ∀ b, b < w.heap.size + 3 → some b ≠ row := fun b hb e => by have := (hr b e.symm).1; omega
 refine ⟨td, cs, h1.grown hg (hne _ (by omega)), h2.kept (hg.block _ (by omega) (hne _ (by omega))), ownsRow_at h3 fun g hg1 => ?_, fun x hx => ⟨(h4 x hx).1.kept fun b hb => hg.block b (by omega) (hne b (by omega)), (h4 x hx).2.kept fun b hb => hg.block b (by omega) (hne b (by omega))⟩, h5, ?_, by omega⟩
 ·refine hg.block g (h3.lt g hg1).2 fun e => ?_
  obtain ⟨_, o, ho, hc⟩ := hr g e.symm
  rcases h3.2 with ⟨hv, _⟩ | ⟨g', cap, cur, hv, _, hh, _⟩
  ·rw [hv] at hg1; simp [Value.ownBlock] at hg1
  ·rw [hv] at hg1
   have e2 : g' = g := by simpa [Value.ownBlock] using hg1
   subst e2
   rw [ho] at hh
   cases hh
   simp [Obj.isCells] at hc
 ·exact ⟨hg.os.trans h6.os, hg.tape.trans h6.tape, hg.output.trans h6.output, by have := h6.size; omega, fun b hb => (hg.block b (by omega) (hne b (by omega))).trans (h6.block b hb)⟩
theorem owns_shape {w : World} {N e s n : Nat} {v : Value} {xs : List Value} (h : w.ownsRow N e s v (n + 1) xs) : ∃ g cap, v = .slice (some ⟨g, 0, none⟩) (n + 1) cap := by
 rcases h.2 with h1 | ⟨g, cap, cur, hv, _⟩
 ·exact absurd h1.2 (by omega)
 ·exact ⟨g, cap, hv⟩
def LyK (w : World) (A B : World) : Prop := ExQ (fun b => b = w.heap.size + 1 ∨ w.heap.size + 3 ≤ b) A B ∧ ∀ k, k < w.heap.size + 3 → k ≠ w.heap.size + 1 → B.heap[k]? = A.heap[k]?
theorem LyK.refl (w A : World) : LyK w A A := ⟨ExQ.refl _ _, fun _ _ _ => rfl⟩
theorem LyK.trans {w A B C : World} (h : LyK w A B) (k : LyK w B C) : LyK w A C := ⟨h.1.trans k.1, fun i h1 h2 => (k.2 i h1 h2).trans (h.2 i h1 h2)⟩
theorem lyK_c {w A B : World} {b : Nat} (hb : b ≤ w.heap.size) (h : LyK w A B) : B.heap[b]? = A.heap[b]? ∧ B.heap[w.heap.size + 1 + 1]? = A.heap[w.heap.size + 1 + 1]? :=
 ⟨h.2 b (by omega) (by omega), h.2 _ (by omega) (by omega)⟩
theorem lyK_b {w W : World} {l : Nat} {o' : Obj} (hl : w.heap.size + 3 ≤ l) : LyK w W (W.putObj l o') :=
 ⟨⟨rfl, rfl, rfl, by simp, fun k _ hn => World.putObj_heap_other (fun e => hn (Or.inr (by omega)))⟩, fun k h1 h2 => World.putObj_heap_other (by omega)⟩
theorem lyI_step {w W w3 : World} {pre : List { x : Yx // OldY w x }} {x : { x : Yx // OldY w x }} {td v' : Value} {cs : List Ec} {o : Obj} (i1 : Blk W (w.heap.size + 1) #[td, .map (some w.heap.size), .bool false] 124) (i2 : MapAt W w.heap.size []) (i3 : W.ownsRow (w.heap.size + 3) 129 5 td cs.length (flat5 cs)) (i4 : ∀ x ∈ cs, Sl W (fun b => b < w.heap.size) x.1.2.1.1 x.1.1.l.args ∧ Sl W (fun b => b < w.heap.size) x.1.2.2.1 x.1.1.r.args) (i5 : cs.map ecP = pre.map (fun x => (x.1.2.1, 0))) (i6 : Below w.heap.size w W) (i7 : w.heap.size + 3 ≤ W.heap.size)
  (ho : w3.ownsRow (w.heap.size + 3) 129 5 v' (cs.length + 1) (flat5 cs ++ enc5 (x.1.2, 0))) (hg : (W.alloc o).grownBy w3 td.ownBlock) :
  KeepsFrom (w.heap.size + 3) W (w3.setCell ⟨w.heap.size + 1, 0, none⟩ v') ∧ LyK w W (w3.setCell ⟨w.heap.size + 1, 0, none⟩ v') ∧ LyI w (pre ++ [x]) (w3.setCell ⟨w.heap.size + 1, 0, none⟩ v') := by
 have hgs := hg.size
 simp at hgs
 have hne : ∀ b, b < w.heap.size + 3 → some b ≠ td.ownBlock := fun b hb e => by have := (i3.lt b e.symm).1; omega
 have h3 : ∀ k, k < W.heap.size → some k ≠ td.ownBlock → w3.heap[k]? = W.heap[k]? := fun k h1 h2 => (hg.block k (by simp; omega) h2).trans (Below.heap_alloc _ _ _ h1)
 have h4 : ∀ k, k ≠ w.heap.size + 1 → (w3.setCell ⟨w.heap.size + 1, 0, none⟩ v').heap[k]? = w3.heap[k]? := fun k hk => Below.heap_setCell _ _ _ _ (by simpa using hk)
 have hz : (w3.setCell ⟨w.heap.size + 1, 0, none⟩ v').heap.size = w3.heap.size := by simp [World.setCell]
 refine ⟨⟨by omega, fun k ob hk hh hc => ?_⟩, ⟨⟨?_, ?_, ?_, by omega, fun k h1 h2 => ?_⟩, fun k h1 h2 => (h4 k h2).trans (h3 k (by omega) (hne k h1))⟩, ?_⟩
 ·have hkl : k < W.heap.size := (Array.getElem?_eq_some_iff.1 hh).1
  rw [h4 k (by omega), h3 k hkl fun e => ?_, hh]
  rcases i3.2 with ⟨hv, _⟩ | ⟨g', cap, cur, hv, _, hh2, _⟩
  ·rw [hv] at e; simp [Value.ownBlock] at e
  ·rw [hv] at e
   have e2 : k = g' := by simpa [Value.ownBlock] using e
   subst e2
   rw [hh] at hh2
   cases hh2
   simp [Obj.isCells] at hc
 ·exact hg.os
 ·exact hg.tape
 ·exact hg.output
 ·have hk1 : k < w.heap.size + 3 := by
   apply Classical.byContradiction
   intro hn
   exact h2 (Or.inr (by omega))
  exact (h4 k (fun e => h2 (Or.inl e))).trans (h3 k h1 (hne k hk1))
 ·refine ⟨v', cs ++ [(x.1.2, 0)], ?_, i2.kept ((h4 _ (by omega)).trans (h3 _ (by omega) (hne _ (by omega)))), ?_, fun y hy => ?_, ?_, ?_, by omega⟩
  ·have := (((i1.alloc o).grown hg (hne _ (by omega))).set 0 v')
   simpa using this
  ·rw [List.length_append, flat5_append]
   have e5 : flat5 [(x.1.2, 0)] = enc5 (x.1.2, 0) := by simp [flat5]
   rw [e5]
   exact ownsRow_at ho fun g hg1 => h4 g (by have := (ho.lt g hg1).1; omega)
  ·rcases List.mem_append.1 hy with hy | hy
   ·exact ⟨(i4 y hy).1.kept fun b hb => (h4 b (by omega)).trans (h3 b (by omega) (hne b (by omega))), (i4 y hy).2.kept fun b hb => (h4 b (by omega)).trans (h3 b (by omega) (hne b (by omega)))⟩
   ·have e : y = (x.1.2, 0) := by simpa using hy
    subst e
    have hb2 : Below w.heap.size w (w3.setCell ⟨w.heap.size + 1, 0, none⟩ v') := ⟨hg.os.trans i6.os, hg.tape.trans i6.tape, hg.output.trans i6.output, by have := i6.size; omega, fun b hb => ((h4 b (by omega)).trans (h3 b (by omega) (hne b (by omega)))).trans (i6.block b hb)⟩
    exact ⟨x.2.1.later hb2, x.2.2.later hb2⟩
  ·rw [List.map_append, List.map_append, i5]; rfl
  ·exact ⟨hg.os.trans i6.os, hg.tape.trans i6.tape, hg.output.trans i6.output, by have := i6.size; omega, fun b hb => ((h4 b (by omega)).trans (h3 b (by omega) (hne b (by omega)))).trans (i6.block b hb)⟩
def SvL (S q : Nat) (R : Int × List Bd) (ev : Value) (wr : World) : Prop :=
 ∃ (code : Int) (h : List (ByteArray × Tm)) (f : Bool) (Y : Nat → Prop) (td : Value), ev = .int .i64 code ∧ SolE S q td h f Y wr ∧ GoodH h ∧ NamesH h ∧ h.length ≤ 1000000 ∧ (R = (code, sAt h) ∨ (grtB (sAt h) = true ∧ grtB R.2 = true)) ∧ (code ≠ 0 ∨ (code = 0 ∧ ∃ a c, td = .slice a 0 c))
def SvR (S q N : Nat) (V : List ByteArray) (R : Int × List Bd) (g : Nat) (wr : World) : Prop :=
 ∃ (h : List (ByteArray × Tm)) (cs : List Ec), SolT S q N h cs wr ∧ UI V h ((cs.map ecP).reverse.map (·.1)) ∧ (∀ y ∈ cs.map ecP, y.2 ≤ h.length ∧ (y.2 = h.length → onT (sAt h) y.1.l = y.1.l ∧ onT (sAt h) y.1.r = y.1.r)) ∧ uRun false g (sAt h) ((cs.map ecP).reverse.map (·.1)) = some R
def SvI (w : World) (S q N : Nat) (V : List ByteArray) (R : Int × List Bd) (D : Nat) (g : Nat) (ev : Value) (wr : World) : Prop :=
 wr.heap[D]? = some (.deferred (some [])) ∧ Below w.heap.size w wr ∧ ((ev = .int .i64 0 ∧ SvR S q N V R g wr) ∨ SvL S q R ev wr)
def SvN (S q N : Nat) (V : List ByteArray) (R : Int × List Bd) (g : Nat) (wr : World) : Prop :=
 ∃ (h : List (ByteArray × Tm)) (cs : List Ec) (x : Ec), SolT S q N h (cs ++ [x]) wr ∧ UI V h (x.1.1 :: (cs.map ecP).reverse.map (·.1)) ∧ (x.2 ≤ h.length ∧ (x.2 = h.length → onT (sAt h) x.1.1.l = x.1.1.l ∧ onT (sAt h) x.1.1.r = x.1.1.r)) ∧ (∀ y ∈ cs.map ecP, y.2 ≤ h.length ∧ (y.2 = h.length → onT (sAt h) y.1.l = y.1.l ∧ onT (sAt h) y.1.r = y.1.r)) ∧ uRun false g (sAt h) (x.1.1 :: (cs.map ecP).reverse.map (·.1)) = some R
theorem sv_cases {S q N : Nat} {V : List ByteArray} {R : Int × List Bd} {g : Nat} {ev : Value} {wr : World} (hV : V.length ≤ 400000) (h : (ev = .int .i64 0 ∧ SvR S q N V R g wr) ∨ SvL S q R ev wr) : SvL S q R ev wr ∨ (ev = .int .i64 0 ∧ SvN S q N V R g wr) := by
 rcases h with ⟨rfl, h, cs, hT, hU, hb, hr⟩ | h
 ·rcases List.eq_nil_or_concat cs with rfl | ⟨cs, x, rfl⟩
  ·left
   obtain ⟨td, Y, hE, hR, hY, _⟩ := hT
   refine ⟨0, h, false, Y, td, rfl, hE, hU.good, hU.names, by have := hU.hlen; omega, Or.inl ?_, Or.inr ⟨rfl, ?_⟩⟩
   ·cases g with
    | zero => cases hr
    | succ g =>
     simp [uRun, uNext] at hr
     exact hr.symm
   ·rcases hR.own.2 with ⟨h1, _⟩ | ⟨g, cap, cur, h1, _⟩
    ·exact ⟨_, _, h1⟩
    ·exact ⟨_, _, h1⟩
  ·right
   rw [List.concat_eq_append] at *
   simp only [List.map_append, List.map_cons, List.map_nil, List.reverse_append, List.reverse_cons, List.reverse_nil, List.nil_append, List.singleton_append] at hU hr hb
   exact ⟨rfl, h, cs, x, hT, hU, hb (ecP x) (by simp), fun y hy => hb y (by simp [hy]), hr⟩
 ·exact Or.inl h
theorem row_pop {w : World} {N n g cap : Nat} {cs : List Ec} {x : Ec} (hn : cs.length = n) (h : w.ownsRow N 129 5 (.slice (some ⟨g, 0, none⟩) (n + 1) cap) (n + 1) (flat5 (cs ++ [x]))) : w.ownsRow N 129 5 (.slice (some ⟨g, 0, none⟩) n cap) n (flat5 cs) := by
 subst hn
 refine ⟨flat5_length cs, Or.inr ?_⟩
 rcases h.2 with ⟨h1, _⟩ | ⟨g', cap', cur, h1, h2, h3, h4, h5, h6, h7⟩
 ·cases h1
 ·simp at h1
  obtain ⟨rfl, rfl⟩ := h1
  refine ⟨g, cap, cur, rfl, h2, h3, by omega, h5, h6, ?_⟩
  have h8 : (cur.toList.take ((cs.length + 1) * 5)).take (cs.length * 5) = (flat5 (cs ++ [x])).take (cs.length * 5) := by rw [h7]
  rw [List.take_take, Nat.min_eq_left (by omega), flat5_append, List.take_append_of_le_length (by rw [flat5_length]; omega), List.take_of_length_le (l := flat5 cs) (by rw [flat5_length]; omega)] at h8
  exact h8
theorem sv_step {w wr w4 : World} {S q N : Nat} {V : List ByteArray} {R : Int × List Bd} {D g : Nat} {h : List (ByteArray × Tm)} {cs : List Ec} {x : Ec} {td0 : Value} {w3 : World} {e : Ending} (hV : V.length ≤ 400000) (hU : UI V h (x.1.1 :: (cs.map ecP).reverse.map (·.1))) (hb : ∀ y ∈ cs.map ecP, y.2 ≤ h.length ∧ (y.2 = h.length → onT (sAt h) y.1.l = y.1.l ∧ onT (sAt h) y.1.r = y.1.r)) (hr : uRun false g (sAt h) (x.1.1 :: (cs.map ecP).reverse.map (·.1)) = some R)
  (hD : w3.heap[D]? = some (.deferred (some []))) (hDS : D ≠ S) (hDq : D ≠ q) (hDt : some D ≠ td0.ownBlock) (hB : Below w.heap.size w w3) (hS : w.heap.size ≤ S) (hq : w.heap.size ≤ q) (ht : ∀ b, some b = td0.ownBlock → w.heap.size ≤ b)
  (hp : WoPost S q N h cs (onT (sAt h) x.1.1.l) (onT (sAt h) x.1.1.r) td0 w3 e w4) : ∃ (code : Int) (g1 : Nat), e = .returned (.int .i64 code) ∧ g1 < g ∧ SvI w S q N V R D g1 (.int .i64 code) w4 := by
 obtain ⟨code, rfl, hx, hout⟩ := hp
 have hDl : D < w3.heap.size := (Array.getElem?_eq_some_iff.1 hD).1
 cases g with
 | zero => cases hr
 | succ g =>
  refine ⟨code, g, rfl, Nat.lt_succ_self _, (hx.block D hDl (fun hh => ?_)).trans hD, ⟨hx.os.trans hB.os, hx.tape.trans hB.tape, hx.output.trans hB.output, Nat.le_trans hB.size hx.size, fun k hk => (hx.block k (Nat.lt_of_lt_of_le hk hB.size) (fun hh => ?_)).trans (hB.block k hk)⟩, ?_⟩
  ·rcases hh with h1 | h1 | h1
   ·exact hDS h1
   ·exact hDq h1
   ·exact hDt h1
  ·rcases hh with h1 | h1 | h1
   ·omega
   ·omega
   ·have := ht k h1; omega
  ·have hr0 := hr
   rw [uRun, uNext_cons] at hr
   rcases hout with ⟨hne, f', Y', td', hE, hw⟩ | ⟨rfl, hza, hzb, h', cs', new, hT, hC, hgo, hcs⟩
   ·right
    refine ⟨code, h, f', Y', td', rfl, hE, hU.good, hU.names, by have := hU.hlen; omega, ?_, Or.inl hne⟩
    rcases hw with rfl | hw
    ·have hg := hE.2.2.2.2 rfl
     exact Or.inr ⟨hg, uRun_great _ _ _ R.1 R.2 (by rw [hr0]) hg⟩
    ·rw [hw] at hr
     simp at hr
     exact Or.inl hr.symm
   ·left
    rw [hgo] at hr
    have el : (cs'.map ecP).reverse.map (·.1) = new ++ (cs.map ecP).reverse.map (·.1) := by
     rw [hC]
     simp [List.map_reverse, Function.comp_def]
    refine ⟨rfl, h', cs', hT, ?_, ?_, by rw [el]; exact hr⟩
    ·rw [el]
     rcases hcs with ⟨rfl, rfl⟩ | ⟨rfl, y, t, rfl, hv, hor, ho⟩ | ⟨rfl, rfl, hl⟩
     ·exact hU.drop
     ·exact (hU.bindV hv (by rcases hor with ⟨h1, h2⟩ | ⟨h1, h2⟩; exact Or.inl ⟨h1, h2⟩; exact Or.inr ⟨h1, h2⟩) ho).2
     ·exact (hU.deep hza hzb hl).1
    ·rw [hC]
     intro y hy
     rcases List.mem_append.1 hy with hy1 | hy
     ·clear hy
      rcases hcs with ⟨rfl, rfl⟩ | ⟨rfl, z, t, rfl, hv, hor, ho⟩ | ⟨rfl, rfl, hl⟩
      ·exact hb y hy1
      ·have := (hb y hy1).1
       refine ⟨by simp; omega, fun e => ?_⟩
       simp at e; omega
      ·exact hb y hy1
     ·obtain ⟨p, hp, rfl⟩ := List.mem_map.1 hy
      rcases hcs with ⟨rfl, rfl⟩ | ⟨rfl, z, t, rfl, hv, hor, ho⟩ | ⟨rfl, rfl, hl⟩
      ·simp at hp
      ·simp at hp
      ·exact ⟨Nat.le_refl _, fun _ => (hU.deep hza hzb hl).2 p (by simpa using hp)⟩
theorem lyI_solT {w W : World} {pre : List { x : Yx // OldY w x }} (h : LyI w pre W) : ∃ cs : List Ec, SolT (w.heap.size + 1) w.heap.size (w.heap.size + 3) [] cs W ∧ cs.map ecP = pre.map (fun x => (x.1.2.1, 0)) ∧ Below w.heap.size w W := by
 obtain ⟨td, cs, i1, i2, i3, i4, i5, i6, i7⟩ := h
 refine ⟨cs, ⟨td, fun b => b = w.heap.size + 1 ∨ b = w.heap.size, ⟨⟨[], i1, i2, by simp, fun i hi => by simp at hi⟩, Or.inl rfl, Or.inr rfl, fun b hb => by rcases hb with rfl | rfl <;> omega, by simp⟩, ⟨i3, fun x hx => ⟨(i4 x hx).1.mono fun b hb _ => Or.inl ⟨by omega, by omega, by omega⟩, (i4 x hx).2.mono fun b hb _ => Or.inl ⟨by omega, by omega, by omega⟩⟩⟩, fun b hb e => ?_, by omega, by omega, i7⟩, i5, i6⟩
 have := (i3.lt b e.symm).1
 rcases hb with rfl | rfl <;> omega
def SoPost (R : Int × List Bd) (w : World) (e : Ending) (w' : World) : Prop :=
 Below w.heap.size w w' ∧ ((grtB R.2 = true ∧ e = .returned (.tuple #[.slice none 0 0, .int .i64 8])) ∨ (grtB R.2 = false ∧ R.1 ≠ 0 ∧ e = .returned (.tuple #[.slice none 0 0, .int .i64 R.1])) ∨ (grtB R.2 = false ∧ R.1 = 0 ∧ ∃ v, e = .returned (.tuple #[v, .int .i64 0]) ∧ BV w' (fun b => w.heap.size ≤ b) v R.2))
theorem add_off (g n : Nat) : (⟨g, 0, none⟩ : Addr).add n = ⟨g, n, none⟩ := by
 unfold Addr.add
 simp
 intro e
 omega
theorem hB2 {w wr W : World} {v : Value} (h : Below w.heap.size w wr) (hz : (wr.setCell ⟨w.heap.size + 1, 0, none⟩ v).heap.size = wr.heap.size) (hb : Below (wr.setCell ⟨w.heap.size + 1, 0, none⟩ v).heap.size (wr.setCell ⟨w.heap.size + 1, 0, none⟩ v) W) : Below w.heap.size w W := by
 have hs := h.size
 have hs2 := hb.size
 exact ⟨hb.os.trans h.os, hb.tape.trans h.tape, hb.output.trans h.output, by omega, fun k hk => (hb.block k (by omega)).trans ((Below.heap_setCell _ _ _ _ (by simp; omega)).trans (h.block k hk))⟩
theorem so_def {w wr w5 : World} {D : Nat} (hD : w.heap.size + 3 ≤ D) (h : wr.heap[D]? = some (.deferred (some []))) (hx : ExQ (SolM (w.heap.size + 1) w.heap.size) wr w5) : w5.heap[D]? = some (.deferred (some [])) :=
 (hx.block D (Array.getElem?_eq_some_iff.1 h).1 (fun hh => by rcases hh with e | e <;> omega)).trans h
theorem so_below {w wr w5 : World} {D : Nat} (hD : w.heap.size + 3 ≤ D) (h : Below w.heap.size w wr) (hx : ExQ (SolM (w.heap.size + 1) w.heap.size) wr w5) (o : Obj) : Below w.heap.size w (w5.putObj D o) :=
 ⟨hx.os.trans h.os, hx.tape.trans h.tape, hx.output.trans h.output, by rw [World.putObj_size]; exact Nat.le_trans h.size hx.size, fun k hk => by
  rw [World.putObj_heap_other (by omega), hx.block k (Nat.lt_of_lt_of_le hk h.size) (fun hh => by rcases hh with e | e <;> omega), h.block k hk]⟩
theorem so_great {R : Int × List Bd} {code : Int} {s : List Bd} (h : R = (code, s) ∨ (grtB s = true ∧ grtB R.2 = true)) (hg : grtB s = true) : grtB R.2 = true := by
 rcases h with rfl | h
 ·exact hg
 ·exact h.2
theorem so_same {R : Int × List Bd} {code : Int} {s : List Bd} (h : R = (code, s) ∨ (grtB s = true ∧ grtB R.2 = true)) (hg : grtB s = false) : R = (code, s) ∧ grtB s = false := by
 rcases h with rfl | h
 ·exact ⟨rfl, hg⟩
 ·rw [hg] at h; cases h.1
theorem iu_shape {h : List (ByteArray × Tm)} {w : World} {e : Ending} {w' : World} (hc : (grtB (sAt h) = true ∧ e = .returned (.tuple #[.slice none 0 0, .bool false])) ∨ (grtB (sAt h) = false ∧ ∃ v, e = .returned (.tuple #[v, .bool true]) ∧ BV w' (fun b => w.heap.size ≤ b) v (sAt h))) :
  ∃ v ok, e = .returned (.tuple #[v, .bool ok]) ∧ ((grtB (sAt h) = true ∧ ok = false) ∨ (grtB (sAt h) = false ∧ ok = true ∧ BV w' (fun b => w.heap.size ≤ b) v (sAt h))) := by
 rcases hc with ⟨h1, rfl⟩ | ⟨h1, v, rfl, h2⟩
 ·exact ⟨_, _, rfl, Or.inl ⟨h1, rfl⟩⟩
 ·exact ⟨_, _, rfl, Or.inr ⟨h1, rfl, h2⟩⟩
set_option maxHeartbeats 1000000 in
theorem solve_in (HSK : Hid SortedKeys) (n : Nat) (hn : 6 ≤ n) (b o : Nat) (a : Option Addr) (xs : List Pc) (c : Nat) (ha : xs = [] ∨ a = some ⟨b, o, none⟩) (hxl : xs.length ≤ 40) (V : List ByteArray) (hV : V.length ≤ 400000) (hU : UI V [] (xs.map (·.1))) (R : Int × List Bd) (g0 : Nat) (hrun : uRun false g0 [] (xs.map (·.1)) = some R) (w : World) (hbw : b ≤ w.heap.size) (hbx : xs = [] ∨ b < w.heap.size) (hL : PcAt w b o xs) (hS : ∀ x ∈ xs, Sl w (fun b => b < w.heap.size) x.2.1.1 x.1.l.args ∧ Sl w (fun b => b < w.heap.size) x.2.2.1 x.1.r.args) :
  CallsIn Fence.wide n Tryz.prog 58 #[.slice a xs.length c] w fun e w' => SoPost R w e w' := by
 have h1 : 1 ≤ n := by omega
 have hmm := @run_makeMap Tryz.prog
 refine callsIn_of_wp_marks Tryz.func58 rfl trivial ?_ rfl
 simp only [Tryz.ntmps58, List.size_toArray, List.length_cons, List.length_nil, Nat.reduceAdd, Nat.reduceSub, Array.replicate_succ, Array.replicate_zero, List.push_toArray, List.append_toArray, List.nil_append, List.cons_append]
 have hfK : Fence.wide.fn 77 := trivial
 have hfI : Fence.wide.fn 79 := trivial
 have hfW : Fence.wide.fn 78 := trivial
 gi_wp2_with (gi_at_call 77; refine (backward_in Fence.wide (n - 1) trivial rfl _ _ ⟨_, _, _, rfl⟩).mono ?_; rintro e w' ⟨rfl, rfl⟩)
 have hP : ∀ k (h : k < xs.length), OldY w ((k : Int), xs[k]) := fun k h => hS _ (List.getElem_mem h)
 have hW0 : (((w.alloc (.map #[] 0)).alloc (.cells #[.slice none 0 0, .map (some w.heap.size), .bool false] 124)).alloc (.cells #[.slice a xs.length c] 46)).heap.size = w.heap.size + 3 := by simp
 have hB0 : Below w.heap.size w (((w.alloc (.map #[] 0)).alloc (.cells #[.slice none 0 0, .map (some w.heap.size), .bool false] 124)).alloc (.cells #[.slice a xs.length c] 46)) := ((((Below.refl _ w).alloc (Nat.le_refl _) _).alloc (by simp) _).alloc (by simp; omega) _)
 have hSB : Blk (((w.alloc (.map #[] 0)).alloc (.cells #[.slice none 0 0, .map (some w.heap.size), .bool false] 124)).alloc (.cells #[.slice a xs.length c] 46)) (w.heap.size + 1) #[.slice none 0 0, .map (some w.heap.size), .bool false] 124 := by
  have h1 := (Blk.new (w.alloc (.map #[] 0)) #[.slice none 0 0, .map (some w.heap.size), .bool false] 124).alloc (.cells #[.slice a xs.length c] 46)
  rw [World.size_alloc] at h1
  exact h1
 have hMA : MapAt (((w.alloc (.map #[] 0)).alloc (.cells #[.slice none 0 0, .map (some w.heap.size), .bool false] 124)).alloc (.cells #[.slice a xs.length c] 46)) w.heap.size [] := (MapAt.new w).kept (by rw [Below.heap_alloc _ _ _ (by simp; omega), Below.heap_alloc _ _ _ (by simp)])
 have hBox : (((w.alloc (.map #[] 0)).alloc (.cells #[.slice none 0 0, .map (some w.heap.size), .bool false] 124)).alloc (.cells #[.slice a xs.length c] 46)).cell? ⟨w.heap.size + 1 + 1, 0, none⟩ = some (.slice a xs.length c) := by
  have h1 := (Blk.new ((w.alloc (.map #[] 0)).alloc (.cells #[.slice none 0 0, .map (some w.heap.size), .bool false] 124)) #[.slice a xs.length c] 46).cell 0
  rw [World.size_alloc, World.size_alloc] at h1
  exact h1
 generalize (((w.alloc (.map #[] 0)).alloc (.cells #[.slice none 0 0, .map (some w.heap.size), .bool false] 124)).alloc (.cells #[.slice a xs.length c] 46)) = W0 at *
 refine wpIn_rangeFunc_ownH rfl h1 (gf := 107) (lb := #[.pointer (some ⟨w.heap.size + 1 + 1, 0, none⟩)]) rfl trivial (enters_of Tryz.func107 (by kernel_rfl) rfl)
  (back_stops Fence.wide (n - 1) trivial rfl (by omega) (P := OldY w) (Kp := LyK w) (fun A => LyK.refl _ _) (fun h k => LyK.trans h k) (w.heap.size + 1 + 1) b o c (fun {A B} h => lyK_c hbw h) a xs hP ha (by omega) W0 (by omega) (by omega) hBox (fun j u hj => by (rcases hbx with rfl | hbx); (simp [flat4] at hj); rw [hB0.cell (p := ⟨_, _, none⟩) (by simpa using hbx)]; exact hL j u hj))
  (fun h k => LyK.trans h k) (fun W l o o' hl ho _ _ => lyK_b (by omega)) (Below.refl _ _) (fun _ => rfl)
  (LyI w) (fun _ _ _ => False) (by rw [hW0]; exact lyI_own w) (fun _ _ _ _ _ hs _ _ => hs) ⟨.slice none 0 0, [], hSB, hMA, World.ownsRow_nil _ _ _ _, by simp, by simp, hB0, by omega⟩
  (fun x a' W => ∃ Bx, w.heap.size + 3 ≤ Bx ∧ Blk W Bx #[.string x.1.2.1.l.name, .slice x.1.2.2.1.1 x.1.2.1.l.args.length x.1.2.2.1.2, .string x.1.2.1.r.name, .slice x.1.2.2.2.1 x.1.2.1.r.args.length x.1.2.2.2.2] 45 ∧ a' = { tmps := #[.slice a xs.length c, undef, .slice none 0 0, .int .i64 0, .pointer (some ⟨w.heap.size + 1, 0, none⟩), undef, .pointer (some ⟨Bx, 0, none⟩), undef, undef, undef, undef, undef, .map (some w.heap.size), .agg #[.slice none 0 0, .map (some w.heap.size), .bool false], .slice a xs.length c, .func (.func 107) #[] #[.pointer (some ⟨w.heap.size + 1 + 1, 0, none⟩)], .int .i64 x.1.1, .agg #[.string x.1.2.1.l.name, .slice x.1.2.2.1.1 x.1.2.1.l.args.length x.1.2.2.1.2, .string x.1.2.1.r.name, .slice x.1.2.2.2.1 x.1.2.1.r.args.length x.1.2.2.2.2], undef, undef, undef, undef, undef, undef, undef, undef, undef, undef, undef, undef, undef, undef, undef, undef, undef, undef, undef, undef, undef, undef, undef, undef, undef, undef, undef, undef, undef, undef, undef, undef, undef, undef, undef, undef, undef, undef, undef, undef, undef, undef, undef, undef], defers := [] })
  (fun x a' _ X Y row hs hg hr => by
   obtain ⟨Bx, h1, h2, h3⟩ := hs
   refine ⟨Bx, h1, h2.grown hg (fun e => ?_), h3⟩
   obtain ⟨_, o, ho, hc⟩ := hr Bx e.symm
   unfold Blk at h2
   rw [ho] at h2
   cases h2
   simp [Obj.isCells] at hc) ?assign ?body ?done ?stop
 case assign =>
  rintro l pre x W K hI hK
  dsimp only [encY]
  gi_wp2
  obtain ⟨td, cs, i1, i2, i3, i4, i5, i6, i7⟩ := hI
  refine hK _ _ ((KeepsOthers.alloc _ _).from _) ⟨(ExQ.refl _ _).alloc _, fun k h1 h2 => Below.heap_alloc _ _ _ (by omega)⟩ ⟨td, cs, i1.alloc _, i2.kept (Below.heap_alloc _ _ _ (by omega)), i3.alloc _, fun y hy => ⟨(i4 y hy).1.later ((Below.refl _ _).alloc (Nat.le_refl _) _), (i4 y hy).2.later ((Below.refl _ _).alloc (Nat.le_refl _) _)⟩, i5, i6.alloc (by omega) _, by simp; omega⟩ ⟨W.heap.size, i7, Blk.new W _ _, rfl⟩
 case body =>
  rintro l pre x a' W hl hr hI ⟨Bx, hBx, bX, rfl⟩ hlt
  obtain ⟨td, cs, i1, i2, i3, i4, i5, i6, i7⟩ := hI
  obtain ⟨⟨xi, ⟨xp, ⟨xa, xc⟩, ⟨ya, yc⟩⟩⟩, hx1, hx2⟩ := x
  dsimp only at bX hx1 hx2 ⊢
  have s0 := i1.c0
  have p0 : W.cell? ⟨Bx, 0, none⟩ = some (.string xp.l.name) := bX.cell 0
  have p1 : W.cell? ⟨Bx, 1, none⟩ = some (.slice xa xp.l.args.length xc) := bX.cell 1
  have p2 : W.cell? ⟨Bx, 2, none⟩ = some (.string xp.r.name) := bX.cell 2
  have p3 : W.cell? ⟨Bx, 3, none⟩ = some (.slice ya xp.r.args.length yc) := bX.cell 3
  obtain ⟨i0, hi0, hz0, hz1, hz2⟩ := info_parts Tryz.infoEq
  have hcl : cs.length ≤ 40 := by have := congrArg List.length i5; simp at this; omega
  gi_wp2_with (gi_at_builtin; go_loud (refine wpListIn_append_own_at _ rfl (.tmp 19) (.tmp 25) 122 rfl (w.heap.size + 3) 129 i0 _ 5 88 Tryz.underlying122 hi0 hz0 hz1 hz2 rfl (by decide) td cs.length (flat5 cs) rfl (i3.alloc _) ⟨W.heap.size, 0, none⟩ 1 1 [.string xp.l.name, .slice xa xp.l.args.length xc, .string xp.r.name, .slice ya xp.r.args.length yc, .int .i64 0] rfl rfl (cell_five_new _ _ _ _ _ _ _) (fun u hu => by simp at hu; rcases hu with rfl | rfl | rfl | rfl | rfl <;> rfl) (by unfold maxLen; omega) (by omega) (by simp; omega) ?_); intro v' w3 ho hg _ hob; obtain ⟨g', cap', rfl⟩ := owns_shape ho; have s3 : w3.cell? ⟨w.heap.size + 1, 0, none⟩ = some td := ((i1.alloc _).grown hg (fun e => by have := (i3.lt _ e.symm).1; omega)).cell 0; have f3 : w3.frozen? ⟨w.heap.size + 1, 0, none⟩ = false := ((i1.alloc _).grown hg (fun e => by have := (i3.lt _ e.symm).1; omega)).frozen 0)
  have hfin := lyI_step (x := ⟨(xi, xp, (xa, xc), ya, yc), hx1, hx2⟩) i1 i2 i3 i4 i5 i6 i7 ho hg
  rw [hW0]
  exact hfin
 case done =>
  rintro D ys W hD rfl hI hDD
  have hst : SvI w (w.heap.size + 1) w.heap.size (w.heap.size + 3) V R D g0 (.int .i64 0) W := by
   obtain ⟨cs, hT, hC, hB⟩ := lyI_solT hI
   have e1 : (cs.map ecP).reverse.map (·.1) = xs.map (·.1) := by
    have e2 := backA_map (P := OldY w) (xs := xs) (hP := hP) xs.length (Nat.le_refl _)
    rw [hC, ← List.map_reverse, List.map_map, List.map_reverse]
    have e3 : ((fun x : Pr × Nat => x.1) ∘ fun x : { x : Yx // OldY w x } => (x.1.2.1, 0)) = fun x => x.1.2.1 := rfl
    rw [e3, e2, List.take_length, List.reverse_reverse]
   refine ⟨hDD, hB, Or.inl ⟨rfl, [], cs, hT, by rw [e1]; exact hU, ?_, by rw [e1]; exact hrun⟩⟩
   rw [hC]
   intro y hy
   obtain ⟨z, _, rfl⟩ := List.mem_map.1 hy
   exact ⟨Nat.zero_le _, fun _ => ⟨onT_id (by simp [sAt]), onT_id (by simp [sAt])⟩⟩
  have HST := hide hst
  clear hst hI hDD
  gi_wp2
  gi_loopg [7] g0 (fun g ev wr => SvI w (w.heap.size + 1) w.heap.size (w.heap.size + 3) V R D g ev wr)
  case atStart => exact HST.out
  case round =>
   have hDl : w.heap.size + 3 ≤ D := by omega
   obtain ⟨hDr, hBr, hcr⟩ := hrel
   rcases sv_cases hV hcr with ⟨code, h, f, Y, td, rfl, hE, hgd, hnm, hhl, hR, hlast⟩ | ⟨rfl, h, cs, x, hT, hUx, hbx, hbc, hrx⟩
   ·have HE := hide hE
    have HR := hide hR
    have HB := hide hBr
    have HD := hide hDr
    clear hcr hR hBr hDr
    obtain ⟨⟨L, hB, hM, hSt⟩, _⟩ := hE
    have s0 := hB.c0
    clear hB hM hSt
    rcases hlast with hne | ⟨rfl, a0, c0, rfl⟩
    ·have hce : (code == 0) = false := beq_eq_false_iff_ne.2 hne
     have hcn : (code != 0) = true := by simp [bne, hce]
     gi_wp2_with (gi_at_call 79; refine (callsIn_wide.2 (inOrderU_of HSK (w.heap.size + 1) w.heap.size td h hgd hnm hhl wr Y f HE.out)).mono ?_; rintro e w5 ⟨hx5, hc5⟩; obtain ⟨v5, ok5, rfl, hd5⟩ := iu_shape hc5; clear hc5)
     ·have hok : ok5 = false := by simp_all
      refine ⟨by simp, .inl ⟨_, _, rfl, run_takeDeferred (so_def hDl HD.out hx5), ?_⟩⟩
      refine ⟨.tuple #[.slice none 0 0, .int .i64 8], by simp [results, Tryz.results58, go_sem], so_below hDl HB.out hx5 _, Or.inl ⟨so_great HR.out (by simp_all), rfl⟩⟩
     ·have hok : ok5 = true := by simp_all
      have hRR := so_same HR.out (show grtB (sAt h) = false by simp_all)
      refine ⟨by simp, .inl ⟨_, _, rfl, run_takeDeferred (so_def hDl HD.out hx5), ?_⟩⟩
      refine ⟨.tuple #[.slice none 0 0, .int .i64 code], by simp [results, Tryz.results58, go_sem], so_below hDl HB.out hx5 _, Or.inr (Or.inl ?_)⟩
      rw [hRR.1]
      exact ⟨hRR.2, hne, rfl⟩
    ·gi_wp2_with (gi_at_call 79; refine (callsIn_wide.2 (inOrderU_of HSK (w.heap.size + 1) w.heap.size (.slice a0 0 c0) h hgd hnm hhl wr Y f HE.out)).mono ?_; rintro e w5 ⟨hx5, hc5⟩; obtain ⟨v5, ok5, rfl, hd5⟩ := iu_shape hc5; clear hc5)
     ·have hok : ok5 = false := by simp_all
      refine ⟨by simp, .inl ⟨_, _, rfl, run_takeDeferred (so_def hDl HD.out hx5), ?_⟩⟩
      refine ⟨.tuple #[.slice none 0 0, .int .i64 8], by simp [results, Tryz.results58, go_sem], so_below hDl HB.out hx5 _, Or.inl ⟨so_great HR.out (by simp_all), rfl⟩⟩
     ·have hok : ok5 = true := by simp_all
      have hRR := so_same HR.out (show grtB (sAt h) = false by simp_all)
      have hbv : BV w5 (fun b => wr.heap.size ≤ b) v5 (sAt h) := by
       rcases hd5 with h1 | h1
       ·rw [hok] at h1; cases h1.2
       ·exact h1.2.2
      refine ⟨by simp, .inl ⟨_, _, rfl, run_takeDeferred (so_def hDl HD.out hx5), ?_⟩⟩
      refine ⟨.tuple #[v5, .int .i64 0], by simp [results, Tryz.results58, go_sem], so_below hDl HB.out hx5 _, Or.inr (Or.inr ?_)⟩
      rw [hRR.1]
      exact ⟨hRR.2, rfl, v5, rfl, (hbv.kept fun b hb => World.putObj_heap_other (by have := (Array.getElem?_eq_some_iff.1 HD.out).1; omega)).mono fun b hb _ => Nat.le_trans HB.out.size hb⟩
   ·obtain ⟨td, Y, hE, hRw, hY, _, _, hNr⟩ := hT
    have hlen : cs.length ≤ 900000000 := by
     have h1 := hUx.llen
     simp at h1
     omega
    have hown := hRw.own
    rw [List.length_append] at hown
    obtain ⟨g, cap, rfl⟩ := owns_shape hown
    have hpop := row_pop rfl hown
    have hcap : cs.length + 1 ≤ cap := by
     rcases hown.2 with ⟨h1, _⟩ | ⟨g', cap', cur, h1, h2, h3, h4, _⟩
     ·cases h1
     ·simp at h1
      obtain ⟨_, rfl⟩ := h1
      simpa using h4
    obtain ⟨⟨p, ⟨a1, c1⟩, ⟨a2, c2⟩⟩, j⟩ := x
    have cc : ∀ i u, (enc5 ((p, (a1, c1), (a2, c2)), j))[i]? = some u → i < 5 → wr.cell? ⟨g, cs.length * 5 + i, none⟩ = some u := fun i u hu hi => by
     have h1 := hown.cells (g := g) rfl (cs.length * 5 + i) u (by rw [flat5_get (cs ++ [_]) cs.length (by simp) i hi]; simpa using hu)
     rw [add_off] at h1
     exact h1
    have k0 := cc 0 _ rfl (by decide)
    have k1 := cc 1 _ rfl (by decide)
    have k2 := cc 2 _ rfl (by decide)
    have k3 := cc 3 _ rfl (by decide)
    have k4 := cc 4 _ rfl (by decide)
    simp only [Nat.add_zero] at k0
    obtain ⟨⟨L, hB, hM, hSt⟩, _⟩ := id hE
    have s0 : wr.cell? ⟨w.heap.size + 1, 0, none⟩ = some (.slice (some ⟨g, 0, none⟩) (cs.length + 1) cap) := hB.cell 0
    have s0' : ∀ o, (wr.alloc o).cell? ⟨w.heap.size + 1, 0, none⟩ = some (.slice (some ⟨g, 0, none⟩) (cs.length + 1) cap) := fun o => (hB.alloc o).cell 0
    have f0' : ∀ o, (wr.alloc o).frozen? ⟨w.heap.size + 1, 0, none⟩ = false := fun o => (hB.alloc o).frozen 0
    have HE := hide hE
    have HRW := hide hRw
    have HY := hide hY
    have HPOP := hide hpop
    have HU := hide hUx
    have HBX := hide hbx
    have HBC := hide hbc
    have HRX := hide hrx
    have HB := hide hBr
    have HD := hide hDr
    clear hE hRw hY hpop hUx hbx hbc hrx hBr hDr hB hM hSt hown cc hcr
    gi_wp2_with fail
    have hSN : w.heap.size + 1 < w.heap.size + 3 := by omega
    have hqN : w.heap.size < w.heap.size + 3 := by omega
    have hB1 : Below (wr.setCell ⟨w.heap.size + 1, 0, none⟩ (.slice (some ⟨g, 0, none⟩) cs.length cap)).heap.size (wr.setCell ⟨w.heap.size + 1, 0, none⟩ (.slice (some ⟨g, 0, none⟩) cs.length cap)) ((wr.setCell ⟨w.heap.size + 1, 0, none⟩ (.slice (some ⟨g, 0, none⟩) cs.length cap)).alloc (.cells #[.string p.l.name, .slice a1 p.l.args.length c1, .string p.r.name, .slice a2 p.r.args.length c2, .int .i64 (j : Int)] 129)) := (Below.refl _ _).alloc (Nat.le_refl _) _
    have hz1 : (wr.setCell ⟨w.heap.size + 1, 0, none⟩ (.slice (some ⟨g, 0, none⟩) cs.length cap)).heap.size = wr.heap.size := by simp [World.setCell]
    have hr1 : ERow wr (w.heap.size + 3) (fun b => b < w.heap.size + 3 ∧ b ≠ w.heap.size + 1 ∧ b ≠ w.heap.size) (.slice (some ⟨g, 0, none⟩) cs.length cap) cs := ⟨HPOP.out, fun y hy => HRW.out.row y (by simp [hy])⟩
    have hx1 := HRW.out.row ((p, (a1, c1), (a2, c2)), j) (by simp)
    have hSl : ∀ (aa : Option Addr) (l : List Tm), Sl wr (fun b => (b < w.heap.size + 3 ∧ b ≠ w.heap.size + 1 ∧ b ≠ w.heap.size) ∨ (w.heap.size + 3 ≤ b ∧ some b ≠ some g)) aa l → Sl ((wr.setCell ⟨w.heap.size + 1, 0, none⟩ (.slice (some ⟨g, 0, none⟩) cs.length cap)).alloc (.cells #[.string p.l.name, .slice a1 p.l.args.length c1, .string p.r.name, .slice a2 p.r.args.length c2, .int .i64 (j : Int)] 129)) (fun b => (b < w.heap.size + 3 ∧ b ≠ w.heap.size + 1 ∧ b ≠ w.heap.size) ∨ (w.heap.size + 3 ≤ b ∧ some b ≠ some g)) aa l := fun aa l hsl => (hsl.kept fun b hb => Below.heap_setCell _ _ _ _ (by
     simp
     rcases hb with hb | hb
     ·exact hb.2.1
     ·omega)).later hB1
    have hgN : w.heap.size + 3 ≤ g ∧ g < wr.heap.size := HPOP.out.lt g rfl
    have hDg : D ≠ g := fun e => by
     subst e
     rcases HPOP.out.2 with ⟨h1, _⟩ | ⟨g', cap', cur, h1, h2, h3, _⟩
     ·cases h1
     ·simp at h1
      obtain ⟨rfl, rfl⟩ := h1
      rw [HD.out] at h3
      cases h3
    have hDr : D < wr.heap.size := (Array.getElem?_eq_some_iff.1 HD.out).1
    have WO := workOff_any (w.heap.size + 1) w.heap.size (w.heap.size + 3) V h cs p ((cs.map ecP).reverse.map (·.1)) HU.out j HBX.out.1 HBX.out.2 hlen hV a1 c1 a2 c2 _ (.slice (some ⟨g, 0, none⟩) cs.length cap) Y ((solE_ok _ _ _ h).below (sole_todo HE.out (fun _ _ => rfl)) hB1) ((hr1.setCell hSN (fun hb => hb.2.1 rfl) _).below hB1) HY.out hSN hqN (by simp [World.setCell]; omega) (hSl _ _ hx1.1) (hSl _ _ hx1.2)
    refine (callsIn_wide.2 WO).mono ?_
    clear WO
    rintro e w4 hwo
    obtain ⟨code, g1, rfl, hlt1, hI1⟩ := sv_step (x := ((p, (a1, c1), (a2, c2)), j)) (w := w) (wr := wr) (D := D) (R := R) hV HU.out HBC.out HRX.out (by rw [Below.heap_alloc _ _ _ (by rw [hz1]; exact hDr), Below.heap_setCell _ _ _ _ (by simp; omega)]; exact HD.out) (by omega) (by omega) (fun e => hDg (by simpa [Value.ownBlock] using e)) (hB2 HB.out hz1 hB1) (by omega) (Nat.le_refl _) (fun b hb => by (have e : b = g := Option.some.inj hb); rw [e]; omega) hwo
    have HI1 := hide hI1
    clear hI1 hwo
    gi_wp2
    gi_roundg g1
    case rel => exact HI1.out
    case measure => exact hlt1
 case stop =>
  rintro D c pre W _ _ h _
  exact h.elim
end Go.Proofs.YtdebiiodhkcnkaaGreat
