/- Several texts in one. -/
import Derived.Test.YtpjdkdebjkpmmajZBTopRobinsonOwn
import Derived.Maps.OwnIn
import Derived.Maps.AppendAt
import Derived.Sort.LoopGhostIn
import Derived.Test.YtpjdkdebjkpmmajK1
import Derived.Test.YtpjdkdebjkpmmajZTopRobinsonOwn
import Derived.Test.YtpjdkdebjkpmmajExQ
import Derived.Test.YtpjdkdebjkpmmajMapS
import Derived.Deep.LoopGhost
import Derived.Test.YtpjdkdebjkpmmajPrr
import Derived.Test.YtpjdkdebjkpmmajW9
import Derived.Test.YtpjdkdebjkpmmajW10
import Derived.Test.YtpjdkdebjkpmmajMapT
import Derived.Test.YtpjdkdebjkpmmajW1
import Derived.Test.YtpjdkdebjkpmmajSrt
import Derived.Sort.KeysCollected
import Derived.Sort.Walk0
import Derived.Maps.Range
import Derived.Maps.Own
import Derived.StringKeys
import Derived.Shelf.SlIter.Nil
import Derived.Shelf.SortM.Plain
import Derived.Shelf.SortM.SortNone
import Derived.Shelf.SlGeneric
import Derived.Ground.GgzProg
import Derived.Ground.SlgmProg
import Derived.Test.YtpjdkdebjkpmmajProg
import Derived.Test.YtpjdkdebjkpmmajU5
import Derived.Test.YtpjdkdebjkpmmajW17
import Derived.Test.YtpjdkdebjkpmmajU3
import Derived.Test.YtpjdkdebjkpmmajW28
import Derived.Test.YtpjdkdebjkpmmajBRow
import Derived.Test.YtpjdkdebjkpmmajW64
import Derived.Test.YtpjdkdebjkpmmajW3
import Derived.Test.YtpjdkdebjkpmmajMem
import Derived.Test.YtpjdkdebjkpmmajExM
import Derived.Test.YtpjdkdebjkpmmajW8
import Derived.Deep.RegionHeld3
/- Walks: solve. -/
namespace Go.Proofs.Ytpjdkdebjkpmmaj
open Go.RowKit Go.Shelf
attribute [local go_sem] Oper.semAt_some
set_option linter.unusedSimpArgs false
set_option linter.unusedVariables false
set_option maxRecDepth 8000

/-- What is handed on lies in old memory. -/
def OldY (w : World) (x : Yx) : Prop := Sl w (fun b => b < w.heap.size) x.2.2.1.1 x.2.1.l.args ∧ Sl w (fun b => b < w.heap.size) x.2.2.2.1 x.2.1.r.args
/-- What is known while equations are laid. -/
def LyI (w : World) (pre : List { x : Yx // OldY w x }) (W : World) : Prop :=
  ∃ (td : Value) (cs : List Ec), Blk W (w.heap.size + 1) #[td, .map (some w.heap.size), .bool false] 104 ∧ MapAt W w.heap.size [] ∧ W.ownsRow (w.heap.size + 3) 109 5 td cs.length (flat5 cs) ∧ (∀ x ∈ cs, Sl W (fun b => b < w.heap.size) x.1.2.1.1 x.1.1.l.args ∧ Sl W (fun b => b < w.heap.size) x.1.2.2.1 x.1.1.r.args) ∧ cs.map ecP = pre.map (fun x => (x.1.2.1, 0)) ∧ Below w.heap.size w W ∧ w.heap.size + 3 ≤ W.heap.size
theorem lyI_own (w : World) : OwnFrom (w.heap.size + 3) (LyI w) := by
  intro pre W W' row hI hg hr
  obtain ⟨td, cs, h1, h2, h3, h4, h5, h6, h7⟩ := hI
  have hgs := hg.size
  have hne : ∀ b, b < w.heap.size + 3 → some b ≠ row := fun b hb e => by have := (hr b e.symm).1; omega
  refine ⟨td, cs, h1.grown hg (hne _ (by omega)), h2.kept (hg.block _ (by omega) (hne _ (by omega))), ownsRow_at h3 fun g hg1 => ?_, fun x hx => ⟨(h4 x hx).1.kept fun b hb => hg.block b (by omega) (hne b (by omega)), (h4 x hx).2.kept fun b hb => hg.block b (by omega) (hne b (by omega))⟩, h5, ?_, by omega⟩
  · refine hg.block g (h3.lt g hg1).2 fun e => ?_
    obtain ⟨_, o, ho, hc⟩ := hr g e.symm
    rcases h3.2 with ⟨hv, _⟩ | ⟨g', cap, cur, hv, _, hh, _⟩
    · rw [hv] at hg1; simp [Value.ownBlock] at hg1
    · rw [hv] at hg1
      have e2 : g' = g := by simpa [Value.ownBlock] using hg1
      subst e2
      rw [ho] at hh
      cases hh
      simp [Obj.isCells] at hc
  · exact ⟨hg.os.trans h6.os, hg.tape.trans h6.tape, hg.output.trans h6.output, by have := h6.size; omega, fun b hb => (hg.block b (by omega) (hne b (by omega))).trans (h6.block b hb)⟩
theorem owns_shape {w : World} {N e s n : Nat} {v : Value} {xs : List Value} (h : w.ownsRow N e s v (n + 1) xs) : ∃ g cap, v = .slice (some ⟨g, 0, none⟩) (n + 1) cap := by
  rcases h.2 with h1 | ⟨g, cap, cur, hv, _⟩
  · exact absurd h1.2 (by omega)
  · exact ⟨g, cap, hv⟩
/-- What a round keeps. -/
def LyK (w : World) (A B : World) : Prop := ExQ (fun b => b = w.heap.size + 1 ∨ w.heap.size + 3 ≤ b) A B ∧ ∀ k, k < w.heap.size + 3 → k ≠ w.heap.size + 1 → B.heap[k]? = A.heap[k]?
theorem LyK.refl (w A : World) : LyK w A A := ⟨ExQ.refl _ _, fun _ _ _ => rfl⟩
theorem LyK.trans {w A B C : World} (h : LyK w A B) (k : LyK w B C) : LyK w A C := ⟨h.1.trans k.1, fun i h1 h2 => (k.2 i h1 h2).trans (h.2 i h1 h2)⟩
theorem lyK_c {w A B : World} {b : Nat} (hb : b ≤ w.heap.size) (h : LyK w A B) : B.heap[b]? = A.heap[b]? ∧ B.heap[w.heap.size + 1 + 1]? = A.heap[w.heap.size + 1 + 1]? :=
  ⟨h.2 b (by omega) (by omega), h.2 _ (by omega) (by omega)⟩
theorem lyK_b {w W : World} {l : Nat} {o' : Obj} (hl : w.heap.size + 3 ≤ l) : LyK w W (W.putObj l o') :=
  ⟨⟨rfl, rfl, rfl, by simp, fun k _ hn => World.putObj_heap_other (fun e => hn (Or.inr (by omega)))⟩, fun k h1 h2 => World.putObj_heap_other (by omega)⟩
theorem lyI_step {w W w3 : World} {pre : List { x : Yx // OldY w x }} {x : { x : Yx // OldY w x }} {td v' : Value} {cs : List Ec} {o : Obj} (i1 : Blk W (w.heap.size + 1) #[td, .map (some w.heap.size), .bool false] 104) (i2 : MapAt W w.heap.size []) (i3 : W.ownsRow (w.heap.size + 3) 109 5 td cs.length (flat5 cs)) (i4 : ∀ x ∈ cs, Sl W (fun b => b < w.heap.size) x.1.2.1.1 x.1.1.l.args ∧ Sl W (fun b => b < w.heap.size) x.1.2.2.1 x.1.1.r.args) (i5 : cs.map ecP = pre.map (fun x => (x.1.2.1, 0))) (i6 : Below w.heap.size w W) (i7 : w.heap.size + 3 ≤ W.heap.size)
    (ho : w3.ownsRow (w.heap.size + 3) 109 5 v' (cs.length + 1) (flat5 cs ++ enc5 (x.1.2, 0))) (hg : (W.alloc o).grownBy w3 td.ownBlock) :
    KeepsFrom (w.heap.size + 3) W (w3.setCell ⟨w.heap.size + 1, 0, none⟩ v') ∧ LyK w W (w3.setCell ⟨w.heap.size + 1, 0, none⟩ v') ∧ LyI w (pre ++ [x]) (w3.setCell ⟨w.heap.size + 1, 0, none⟩ v') := by
  have hgs := hg.size
  simp at hgs
  have hne : ∀ b, b < w.heap.size + 3 → some b ≠ td.ownBlock := fun b hb e => by have := (i3.lt b e.symm).1; omega
  have h3 : ∀ k, k < W.heap.size → some k ≠ td.ownBlock → w3.heap[k]? = W.heap[k]? := fun k h1 h2 => (hg.block k (by simp; omega) h2).trans (Below.heap_alloc _ _ _ h1)
  have h4 : ∀ k, k ≠ w.heap.size + 1 → (w3.setCell ⟨w.heap.size + 1, 0, none⟩ v').heap[k]? = w3.heap[k]? := fun k hk => Below.heap_setCell _ _ _ _ (by simpa using hk)
  have hz : (w3.setCell ⟨w.heap.size + 1, 0, none⟩ v').heap.size = w3.heap.size := by simp [World.setCell]
  refine ⟨⟨by omega, fun k ob hk hh hc => ?_⟩, ⟨⟨?_, ?_, ?_, by omega, fun k h1 h2 => ?_⟩, fun k h1 h2 => (h4 k h2).trans (h3 k (by omega) (hne k h1))⟩, ?_⟩
  · have hkl : k < W.heap.size := (Array.getElem?_eq_some_iff.1 hh).1
    rw [h4 k (by omega), h3 k hkl fun e => ?_, hh]
    rcases i3.2 with ⟨hv, _⟩ | ⟨g', cap, cur, hv, _, hh2, _⟩
    · rw [hv] at e; simp [Value.ownBlock] at e
    · rw [hv] at e
      have e2 : k = g' := by simpa [Value.ownBlock] using e
      subst e2
      rw [hh] at hh2
      cases hh2
      simp [Obj.isCells] at hc
  · exact hg.os
  · exact hg.tape
  · exact hg.output
  · have hk1 : k < w.heap.size + 3 := by
      apply Classical.byContradiction
      intro hn
      exact h2 (Or.inr (by omega))
    exact (h4 k (fun e => h2 (Or.inl e))).trans (h3 k h1 (hne k hk1))
  · refine ⟨v', cs ++ [(x.1.2, 0)], ?_, i2.kept ((h4 _ (by omega)).trans (h3 _ (by omega) (hne _ (by omega)))), ?_, fun y hy => ?_, ?_, ?_, by omega⟩
    · have := (((i1.alloc o).grown hg (hne _ (by omega))).set 0 v')
      simpa using this
    · rw [List.length_append, flat5_append]
      have e5 : flat5 [(x.1.2, 0)] = enc5 (x.1.2, 0) := by simp [flat5]
      rw [e5]
      exact ownsRow_at ho fun g hg1 => h4 g (by have := (ho.lt g hg1).1; omega)
    · rcases List.mem_append.1 hy with hy | hy
      · exact ⟨(i4 y hy).1.kept fun b hb => (h4 b (by omega)).trans (h3 b (by omega) (hne b (by omega))), (i4 y hy).2.kept fun b hb => (h4 b (by omega)).trans (h3 b (by omega) (hne b (by omega)))⟩
      · have e : y = (x.1.2, 0) := by simpa using hy
        subst e
        have hb2 : Below w.heap.size w (w3.setCell ⟨w.heap.size + 1, 0, none⟩ v') := ⟨hg.os.trans i6.os, hg.tape.trans i6.tape, hg.output.trans i6.output, by have := i6.size; omega, fun b hb => ((h4 b (by omega)).trans (h3 b (by omega) (hne b (by omega)))).trans (i6.block b hb)⟩
        exact ⟨x.2.1.later hb2, x.2.2.later hb2⟩
    · rw [List.map_append, List.map_append, i5]; rfl
    · exact ⟨hg.os.trans i6.os, hg.tape.trans i6.tape, hg.output.trans i6.output, by have := i6.size; omega, fun b hb => ((h4 b (by omega)).trans (h3 b (by omega) (hne b (by omega)))).trans (i6.block b hb)⟩
/-- The state when no equation is worked off any more. -/
def SvL (S q : Nat) (R : Int × List Bd) (ev : Value) (wr : World) : Prop :=
  ∃ (code : Int) (h : List (ByteArray × Tm)) (f : Bool) (Y : Nat → Prop) (td : Value), ev = .int .i64 code ∧ SolE S q td h f Y wr ∧ GoodH h ∧ NamesH h ∧ h.length ≤ 1000000 ∧ (R = (code, sAt h) ∨ (grtB (sAt h) = true ∧ grtB R.2 = true)) ∧ (code ≠ 0 ∨ (code = 0 ∧ ∃ a c, td = .slice a 0 c))
/-- The state when one is to come, perhaps. -/
def SvR (S q N : Nat) (V : List ByteArray) (R : Int × List Bd) (g : Nat) (wr : World) : Prop :=
  ∃ (h : List (ByteArray × Tm)) (cs : List Ec), SolT S q N h cs wr ∧ UI V h ((cs.map ecP).reverse.map (·.1)) ∧ (∀ y ∈ cs.map ecP, y.2 ≤ h.length ∧ (y.2 = h.length → onT (sAt h) y.1.l = y.1.l ∧ onT (sAt h) y.1.r = y.1.r)) ∧ uRun false g (sAt h) ((cs.map ecP).reverse.map (·.1)) = some R
def SvI (w : World) (S q N : Nat) (V : List ByteArray) (R : Int × List Bd) (D : Nat) (g : Nat) (ev : Value) (wr : World) : Prop :=
  wr.heap[D]? = some (.deferred (some [])) ∧ Below w.heap.size w wr ∧ ((ev = .int .i64 0 ∧ SvR S q N V R g wr) ∨ SvL S q R ev wr)
/-- One equation at least. -/
def SvN (S q N : Nat) (V : List ByteArray) (R : Int × List Bd) (g : Nat) (wr : World) : Prop :=
  ∃ (h : List (ByteArray × Tm)) (cs : List Ec) (x : Ec), SolT S q N h (cs ++ [x]) wr ∧ UI V h (x.1.1 :: (cs.map ecP).reverse.map (·.1)) ∧ (x.2 ≤ h.length ∧ (x.2 = h.length → onT (sAt h) x.1.1.l = x.1.1.l ∧ onT (sAt h) x.1.1.r = x.1.1.r)) ∧ (∀ y ∈ cs.map ecP, y.2 ≤ h.length ∧ (y.2 = h.length → onT (sAt h) y.1.l = y.1.l ∧ onT (sAt h) y.1.r = y.1.r)) ∧ uRun false g (sAt h) (x.1.1 :: (cs.map ecP).reverse.map (·.1)) = some R
theorem sv_cases {S q N : Nat} {V : List ByteArray} {R : Int × List Bd} {g : Nat} {ev : Value} {wr : World} (hV : V.length ≤ 400000) (h : (ev = .int .i64 0 ∧ SvR S q N V R g wr) ∨ SvL S q R ev wr) : SvL S q R ev wr ∨ (ev = .int .i64 0 ∧ SvN S q N V R g wr) := by
  rcases h with ⟨rfl, h, cs, hT, hU, hb, hr⟩ | h
  · rcases List.eq_nil_or_concat cs with rfl | ⟨cs, x, rfl⟩
    · left
      obtain ⟨td, Y, hE, hR, hY, _⟩ := hT
      refine ⟨0, h, false, Y, td, rfl, hE, hU.good, hU.names, by have := hU.hlen; omega, Or.inl ?_, Or.inr ⟨rfl, ?_⟩⟩
      · cases g with
        | zero => cases hr
        | succ g =>
          simp [uRun, uNext] at hr
          exact hr.symm
      · rcases hR.own.2 with ⟨h1, _⟩ | ⟨g, cap, cur, h1, _⟩
        · exact ⟨_, _, h1⟩
        · exact ⟨_, _, h1⟩
    · right
      rw [List.concat_eq_append] at *
      simp only [List.map_append, List.map_cons, List.map_nil, List.reverse_append, List.reverse_cons, List.reverse_nil, List.nil_append, List.singleton_append] at hU hr hb
      exact ⟨rfl, h, cs, x, hT, hU, hb (ecP x) (by simp), fun y hy => hb y (by simp [hy]), hr⟩
  · exact Or.inl h
/-- One equation less. -/
theorem row_pop {w : World} {N n g cap : Nat} {cs : List Ec} {x : Ec} (hn : cs.length = n) (h : w.ownsRow N 109 5 (.slice (some ⟨g, 0, none⟩) (n + 1) cap) (n + 1) (flat5 (cs ++ [x]))) : w.ownsRow N 109 5 (.slice (some ⟨g, 0, none⟩) n cap) n (flat5 cs) := by
  subst hn
  refine ⟨flat5_length cs, Or.inr ?_⟩
  rcases h.2 with ⟨h1, _⟩ | ⟨g', cap', cur, h1, h2, h3, h4, h5, h6, h7⟩
  · cases h1
  · simp at h1
    obtain ⟨rfl, rfl⟩ := h1
    refine ⟨g, cap, cur, rfl, h2, h3, by omega, h5, h6, ?_⟩
    have h8 : (cur.toList.take ((cs.length + 1) * 5)).take (cs.length * 5) = (flat5 (cs ++ [x])).take (cs.length * 5) := by rw [h7]
    rw [List.take_take, Nat.min_eq_left (by omega), flat5_append, List.take_append_of_le_length (by rw [flat5_length]; omega), List.take_of_length_le (l := flat5 cs) (by rw [flat5_length]; omega)] at h8
    exact h8
/-- What an equation worked off gives. -/
theorem sv_step {w wr w4 : World} {S q N : Nat} {V : List ByteArray} {R : Int × List Bd} {D g : Nat} {h : List (ByteArray × Tm)} {cs : List Ec} {x : Ec} {td0 : Value} {w3 : World} {e : Ending} (hV : V.length ≤ 400000) (hU : UI V h (x.1.1 :: (cs.map ecP).reverse.map (·.1))) (hb : ∀ y ∈ cs.map ecP, y.2 ≤ h.length ∧ (y.2 = h.length → onT (sAt h) y.1.l = y.1.l ∧ onT (sAt h) y.1.r = y.1.r)) (hr : uRun false g (sAt h) (x.1.1 :: (cs.map ecP).reverse.map (·.1)) = some R)
    (hD : w3.heap[D]? = some (.deferred (some []))) (hDS : D ≠ S) (hDq : D ≠ q) (hDt : some D ≠ td0.ownBlock) (hB : Below w.heap.size w w3) (hS : w.heap.size ≤ S) (hq : w.heap.size ≤ q) (ht : ∀ b, some b = td0.ownBlock → w.heap.size ≤ b)
    (hp : WoPost S q N h cs (onT (sAt h) x.1.1.l) (onT (sAt h) x.1.1.r) td0 w3 e w4) : ∃ (code : Int) (g1 : Nat), e = .returned (.int .i64 code) ∧ g1 < g ∧ SvI w S q N V R D g1 (.int .i64 code) w4 := by
  obtain ⟨code, rfl, hx, hout⟩ := hp
  have hDl : D < w3.heap.size := (Array.getElem?_eq_some_iff.1 hD).1
  cases g with
  | zero => cases hr
  | succ g =>
    refine ⟨code, g, rfl, Nat.lt_succ_self _, (hx.block D hDl (fun hh => ?_)).trans hD, ⟨hx.os.trans hB.os, hx.tape.trans hB.tape, hx.output.trans hB.output, Nat.le_trans hB.size hx.size, fun k hk => (hx.block k (Nat.lt_of_lt_of_le hk hB.size) (fun hh => ?_)).trans (hB.block k hk)⟩, ?_⟩
    · rcases hh with h1 | h1 | h1
      · exact hDS h1
      · exact hDq h1
      · exact hDt h1
    · rcases hh with h1 | h1 | h1
      · omega
      · omega
      · have := ht k h1; omega
    · have hr0 := hr
      rw [uRun, uNext_cons] at hr
      rcases hout with ⟨hne, f', Y', td', hE, hw⟩ | ⟨rfl, hza, hzb, h', cs', new, hT, hC, hgo, hcs⟩
      · right
        refine ⟨code, h, f', Y', td', rfl, hE, hU.good, hU.names, by have := hU.hlen; omega, ?_, Or.inl hne⟩
        rcases hw with rfl | hw
        · have hg := hE.2.2.2.2 rfl
          exact Or.inr ⟨hg, uRun_great _ _ _ R.1 R.2 (by rw [hr0]) hg⟩
        · rw [hw] at hr
          simp at hr
          exact Or.inl hr.symm
      · left
        rw [hgo] at hr
        have el : (cs'.map ecP).reverse.map (·.1) = new ++ (cs.map ecP).reverse.map (·.1) := by
          rw [hC]
          simp [List.map_reverse, Function.comp_def]
        refine ⟨rfl, h', cs', hT, ?_, ?_, by rw [el]; exact hr⟩
        · rw [el]
          rcases hcs with ⟨rfl, rfl⟩ | ⟨rfl, y, t, rfl, hv, hor, ho⟩ | ⟨rfl, rfl, hl⟩
          · exact hU.drop
          · exact (hU.bindV hv (by rcases hor with ⟨h1, h2⟩ | ⟨h1, h2⟩; exact Or.inl ⟨h1, h2⟩; exact Or.inr ⟨h1, h2⟩) ho).2
          · exact (hU.deep hza hzb hl).1
        · rw [hC]
          intro y hy
          rcases List.mem_append.1 hy with hy1 | hy
          · clear hy
            rcases hcs with ⟨rfl, rfl⟩ | ⟨rfl, z, t, rfl, hv, hor, ho⟩ | ⟨rfl, rfl, hl⟩
            · exact hb y hy1
            · have := (hb y hy1).1
              refine ⟨by simp; omega, fun e => ?_⟩
              simp at e; omega
            · exact hb y hy1
          · obtain ⟨p, hp, rfl⟩ := List.mem_map.1 hy
            rcases hcs with ⟨rfl, rfl⟩ | ⟨rfl, z, t, rfl, hv, hor, ho⟩ | ⟨rfl, rfl, hl⟩
            · simp at hp
            · simp at hp
            · exact ⟨Nat.le_refl _, fun _ => (hU.deep hza hzb hl).2 p (by simpa using hp)⟩
theorem lyI_solT {w W : World} {pre : List { x : Yx // OldY w x }} (h : LyI w pre W) : ∃ cs : List Ec, SolT (w.heap.size + 1) w.heap.size (w.heap.size + 3) [] cs W ∧ cs.map ecP = pre.map (fun x => (x.1.2.1, 0)) ∧ Below w.heap.size w W := by
  obtain ⟨td, cs, i1, i2, i3, i4, i5, i6, i7⟩ := h
  refine ⟨cs, ⟨td, fun b => b = w.heap.size + 1 ∨ b = w.heap.size, ⟨⟨[], i1, i2, by simp, fun i hi => by simp at hi⟩, Or.inl rfl, Or.inr rfl, fun b hb => by rcases hb with rfl | rfl <;> omega, by simp⟩, ⟨i3, fun x hx => ⟨(i4 x hx).1.mono fun b hb _ => Or.inl ⟨by omega, by omega, by omega⟩, (i4 x hx).2.mono fun b hb _ => Or.inl ⟨by omega, by omega, by omega⟩⟩⟩, fun b hb e => ?_, by omega, by omega, i7⟩, i5, i6⟩
  have := (i3.lt b e.symm).1
  rcases hb with rfl | rfl <;> omega
/-- What solving gives. -/
def SoPost (R : Int × List Bd) (w : World) (e : Ending) (w' : World) : Prop :=
  Below w.heap.size w w' ∧ ((grtB R.2 = true ∧ e = .returned (.tuple #[.slice none 0 0, .int .i64 8])) ∨ (grtB R.2 = false ∧ R.1 ≠ 0 ∧ e = .returned (.tuple #[.slice none 0 0, .int .i64 R.1])) ∨ (grtB R.2 = false ∧ R.1 = 0 ∧ ∃ v, e = .returned (.tuple #[v, .int .i64 0]) ∧ BV w' (fun b => w.heap.size ≤ b) v R.2))

theorem add_off (g n : Nat) : (⟨g, 0, none⟩ : Addr).add n = ⟨g, n, none⟩ := by
  unfold Addr.add
  simp
  intro e
  omega
theorem hB2 {w wr W : World} {v : Value} (h : Below w.heap.size w wr) (hz : (wr.setCell ⟨w.heap.size + 1, 0, none⟩ v).heap.size = wr.heap.size) (hb : Below (wr.setCell ⟨w.heap.size + 1, 0, none⟩ v).heap.size (wr.setCell ⟨w.heap.size + 1, 0, none⟩ v) W) : Below w.heap.size w W := by
  have hs := h.size
  have hs2 := hb.size
  exact ⟨hb.os.trans h.os, hb.tape.trans h.tape, hb.output.trans h.output, by omega, fun k hk => (hb.block k (by omega)).trans ((Below.heap_setCell _ _ _ _ (by simp; omega)).trans (h.block k hk))⟩
theorem so_def {w wr w5 : World} {D : Nat} (hD : w.heap.size + 3 ≤ D) (h : wr.heap[D]? = some (.deferred (some []))) (hx : ExQ (SolM (w.heap.size + 1) w.heap.size) wr w5) : w5.heap[D]? = some (.deferred (some [])) :=
  (hx.block D (Array.getElem?_eq_some_iff.1 h).1 (fun hh => by rcases hh with e | e <;> omega)).trans h
theorem so_below {w wr w5 : World} {D : Nat} (hD : w.heap.size + 3 ≤ D) (h : Below w.heap.size w wr) (hx : ExQ (SolM (w.heap.size + 1) w.heap.size) wr w5) (o : Obj) : Below w.heap.size w (w5.putObj D o) :=
  ⟨hx.os.trans h.os, hx.tape.trans h.tape, hx.output.trans h.output, by rw [World.putObj_size]; exact Nat.le_trans h.size hx.size, fun k hk => by
    rw [World.putObj_heap_other (by omega), hx.block k (Nat.lt_of_lt_of_le hk h.size) (fun hh => by rcases hh with e | e <;> omega), h.block k hk]⟩
theorem so_great {R : Int × List Bd} {code : Int} {s : List Bd} (h : R = (code, s) ∨ (grtB s = true ∧ grtB R.2 = true)) (hg : grtB s = true) : grtB R.2 = true := by
  rcases h with rfl | h
  · exact hg
  · exact h.2
theorem so_same {R : Int × List Bd} {code : Int} {s : List Bd} (h : R = (code, s) ∨ (grtB s = true ∧ grtB R.2 = true)) (hg : grtB s = false) : R = (code, s) ∧ grtB s = false := by
  rcases h with rfl | h
  · exact ⟨rfl, hg⟩
  · rw [hg] at h; cases h.1
theorem iu_shape {h : List (ByteArray × Tm)} {w : World} {e : Ending} {w' : World} (hc : (grtB (sAt h) = true ∧ e = .returned (.tuple #[.slice none 0 0, .bool false])) ∨ (grtB (sAt h) = false ∧ ∃ v, e = .returned (.tuple #[v, .bool true]) ∧ BV w' (fun b => w.heap.size ≤ b) v (sAt h))) :
    ∃ v ok, e = .returned (.tuple #[v, .bool ok]) ∧ ((grtB (sAt h) = true ∧ ok = false) ∨ (grtB (sAt h) = false ∧ ok = true ∧ BV w' (fun b => w.heap.size ≤ b) v (sAt h))) := by
  rcases hc with ⟨h1, rfl⟩ | ⟨h1, v, rfl, h2⟩
  · exact ⟨_, _, rfl, Or.inl ⟨h1, rfl⟩⟩
  · exact ⟨_, _, rfl, Or.inr ⟨h1, rfl, h2⟩⟩
set_option maxHeartbeats 1000000 in
theorem solve_in (HSK : Hid SortedKeys) (n : Nat) (hn : 6 ≤ n) (b o : Nat) (a : Option Addr) (xs : List Pc) (c : Nat) (ha : xs = [] ∨ a = some ⟨b, o, none⟩) (hxl : xs.length ≤ 40) (V : List ByteArray) (hV : V.length ≤ 400000) (hU : UI V [] (xs.map (·.1))) (R : Int × List Bd) (g0 : Nat) (hrun : uRun false g0 [] (xs.map (·.1)) = some R) (w : World) (hbw : b ≤ w.heap.size) (hbx : xs = [] ∨ b < w.heap.size) (hL : PcAt w b o xs) (hS : ∀ x ∈ xs, Sl w (fun b => b < w.heap.size) x.2.1.1 x.1.l.args ∧ Sl w (fun b => b < w.heap.size) x.2.2.1 x.1.r.args) :
    CallsIn Fence.wide n Try.prog 45 #[.slice a xs.length c] w fun e w' => SoPost R w e w' := by
  have h1 : 1 ≤ n := by omega
  have hmm := @run_makeMap Try.prog
  refine callsIn_of_wp_marks Try.func45 rfl trivial ?_ rfl
  simp only [Try.ntmps45, List.size_toArray, List.length_cons, List.length_nil, Nat.reduceAdd, Nat.reduceSub, Array.replicate_succ, Array.replicate_zero, List.push_toArray, List.append_toArray, List.nil_append, List.cons_append]
  have hfK : Fence.wide.fn 71 := trivial
  have hfI : Fence.wide.fn 73 := trivial
  have hfW : Fence.wide.fn 72 := trivial
  gi_wp2_with (gi_at_call 71; refine (backward_in Fence.wide (n - 1) trivial rfl _ _ ⟨_, _, _, rfl⟩).mono ?_; rintro e w' ⟨rfl, rfl⟩)
  have hP : ∀ k (h : k < xs.length), OldY w ((k : Int), xs[k]) := fun k h => hS _ (List.getElem_mem h)
  have hW0 : (((w.alloc (.map #[] 0)).alloc (.cells #[.slice none 0 0, .map (some w.heap.size), .bool false] 104)).alloc (.cells #[.slice a xs.length c] 47)).heap.size = w.heap.size + 3 := by simp
  have hB0 : Below w.heap.size w (((w.alloc (.map #[] 0)).alloc (.cells #[.slice none 0 0, .map (some w.heap.size), .bool false] 104)).alloc (.cells #[.slice a xs.length c] 47)) := ((((Below.refl _ w).alloc (Nat.le_refl _) _).alloc (by simp) _).alloc (by simp; omega) _)
  have hSB : Blk (((w.alloc (.map #[] 0)).alloc (.cells #[.slice none 0 0, .map (some w.heap.size), .bool false] 104)).alloc (.cells #[.slice a xs.length c] 47)) (w.heap.size + 1) #[.slice none 0 0, .map (some w.heap.size), .bool false] 104 := by
    have h1 := (Blk.new (w.alloc (.map #[] 0)) #[.slice none 0 0, .map (some w.heap.size), .bool false] 104).alloc (.cells #[.slice a xs.length c] 47)
    rw [World.size_alloc] at h1
    exact h1
  have hMA : MapAt (((w.alloc (.map #[] 0)).alloc (.cells #[.slice none 0 0, .map (some w.heap.size), .bool false] 104)).alloc (.cells #[.slice a xs.length c] 47)) w.heap.size [] := (MapAt.new w).kept (by rw [Below.heap_alloc _ _ _ (by simp; omega), Below.heap_alloc _ _ _ (by simp)])
  have hBox : (((w.alloc (.map #[] 0)).alloc (.cells #[.slice none 0 0, .map (some w.heap.size), .bool false] 104)).alloc (.cells #[.slice a xs.length c] 47)).cell? ⟨w.heap.size + 1 + 1, 0, none⟩ = some (.slice a xs.length c) := by
    have h1 := (Blk.new ((w.alloc (.map #[] 0)).alloc (.cells #[.slice none 0 0, .map (some w.heap.size), .bool false] 104)) #[.slice a xs.length c] 47).cell 0
    rw [World.size_alloc, World.size_alloc] at h1
    exact h1
  generalize (((w.alloc (.map #[] 0)).alloc (.cells #[.slice none 0 0, .map (some w.heap.size), .bool false] 104)).alloc (.cells #[.slice a xs.length c] 47)) = W0 at *
  refine wpIn_rangeFunc_ownH rfl h1 (gf := 95) (lb := #[.pointer (some ⟨w.heap.size + 1 + 1, 0, none⟩)]) rfl trivial (enters_of Try.func95 (by kernel_rfl) rfl)
    (back_stops Fence.wide (n - 1) trivial rfl (by omega) (P := OldY w) (Kp := LyK w) (fun A => LyK.refl _ _) (fun h k => LyK.trans h k) (w.heap.size + 1 + 1) b o c (fun {A B} h => lyK_c hbw h) a xs hP ha (by omega) W0 (by omega) (by omega) hBox (fun j u hj => by (rcases hbx with rfl | hbx); (simp [flat4] at hj); rw [hB0.cell (p := ⟨_, _, none⟩) (by simpa using hbx)]; exact hL j u hj))
    (fun h k => LyK.trans h k) (fun W l o o' hl ho _ _ => lyK_b (by omega)) (Below.refl _ _) (fun _ => rfl)
    (LyI w) (fun _ _ _ => False) (by rw [hW0]; exact lyI_own w) (fun _ _ _ _ _ hs _ _ => hs) ⟨.slice none 0 0, [], hSB, hMA, World.ownsRow_nil _ _ _ _, by simp, by simp, hB0, by omega⟩
    (fun x a' W => ∃ Bx, w.heap.size + 3 ≤ Bx ∧ Blk W Bx #[.string x.1.2.1.l.name, .slice x.1.2.2.1.1 x.1.2.1.l.args.length x.1.2.2.1.2, .string x.1.2.1.r.name, .slice x.1.2.2.2.1 x.1.2.1.r.args.length x.1.2.2.2.2] 49 ∧ a' = { tmps := #[.slice a xs.length c, undef, .slice none 0 0, .int .i64 0, .pointer (some ⟨w.heap.size + 1, 0, none⟩), undef, .pointer (some ⟨Bx, 0, none⟩), undef, undef, undef, undef, undef, .map (some w.heap.size), .agg #[.slice none 0 0, .map (some w.heap.size), .bool false], .slice a xs.length c, .func (.func 95) #[] #[.pointer (some ⟨w.heap.size + 1 + 1, 0, none⟩)], .int .i64 x.1.1, .agg #[.string x.1.2.1.l.name, .slice x.1.2.2.1.1 x.1.2.1.l.args.length x.1.2.2.1.2, .string x.1.2.1.r.name, .slice x.1.2.2.2.1 x.1.2.1.r.args.length x.1.2.2.2.2], undef, undef, undef, undef, undef, undef, undef, undef, undef, undef, undef, undef, undef, undef, undef, undef, undef, undef, undef, undef, undef, undef, undef, undef, undef, undef, undef, undef, undef, undef, undef, undef, undef, undef, undef, undef, undef, undef, undef, undef, undef, undef, undef, undef], defers := [] })
    (fun x a' _ X Y row hs hg hr => by
      obtain ⟨Bx, h1, h2, h3⟩ := hs
      refine ⟨Bx, h1, h2.grown hg (fun e => ?_), h3⟩
      obtain ⟨_, o, ho, hc⟩ := hr Bx e.symm
      unfold Blk at h2
      rw [ho] at h2
      cases h2
      simp [Obj.isCells] at hc) ?assign ?body ?done ?stop
  case assign =>
    rintro l pre x W K hI hK
    dsimp only [encY]
    gi_wp2
    obtain ⟨td, cs, i1, i2, i3, i4, i5, i6, i7⟩ := hI
    refine hK _ _ ((KeepsOthers.alloc _ _).from _) ⟨(ExQ.refl _ _).alloc _, fun k h1 h2 => Below.heap_alloc _ _ _ (by omega)⟩ ⟨td, cs, i1.alloc _, i2.kept (Below.heap_alloc _ _ _ (by omega)), i3.alloc _, fun y hy => ⟨(i4 y hy).1.later ((Below.refl _ _).alloc (Nat.le_refl _) _), (i4 y hy).2.later ((Below.refl _ _).alloc (Nat.le_refl _) _)⟩, i5, i6.alloc (by omega) _, by simp; omega⟩ ⟨W.heap.size, i7, Blk.new W _ _, rfl⟩
  case body =>
    rintro l pre x a' W hl hr hI ⟨Bx, hBx, bX, rfl⟩ hlt
    obtain ⟨td, cs, i1, i2, i3, i4, i5, i6, i7⟩ := hI
    obtain ⟨⟨xi, ⟨xp, ⟨xa, xc⟩, ⟨ya, yc⟩⟩⟩, hx1, hx2⟩ := x
    dsimp only at bX hx1 hx2 ⊢
    have s0 : W.cell? ⟨w.heap.size + 1, 0, none⟩ = some td := i1.cell 0
    have p0 : W.cell? ⟨Bx, 0, none⟩ = some (.string xp.l.name) := bX.cell 0
    have p1 : W.cell? ⟨Bx, 1, none⟩ = some (.slice xa xp.l.args.length xc) := bX.cell 1
    have p2 : W.cell? ⟨Bx, 2, none⟩ = some (.string xp.r.name) := bX.cell 2
    have p3 : W.cell? ⟨Bx, 3, none⟩ = some (.slice ya xp.r.args.length yc) := bX.cell 3
    obtain ⟨i0, hi0, hz0, hz1, hz2⟩ := info_parts Try.infoEq
    have hcl : cs.length ≤ 40 := by have := congrArg List.length i5; simp at this; omega
    gi_wp2_with (gi_at_builtin; go_loud (refine wpListIn_append_own_at _ rfl (.tmp 19) (.tmp 25) 102 rfl (w.heap.size + 3) 109 i0 _ 5 88 Try.underlying102 hi0 hz0 hz1 hz2 rfl (by decide) td cs.length (flat5 cs) rfl (i3.alloc _) ⟨W.heap.size, 0, none⟩ 1 1 [.string xp.l.name, .slice xa xp.l.args.length xc, .string xp.r.name, .slice ya xp.r.args.length yc, .int .i64 0] rfl rfl (cell_five_new _ _ _ _ _ _ _) (fun u hu => by simp at hu; rcases hu with rfl | rfl | rfl | rfl | rfl <;> rfl) (by unfold maxLen; omega) (by omega) (by simp; omega) ?_); intro v' w3 ho hg _ hob; obtain ⟨g', cap', rfl⟩ := owns_shape ho; have s3 : w3.cell? ⟨w.heap.size + 1, 0, none⟩ = some td := ((i1.alloc _).grown hg (fun e => by have := (i3.lt _ e.symm).1; omega)).cell 0; have f3 : w3.frozen? ⟨w.heap.size + 1, 0, none⟩ = false := ((i1.alloc _).grown hg (fun e => by have := (i3.lt _ e.symm).1; omega)).frozen 0)
    have hfin := lyI_step (x := ⟨(xi, xp, (xa, xc), ya, yc), hx1, hx2⟩) i1 i2 i3 i4 i5 i6 i7 ho hg
    rw [hW0]
    exact hfin
  case done =>
    rintro D ys W hD rfl hI hDD
    have hst : SvI w (w.heap.size + 1) w.heap.size (w.heap.size + 3) V R D g0 (.int .i64 0) W := by
      obtain ⟨cs, hT, hC, hB⟩ := lyI_solT hI
      have e1 : (cs.map ecP).reverse.map (·.1) = xs.map (·.1) := by
        have e2 := backA_map (P := OldY w) (xs := xs) (hP := hP) xs.length (Nat.le_refl _)
        rw [hC, ← List.map_reverse, List.map_map, List.map_reverse]
        have e3 : ((fun x : Pr × Nat => x.1) ∘ fun x : { x : Yx // OldY w x } => (x.1.2.1, 0)) = fun x => x.1.2.1 := rfl
        rw [e3, e2, List.take_length, List.reverse_reverse]
      refine ⟨hDD, hB, Or.inl ⟨rfl, [], cs, hT, by rw [e1]; exact hU, ?_, by rw [e1]; exact hrun⟩⟩
      rw [hC]
      intro y hy
      obtain ⟨z, _, rfl⟩ := List.mem_map.1 hy
      exact ⟨Nat.zero_le _, fun _ => ⟨onT_id (by simp [sAt]), onT_id (by simp [sAt])⟩⟩
    have HST := hide hst
    clear hst hI hDD
    gi_wp2
    gi_loopg [7] g0 (fun g ev wr => SvI w (w.heap.size + 1) w.heap.size (w.heap.size + 3) V R D g ev wr)
    case atStart => exact HST.out
    case round =>
      have hDl : w.heap.size + 3 ≤ D := by omega
      obtain ⟨hDr, hBr, hcr⟩ := hrel
      rcases sv_cases hV hcr with ⟨code, h, f, Y, td, rfl, hE, hgd, hnm, hhl, hR, hlast⟩ | ⟨rfl, h, cs, x, hT, hUx, hbx, hbc, hrx⟩
      · have HE := hide hE
        have HR := hide hR
        have HB := hide hBr
        have HD := hide hDr
        clear hcr hR hBr hDr
        obtain ⟨⟨L, hB, hM, hSt⟩, _⟩ := hE
        have s0 : wr.cell? ⟨w.heap.size + 1, 0, none⟩ = some td := hB.cell 0
        clear hB hM hSt
        rcases hlast with hne | ⟨rfl, a0, c0, rfl⟩
        · have hce : (code == 0) = false := beq_eq_false_iff_ne.2 hne
          have hcn : (code != 0) = true := by simp [bne, hce]
          gi_wp2_with (gi_at_call 73; refine (callsIn_wide.2 (inOrderU_of HSK (w.heap.size + 1) w.heap.size td h hgd hnm hhl wr Y f HE.out)).mono ?_; rintro e w5 ⟨hx5, hc5⟩; obtain ⟨v5, ok5, rfl, hd5⟩ := iu_shape hc5; clear hc5)
          · have hok : ok5 = false := by simp_all
            refine ⟨by simp, .inl ⟨_, _, rfl, run_takeDeferred (so_def hDl HD.out hx5), ?_⟩⟩
            refine ⟨.tuple #[.slice none 0 0, .int .i64 8], by simp [results, Try.results45, go_sem], so_below hDl HB.out hx5 _, Or.inl ⟨so_great HR.out (by simp_all), rfl⟩⟩
          · have hok : ok5 = true := by simp_all
            have hRR := so_same HR.out (show grtB (sAt h) = false by simp_all)
            refine ⟨by simp, .inl ⟨_, _, rfl, run_takeDeferred (so_def hDl HD.out hx5), ?_⟩⟩
            refine ⟨.tuple #[.slice none 0 0, .int .i64 code], by simp [results, Try.results45, go_sem], so_below hDl HB.out hx5 _, Or.inr (Or.inl ?_)⟩
            rw [hRR.1]
            exact ⟨hRR.2, hne, rfl⟩
        · gi_wp2_with (gi_at_call 73; refine (callsIn_wide.2 (inOrderU_of HSK (w.heap.size + 1) w.heap.size (.slice a0 0 c0) h hgd hnm hhl wr Y f HE.out)).mono ?_; rintro e w5 ⟨hx5, hc5⟩; obtain ⟨v5, ok5, rfl, hd5⟩ := iu_shape hc5; clear hc5)
          · have hok : ok5 = false := by simp_all
            refine ⟨by simp, .inl ⟨_, _, rfl, run_takeDeferred (so_def hDl HD.out hx5), ?_⟩⟩
            refine ⟨.tuple #[.slice none 0 0, .int .i64 8], by simp [results, Try.results45, go_sem], so_below hDl HB.out hx5 _, Or.inl ⟨so_great HR.out (by simp_all), rfl⟩⟩
          · have hok : ok5 = true := by simp_all
            have hRR := so_same HR.out (show grtB (sAt h) = false by simp_all)
            have hbv : BV w5 (fun b => wr.heap.size ≤ b) v5 (sAt h) := by
              rcases hd5 with h1 | h1
              · rw [hok] at h1; cases h1.2
              · exact h1.2.2
            refine ⟨by simp, .inl ⟨_, _, rfl, run_takeDeferred (so_def hDl HD.out hx5), ?_⟩⟩
            refine ⟨.tuple #[v5, .int .i64 0], by simp [results, Try.results45, go_sem], so_below hDl HB.out hx5 _, Or.inr (Or.inr ?_)⟩
            rw [hRR.1]
            exact ⟨hRR.2, rfl, v5, rfl, (hbv.kept fun b hb => World.putObj_heap_other (by have := (Array.getElem?_eq_some_iff.1 HD.out).1; omega)).mono fun b hb _ => Nat.le_trans HB.out.size hb⟩
      · obtain ⟨td, Y, hE, hRw, hY, _, _, hNr⟩ := hT
        have hlen : cs.length ≤ 900000000 := by
          have h1 := hUx.llen
          simp at h1
          omega
        have hown := hRw.own
        rw [List.length_append] at hown
        obtain ⟨g, cap, rfl⟩ := owns_shape hown
        have hpop := row_pop rfl hown
        have hcap : cs.length + 1 ≤ cap := by
          rcases hown.2 with ⟨h1, _⟩ | ⟨g', cap', cur, h1, h2, h3, h4, _⟩
          · cases h1
          · simp at h1
            obtain ⟨_, rfl⟩ := h1
            simpa using h4
        obtain ⟨⟨p, ⟨a1, c1⟩, ⟨a2, c2⟩⟩, j⟩ := x
        have cc : ∀ i u, (enc5 ((p, (a1, c1), (a2, c2)), j))[i]? = some u → i < 5 → wr.cell? ⟨g, cs.length * 5 + i, none⟩ = some u := fun i u hu hi => by
          have h1 := hown.cells (g := g) rfl (cs.length * 5 + i) u (by rw [flat5_get (cs ++ [_]) cs.length (by simp) i hi]; simpa using hu)
          rw [add_off] at h1
          exact h1
        have k0 := cc 0 _ rfl (by decide)
        have k1 := cc 1 _ rfl (by decide)
        have k2 := cc 2 _ rfl (by decide)
        have k3 := cc 3 _ rfl (by decide)
        have k4 := cc 4 _ rfl (by decide)
        simp only [Nat.add_zero] at k0
        obtain ⟨⟨L, hB, hM, hSt⟩, _⟩ := id hE
        have s0 : wr.cell? ⟨w.heap.size + 1, 0, none⟩ = some (.slice (some ⟨g, 0, none⟩) (cs.length + 1) cap) := hB.cell 0
        have s0' : ∀ o, (wr.alloc o).cell? ⟨w.heap.size + 1, 0, none⟩ = some (.slice (some ⟨g, 0, none⟩) (cs.length + 1) cap) := fun o => (hB.alloc o).cell 0
        have f0' : ∀ o, (wr.alloc o).frozen? ⟨w.heap.size + 1, 0, none⟩ = false := fun o => (hB.alloc o).frozen 0
        have HE := hide hE
        have HRW := hide hRw
        have HY := hide hY
        have HPOP := hide hpop
        have HU := hide hUx
        have HBX := hide hbx
        have HBC := hide hbc
        have HRX := hide hrx
        have HB := hide hBr
        have HD := hide hDr
        clear hE hRw hY hpop hUx hbx hbc hrx hBr hDr hB hM hSt hown cc hcr
        gi_wp2_with fail
        have hSN : w.heap.size + 1 < w.heap.size + 3 := by omega
        have hqN : w.heap.size < w.heap.size + 3 := by omega
        have hB1 : Below (wr.setCell ⟨w.heap.size + 1, 0, none⟩ (.slice (some ⟨g, 0, none⟩) cs.length cap)).heap.size (wr.setCell ⟨w.heap.size + 1, 0, none⟩ (.slice (some ⟨g, 0, none⟩) cs.length cap)) ((wr.setCell ⟨w.heap.size + 1, 0, none⟩ (.slice (some ⟨g, 0, none⟩) cs.length cap)).alloc (.cells #[.string p.l.name, .slice a1 p.l.args.length c1, .string p.r.name, .slice a2 p.r.args.length c2, .int .i64 (j : Int)] 109)) := (Below.refl _ _).alloc (Nat.le_refl _) _
        have hz1 : (wr.setCell ⟨w.heap.size + 1, 0, none⟩ (.slice (some ⟨g, 0, none⟩) cs.length cap)).heap.size = wr.heap.size := by simp [World.setCell]
        have hr1 : ERow wr (w.heap.size + 3) (fun b => b < w.heap.size + 3 ∧ b ≠ w.heap.size + 1 ∧ b ≠ w.heap.size) (.slice (some ⟨g, 0, none⟩) cs.length cap) cs := ⟨HPOP.out, fun y hy => HRW.out.row y (by simp [hy])⟩
        have hx1 := HRW.out.row ((p, (a1, c1), (a2, c2)), j) (by simp)
        have hSl : ∀ (aa : Option Addr) (l : List Tm), Sl wr (fun b => (b < w.heap.size + 3 ∧ b ≠ w.heap.size + 1 ∧ b ≠ w.heap.size) ∨ (w.heap.size + 3 ≤ b ∧ some b ≠ some g)) aa l → Sl ((wr.setCell ⟨w.heap.size + 1, 0, none⟩ (.slice (some ⟨g, 0, none⟩) cs.length cap)).alloc (.cells #[.string p.l.name, .slice a1 p.l.args.length c1, .string p.r.name, .slice a2 p.r.args.length c2, .int .i64 (j : Int)] 109)) (fun b => (b < w.heap.size + 3 ∧ b ≠ w.heap.size + 1 ∧ b ≠ w.heap.size) ∨ (w.heap.size + 3 ≤ b ∧ some b ≠ some g)) aa l := fun aa l hsl => (hsl.kept fun b hb => Below.heap_setCell _ _ _ _ (by
          simp
          rcases hb with hb | hb
          · exact hb.2.1
          · omega)).later hB1
        have hgN : w.heap.size + 3 ≤ g ∧ g < wr.heap.size := HPOP.out.lt g rfl
        have hDg : D ≠ g := fun e => by
          subst e
          rcases HPOP.out.2 with ⟨h1, _⟩ | ⟨g', cap', cur, h1, h2, h3, _⟩
          · cases h1
          · simp at h1
            obtain ⟨rfl, rfl⟩ := h1
            rw [HD.out] at h3
            cases h3
        have hDr : D < wr.heap.size := (Array.getElem?_eq_some_iff.1 HD.out).1
        have WO := workOff_any (w.heap.size + 1) w.heap.size (w.heap.size + 3) V h cs p ((cs.map ecP).reverse.map (·.1)) HU.out j HBX.out.1 HBX.out.2 hlen hV a1 c1 a2 c2 _ (.slice (some ⟨g, 0, none⟩) cs.length cap) Y ((solE_ok _ _ _ h).below (sole_todo HE.out (fun _ _ => rfl)) hB1) ((hr1.setCell hSN (fun hb => hb.2.1 rfl) _).below hB1) HY.out hSN hqN (by simp [World.setCell]; omega) (hSl _ _ hx1.1) (hSl _ _ hx1.2)
        refine (callsIn_wide.2 WO).mono ?_
        clear WO
        rintro e w4 hwo
        obtain ⟨code, g1, rfl, hlt1, hI1⟩ := sv_step (x := ((p, (a1, c1), (a2, c2)), j)) (w := w) (wr := wr) (D := D) (R := R) hV HU.out HBC.out HRX.out (by rw [Below.heap_alloc _ _ _ (by rw [hz1]; exact hDr), Below.heap_setCell _ _ _ _ (by simp; omega)]; exact HD.out) (by omega) (by omega) (fun e => hDg (by simpa [Value.ownBlock] using e)) (hB2 HB.out hz1 hB1) (by omega) (Nat.le_refl _) (fun b hb => by (have e : b = g := Option.some.inj hb); rw [e]; omega) hwo
        have HI1 := hide hI1
        clear hI1 hwo
        gi_wp2
        gi_roundg g1
        case rel => exact HI1.out
        case measure => exact hlt1
  case stop =>
    rintro D c pre W _ _ h _
    exact h.elim
#print axioms solve_in
end Go.Proofs.Ytpjdkdebjkpmmaj

/- Equations worked off by what stands for variables, with nothing put in: plain. -/
namespace Go.Proofs.Ytpjdkdebjkpmmaj
open Go.RowKit
set_option linter.unusedSimpArgs false
set_option linter.unusedVariables false

def EqP (s : List Bd) (l k : List Pr) : Prop := l.map (fun p => (onT s p.l, onT s p.r)) = k.map (fun p => (onT s p.l, onT s p.r))
theorem EqP.later {s s' : List Bd} (ha : Abs s s') : ∀ {l k : List Pr}, errL (flatP l) = 0 → errL (flatP k) = 0 → EqP s l k → EqP s' l k
  | [], [], _, _, _ => rfl
  | [], _ :: _, _, _, h => by simp [EqP] at h
  | _ :: _, [], _, _, h => by simp [EqP] at h
  | p :: l, q :: k, hl, hk, h => by
    unfold EqP at h
    rw [List.map_cons, List.map_cons] at h
    injection h with h1 h2
    injection h1 with h3 h4
    obtain ⟨e1, e2⟩ := err_two.1 hl
    obtain ⟨e2, e3⟩ := err_two.1 e2
    obtain ⟨f1, f2⟩ := err_two.1 hk
    obtain ⟨f2, f3⟩ := err_two.1 f2
    have h5 : EqP s' l k := EqP.later ha e3 f3 h2
    unfold EqP
    rw [List.map_cons, List.map_cons, h5, ← ha.T e1, ← ha.T e2, ← ha.T f1, ← ha.T f2, h3, h4]
/-- What is the same when all is put in is worked off likewise. -/
theorem FR.congr {s sf : List Bd} {l : List Pr} {e : Int} (h : FR s l e sf) : ∀ {k : List Pr}, OkS s → errL (flatP l) = 0 → errL (flatP k) = 0 → EqP s l k → FR s k e sf := by
  induction h with
  | done s =>
    intro k _ _ _ hk
    cases k with
    | nil => exact FR.done s
    | cons q k => simp [EqP] at hk
  | @step s s' sf p l' rest e h1 h2 ih =>
    intro k hs he hk h
    cases k with
    | nil => simp [EqP] at h
    | cons q k =>
      unfold EqP at h
      rw [List.map_cons, List.map_cons] at h
      injection h with h3 h4
      injection h3 with h5 h6
      obtain ⟨e1, e2⟩ := err_two.1 he
      obtain ⟨e2, e3⟩ := err_two.1 e2
      obtain ⟨f1, f2⟩ := err_two.1 hk
      obtain ⟨f2, f3⟩ := err_two.1 f2
      obtain ⟨g1, g2, g3, _⟩ := fPair_go hs (errL_onT2 hs e1) (errL_onT2 hs e2) (hs.goneT e1) (hs.goneT e2) h1
      refine FR.step (by rw [← h5, ← h6]; exact h1) (ih g1 (by rw [flatP_append]; exact err_append.2 ⟨g3, e3⟩) (by rw [flatP_append]; exact err_append.2 ⟨g3, f3⟩) ?_)
      have h7 : EqP s' rest k := EqP.later g2 e3 f3 h4
      unfold EqP at h7 ⊢
      rw [List.map_append, List.map_append, h7]
  | @stop s p rest e h1 =>
    intro k hs he hk h
    cases k with
    | nil => simp [EqP] at h
    | cons q k =>
      unfold EqP at h
      rw [List.map_cons, List.map_cons] at h
      injection h with h3 h4
      injection h3 with h5 h6
      exact FR.stop (by rw [← h5, ← h6]; exact h1)

/-- A variable, the term that stands for it, and where that lies. -/
structure Zp where
  nm : ByteArray
  t : Tm
  b : Nat
  o : Nat
/-- What stands for variables, one behind the other, comes to these bindings. -/
def Clo (Z : List Zp) (s : List Bd) : Prop := OkS s ∧ (∀ z ∈ Z, varB z.nm = true ∧ errL [z.t] = 0 ∧ onT s ⟨z.nm, []⟩ = onT s z.t) ∧ (∀ d ∈ s, ∃ z ∈ Z, z.nm = d.nm) ∧ ∀ z ∈ Z, ∃ d ∈ s, d.nm = z.nm
theorem clo_nil : Clo [] [] := ⟨okS_nil, by simp, by simp, by simp⟩
theorem Clo.unbound {Z : List Zp} {s : List Bd} (h : Clo Z s) {n : ByteArray} (hn : ∀ z ∈ Z, z.nm ≠ n) : ∀ d ∈ s, d.nm ≠ n := fun d hd e => by
  obtain ⟨z, hz, e2⟩ := h.2.2.1 d hd
  exact hn z hz (e2.trans e)
theorem Clo.fresh {Z : List Zp} {s : List Bd} (h : Clo Z s) {n : ByteArray} (hn : ∀ d ∈ s, d.nm ≠ n) : ∀ z ∈ Z, z.nm ≠ n := fun z hz e => by
  obtain ⟨d, hd, e2⟩ := h.2.2.2 z hz
  exact hn d hd (e2.trans e)
theorem Clo.errs {Z : List Zp} {s : List Bd} (h : Clo Z s) : ∀ z ∈ Z, errL [z.t] = 0 := fun z hz => (h.2.1 z hz).2.1
theorem Clo.stands {Z : List Zp} {s : List Bd} (h : Clo Z s) {t : Tm} (he : errL [t] = 0) (hv : varB t.name = true) {z : Zp} (hz : z ∈ Z) (hn : z.nm = t.name) : onT s z.t = onT s t := by
  rw [var_leaf he hv, ← hn]
  exact (h.2.1 z hz).2.2.symm
/-- A variable for which nothing stands, or none at all. -/
def Free (s : List Bd) (t : Tm) : Prop := errL [t] = 0 ∧ (varB t.name = true → ∀ d ∈ s, d.nm ≠ t.name)
theorem forT_no {s : List Bd} {n : ByteArray} (h : ∀ d ∈ s, d.nm ≠ n) : forT s n = none := by
  induction s with
  | nil => rfl
  | cons d r ih => rw [forT, if_neg (h d (by simp))]; exact ih fun e he => h e (by simp [he])
theorem Free.var {s : List Bd} {t : Tm} (h : Free s t) (hv : varB t.name = true) : onT s t = ⟨t.name, []⟩ := by
  rw [var_leaf h.1 hv, onT_leaf, forT_no (h.2 hv)]
  rfl
theorem onT_knot {s : List Bd} (hs : OkS s) {t : Tm} (hv : varB t.name = false) : onT s t = ⟨t.name, onL s t.args⟩ := by
  obtain ⟨n, l⟩ := t
  exact onT_sym2 hs.vars hv l
theorem Free.name {s : List Bd} (hs : OkS s) {t : Tm} (h : Free s t) : (onT s t).name = t.name := by
  cases hv : varB t.name with
  | true => rw [h.var hv]
  | false => rw [onT_knot hs hv]
theorem onL_len (s : List Bd) : ∀ l : List Tm, (onL s l).length = l.length
  | [] => by simp [onL]
  | t :: r => by rw [onL_cons, List.length_cons, onL_len s r, List.length_cons]
theorem Clo.add {Z : List Zp} {s : List Bd} (h : Clo Z s) {x : ByteArray} {t : Tm} (hx : varB x = true) (hn : ∀ d ∈ s, d.nm ≠ x) (he : errL [t] = 0) (ho : ¬ occL x [onT s t]) (b o : Nat) : Clo (Z ++ [⟨x, t, b, o⟩]) (addS s x (onT s t)) := by
  have hs := h.1
  have eu := errL_onT2 hs he
  have h1 := hs.add hx hn eu (hs.goneT he) ho
  have hon : ∀ y, errL [y] = 0 → onT (addS s x (onT s t)) y = onT [⟨x, onT s t⟩] (onT s y) := fun y hy => by
    have h2 := add_on hs hx hn h1 [y] hy
    rw [onL_cons, onL_cons, onL_cons] at h2
    injection h2
  refine ⟨h1, fun z hz => ?_, fun d hd => ?_, fun z hz => ?_⟩
  · rcases List.mem_append.1 hz with hz | hz
    · obtain ⟨g1, g2, g3⟩ := h.2.1 z hz
      exact ⟨g1, g2, by rw [add_val hs.1 hn, g3, hon _ g2]⟩
    · have e : z = ⟨x, t, b, o⟩ := by simpa using hz
      subst e
      refine ⟨hx, he, ?_⟩
      show onT (addS s x (onT s t)) ⟨x, []⟩ = onT (addS s x (onT s t)) t
      rw [add_val hs.1 hn, hon t he, onT_leaf s x, forT_no hn, onT_id (s := [⟨x, onT s t⟩]) (t := onT s t) (fun d hd => by
        have e : d = ⟨x, onT s t⟩ := by simpa using hd
        rw [e]; exact ho)]
      simp [onT_leaf, forT]
  · have h8 := (srtB_perm (s.map (putB x (onT s t)) ++ [⟨x, onT s t⟩])).subset hd
    rcases List.mem_append.1 h8 with h8 | h8
    · obtain ⟨d', hd', rfl⟩ := List.mem_map.1 h8
      obtain ⟨z, hz, e⟩ := h.2.2.1 d' hd'
      exact ⟨z, by simp [hz], e⟩
    · have e : d = ⟨x, onT s t⟩ := by simpa using h8
      exact ⟨⟨x, t, b, o⟩, by simp, by rw [e]⟩
  · have hin : ∀ d, d ∈ s.map (putB x (onT s t)) ++ [⟨x, onT s t⟩] → d ∈ addS s x (onT s t) := fun d hd => (srtB_perm _).symm.subset hd
    rcases List.mem_append.1 hz with hz | hz
    · obtain ⟨d, hd, e⟩ := h.2.2.2 z hz
      exact ⟨putB x (onT s t) d, hin _ (List.mem_append_left _ (List.mem_map.2 ⟨d, hd, rfl⟩)), e⟩
    · have e : z = ⟨x, t, b, o⟩ := by simpa using hz
      exact ⟨⟨x, onT s t⟩, hin _ (by simp), by rw [e]⟩

theorem inB_of {x : ByteArray} {t : Tm} (hx : varB x = true) (h : occL x [t]) : inB x (varsP [] (preL [t])) = true := by
  by_cases hi : inB x (varsP [] (preL [t])) = true
  · exact hi
  · exact absurd h (not_inB hx hi)
theorem inB_not {x : ByteArray} {t : Tm} (h : ¬ occL x [t]) : ¬ inB x (varsP [] (preL [t])) = true := fun hi => by
  unfold inB at hi
  rw [List.any_eq_true] at hi
  obtain ⟨n, hn, e⟩ := hi
  rcases varsP_sub _ _ _ hn with hn | ⟨k, hk, e2, _⟩
  · cases hn
  · exact h ⟨k, hk, by rw [e2]; first | exact (bytes_inj (by simpa using e)).symm | exact bytes_inj (by simpa using e)⟩
/-- One equation, its sides looked up: both the same variable. -/
theorem fr_same {s : List Bd} {a b a' b' : Tm} (hs : OkS s) (ha : onT s a' = onT s a) (hb : onT s b' = onT s b) (fa : Free s a') (fb : Free s b') (hv : varB a'.name = true) (hn : b'.name = a'.name) : FR s [⟨a, b⟩] 0 s := by
  refine FR.step (s' := s) (l' := []) ?_ (FR.done s)
  show fPair s (onT s a) (onT s b) = _
  rw [← ha, ← hb]
  unfold fPair
  rw [fa.name hs, fb.name hs, if_pos hv, if_pos hn.symm]
/-- A variable that is to stand for a term in which it stands. -/
theorem fr_occurs {s : List Bd} {a b a' b' : Tm} (hs : OkS s) (ha : onT s a' = onT s a) (hb : onT s b' = onT s b) (fa : Free s a') (fb : Free s b') (h : (varB a'.name = true ∧ b'.name ≠ a'.name ∧ occL a'.name [onT s b']) ∨ (varB a'.name = false ∧ varB b'.name = true ∧ occL b'.name [onT s a'])) : FR s [⟨a, b⟩] 6 s := by
  refine FR.stop ?_
  show fPair s (onT s a) (onT s b) = _
  rw [← ha, ← hb]
  unfold fPair
  rw [fa.name hs, fb.name hs]
  rcases h with ⟨h1, h2, h3⟩ | ⟨h1, h2, h3⟩
  · rw [if_pos h1, if_neg (Ne.symm h2)]
    unfold fBind
    rw [if_pos (inB_of h1 h3)]
  · rw [if_neg (by rw [h1]; simp), if_pos h2]
    unfold fBind
    rw [if_pos (inB_of h2 h3)]
/-- A variable that comes to stand for a term. -/
theorem fr_bind {s : List Bd} {a b a' b' : Tm} (hs : OkS s) (ha : onT s a' = onT s a) (hb : onT s b' = onT s b) (fa : Free s a') (fb : Free s b') {x : ByteArray} {u : Tm} (h : (varB a'.name = true ∧ b'.name ≠ a'.name ∧ x = a'.name ∧ u = b') ∨ (varB a'.name = false ∧ varB b'.name = true ∧ x = b'.name ∧ u = a')) (ho : ¬ occL x [onT s u]) : FR s [⟨a, b⟩] 0 (addS s x (onT s u)) := by
  refine FR.step (s' := addS s x (onT s u)) (l' := []) ?_ (FR.done _)
  show fPair s (onT s a) (onT s b) = _
  rw [← ha, ← hb]
  unfold fPair
  rw [fa.name hs, fb.name hs]
  rcases h with ⟨h1, h2, rfl, rfl⟩ | ⟨h1, h2, rfl, rfl⟩
  · rw [if_pos h1, if_neg (Ne.symm h2)]
    unfold fBind
    rw [if_neg (inB_not ho)]
  · rw [if_neg (by rw [h1]; simp), if_pos h2]
    unfold fBind
    rw [if_neg (inB_not ho)]
/-- Two symbols that clash. -/
theorem fr_clash {s : List Bd} {a b a' b' : Tm} (hs : OkS s) (ha : onT s a' = onT s a) (hb : onT s b' = onT s b) (va : varB a'.name = false) (vb : varB b'.name = false) (h : ¬ (a'.name = b'.name ∧ a'.args.length = b'.args.length)) : FR s [⟨a, b⟩] 5 s := by
  refine FR.stop ?_
  show fPair s (onT s a) (onT s b) = _
  rw [← ha, ← hb, onT_knot hs va, onT_knot hs vb]
  unfold fPair
  rw [if_neg (by rw [va]; simp), if_neg (by rw [vb]; simp), if_neg (by simpa [onL_len] using h)]
theorem zip_on (s : List Bd) : ∀ (a b : List Tm), (zipP (onL s a) (onL s b)) = (zipP a b).map fun p => ⟨onT s p.l, onT s p.r⟩
  | [], _ => by simp [onL, zipP]
  | _ :: _, [] => by simp [onL, onL_cons, zipP]
  | x :: a, y :: b => by rw [onL_cons, onL_cons, zipP, zipP, zip_on s a b]; rfl
/-- Two symbols that are the same: what lies below. -/
theorem fr_deep {s sf : List Bd} {a b a' b' : Tm} {e : Int} (hs : OkS s) (ha : onT s a' = onT s a) (hb : onT s b' = onT s b) (ea : errL [a'] = 0) (eb : errL [b'] = 0) (va : varB a'.name = false) (vb : varB b'.name = false) (hn : a'.name = b'.name) (hl : a'.args.length = b'.args.length) (h : FR s (zipP a'.args b'.args) e sf) : FR s [⟨a, b⟩] e sf := by
  refine FR.step (s' := s) (l' := zipP (onL s a'.args) (onL s b'.args)) ?_ ?_
  · show fPair s (onT s a) (onT s b) = _
    rw [← ha, ← hb, onT_knot hs va, onT_knot hs vb]
    unfold fPair
    rw [if_neg (by rw [va]; simp), if_neg (by rw [vb]; simp), if_pos (by simpa [onL_len] using ⟨hn, hl⟩)]
  · rw [List.append_nil]
    have e1 := zip_err (err_sub ea) (err_sub eb)
    have e2 : errL (flatP (zipP (onL s a'.args) (onL s b'.args))) = 0 := zip_err (errL_on2 hs _ (err_sub ea)) (errL_on2 hs _ (err_sub eb))
    refine h.congr hs e1 e2 ?_
    unfold EqP
    rw [zip_on, List.map_map]
    refine List.map_congr_left fun p hp => ?_
    obtain ⟨f1, f2⟩ := err_flat e1 p hp
    show (onT s p.l, onT s p.r) = (onT s (onT s p.l), onT s (onT s p.r))
    rw [(abs_refl hs).T f1, (abs_refl hs).T f2]
theorem zip_take : ∀ {a b : List Tm} {k : Nat} (h : k < a.length) (h2 : k < b.length), zipP (a.take (k + 1)) (b.take (k + 1)) = zipP (a.take k) (b.take k) ++ [⟨a[k], b[k]⟩]
  | x :: a, y :: b, 0, _, _ => by simp [zipP]
  | x :: a, y :: b, k + 1, h, h2 => by
    rw [List.take_succ_cons, List.take_succ_cons, zipP, zip_take (k := k) (by simpa using h) (by simpa using h2)]
    rfl
theorem zip_parts : ∀ (a b : List Tm) (k : Nat), zipP a b = zipP (a.take k) (b.take k) ++ zipP (a.drop k) (b.drop k)
  | a, b, 0 => by simp [zipP]
  | [], b, k + 1 => by simp [zipP]
  | x :: a, [], k + 1 => by simp [zipP]
  | x :: a, y :: b, k + 1 => by
    rw [List.take_succ_cons, List.take_succ_cons, List.drop_succ_cons, List.drop_succ_cons, zipP, zipP, zip_parts a b k]
    rfl
/-- The next one below. -/
theorem fr_next {s s' sf : List Bd} {a b : List Tm} {k : Nat} {e : Int} (h : k < a.length) (h2 : k < b.length) (h0 : FR s (zipP (a.take k) (b.take k)) 0 s') (h1 : FR s' [⟨a[k], b[k]⟩] e sf) : FR s (zipP (a.take (k + 1)) (b.take (k + 1))) e sf := by
  rw [zip_take h h2]
  exact h0.append_ok rfl h1
theorem fr_fail {s sf : List Bd} {a b : List Tm} (k : Nat) {e : Int} (he : e ≠ 0) (h : FR s (zipP (a.take k) (b.take k)) e sf) : FR s (zipP a b) e sf := by
  rw [zip_parts a b k]
  exact h.append_err he _
theorem pr_next {s s' sf : List Bd} {l : List Pr} {k : Nat} {e : Int} (h : k < l.length) (h0 : FR s (l.take k) 0 s') (h1 : FR s' [⟨l[k].l, l[k].r⟩] e sf) : FR s (l.take (k + 1)) e sf := by
  rw [List.take_succ_eq_append_getElem h]
  exact h0.append_ok rfl h1
theorem pr_fail {s sf : List Bd} {l : List Pr} (k : Nat) {e : Int} (he : e ≠ 0) (h : FR s (l.take k) e sf) : FR s l e sf := by
  have h1 := h.append_err he (l.drop k)
  rwa [List.take_append_drop] at h1
#print axioms fr_deep
#print axioms Clo.add
end Go.Proofs.Ytpjdkdebjkpmmaj

/- Walks: what stands for a variable at last. -/
namespace Go.Proofs.Ytpjdkdebjkpmmaj
open Go.RowKit
set_option linter.unusedSimpArgs false
set_option linter.unusedVariables false
set_option maxRecDepth 8000

/-- A term lies where a pointer points, and that is memory that X lets. -/
def PX (w : World) (X : Nat → Prop) (b o : Nat) (t : Tm) : Prop := PtT w X b o t ∧ X b
theorem PX.exq {w w' : World} {X Q : Nat → Prop} {b o : Nat} {t : Tm} (h : PX w X b o t) (he : ExQ Q w w') (hX : ∀ b, X b → ¬ Q b) : PX w' X b o t := by
  obtain ⟨⟨a, c, h1, h2, h3, h4⟩, h5⟩ := h
  have e := he.block b h4 (hX b h5)
  exact ⟨⟨a, c, (World.cell?_of_block e).trans h1, (World.cell?_of_block e).trans h2, h3.exq he hX, Nat.lt_of_lt_of_le h4 he.size⟩, h5⟩
theorem PX.sub {w : World} {X : Nat → Prop} {b o : Nat} {t : Tm} (h : PX w X b o t) : ∃ a c, w.cell? ⟨b, o + 1, none⟩ = some (.slice a t.args.length c) ∧ t.args.length ≤ 9223372036854775807 ∧ ∀ k (hk : k < t.args.length), ∃ b' o', a = some ⟨b', o', none⟩ ∧ PX w X b' (o' + k * 2) t.args[k] := by
  obtain ⟨⟨a, c, h1, h2, h3, h4⟩, _⟩ := h
  refine ⟨a, c, h2, h3.1, fun k hk => ?_⟩
  obtain ⟨b', o', a', c', rfl, d0, d1, hx⟩ := h3.get (Below.refl _ _) (fun _ _ h => h) k hk
  obtain ⟨a2, c2, e2, hx⟩ := hx
  cases e2
  have hX : X b' := by
    obtain ⟨_, h1⟩ := h3
    rcases h1 with h1 | ⟨b2, o2, e', h1⟩
    · rw [h1] at hk; simp at hk
    · cases e'; exact (lies_get _ _ _ h1 k hk).1
  exact ⟨b', o', rfl, ⟨a', c', d0, d1, hx, cell_lt d0⟩, hX⟩
def ptZ (z : Zp) : ByteArray × Value := (z.nm, .pointer (some ⟨z.b, z.o, none⟩))
/-- A sketch: what stands for variables, and how much may be looked at. -/
def SkS (w : World) (S q : Nat) (X : Nat → Prop) (Z : List Zp) (left : Int) : Prop :=
  Blk w S #[.map (some q), .int .i64 left] 98 ∧ MapAt w q (Z.map ptZ) ∧ (∀ z ∈ Z, PX w X z.b z.o z.t) ∧ ∀ b, X b → b ≠ S ∧ b ≠ q
def SkQ (S q : Nat) : Nat → Prop := fun b => b = S ∨ b = q
theorem SkS.ne {w : World} {S q : Nat} {X : Nat → Prop} {Z : List Zp} {left : Int} (h : SkS w S q X Z left) : S ≠ q := fun e => by
  obtain ⟨es, clk, h1, _⟩ := h.2.1
  have h2 := h.1
  unfold Blk at h2
  rw [e, h1] at h2; cases h2
theorem SkS.X {w : World} {S q : Nat} {X : Nat → Prop} {Z : List Zp} {left : Int} (h : SkS w S q X Z left) : ∀ b, X b → ¬ SkQ S q b := fun b hb hq => by
  rcases hq with e | e
  · exact (h.2.2.2 b hb).1 e
  · exact (h.2.2.2 b hb).2 e
theorem SkS.later {w w' : World} {S q : Nat} {X : Nat → Prop} {Z : List Zp} {left : Int} (h : SkS w S q X Z left) (hb : Below w.heap.size w w') : SkS w' S q X Z left :=
  ⟨h.1.below hb h.1.lt, h.2.1.below hb h.2.1.lt, fun z hz => (h.2.2.1 z hz).exq (ExQ.ofBelow (Q := SkQ S q) hb) h.X, h.2.2.2⟩
theorem SkS.spend {w : World} {S q : Nat} {X : Nat → Prop} {Z : List Zp} {left : Int} (h : SkS w S q X Z left) (n : Int) : SkS (w.setCell ⟨S, 1, none⟩ (.int .i64 n)) S q X Z n :=
  ⟨by have := h.1.set 1 (.int .i64 n); simpa using this, h.2.1.kept (Below.heap_setCell _ _ _ _ (by simpa using h.ne.symm)), fun z hz => (h.2.2.1 z hz).exq ((ExQ.refl (SkQ S q) w).set (Or.inl rfl) 1 _) h.X, h.2.2.2⟩
theorem mapGet_ptZ {Z : List Zp} {n : ByteArray} : (mapGet (Z.map ptZ) n = none ∧ ∀ z ∈ Z, z.nm ≠ n) ∨ ∃ z ∈ Z, z.nm = n ∧ mapGet (Z.map ptZ) n = some (.pointer (some ⟨z.b, z.o, none⟩)) := by
  induction Z with
  | nil => exact Or.inl ⟨rfl, by simp⟩
  | cons y r ih =>
    by_cases hn : y.nm = n
    · exact Or.inr ⟨y, by simp, hn, by simp [mapGet, ptZ, hn]⟩
    · rcases ih with ⟨h1, h2⟩ | ⟨z, hz, h1, h2⟩
      · refine Or.inl ⟨by rw [List.map_cons, mapGet, if_neg (by simpa [ptZ] using hn)]; exact h1, fun z hz => ?_⟩
        rcases List.mem_cons.1 hz with rfl | hz
        · exact hn
        · exact h2 z hz
      · exact Or.inr ⟨z, by simp [hz], h1, by rw [List.map_cons, mapGet, if_neg (by simpa [ptZ] using hn)]; exact h2⟩

/-- Where a look ends. -/
def LkP (w : World) (S q : Nat) (X : Nat → Prop) (Z : List Zp) (left : Int) (t : Tm) (e : Ending) (w' : World) : Prop :=
  ∃ (b o : Nat) (t' : Tm) (n : Int), e = .returned (.pointer (some ⟨b, o, none⟩)) ∧ SkS w' S q X Z n ∧ PX w' X b o t' ∧ ExQ (SkQ S q) w w' ∧ n ≤ left ∧ (-1 ≤ n ∨ n = left) ∧ errL [t'] = 0 ∧ ∀ s, Clo Z s → onT s t' = onT s t ∧ (0 ≤ n → Free s t')
def LkI (w : World) (S q : Nat) (X : Nat → Prop) (Z : List Zp) (left : Int) (t : Tm) (g : Nat) (tv : Value) (wr : World) : Prop :=
  ∃ (b o : Nat) (t' : Tm) (n : Int), g = (n + 1).toNat ∧ tv = .pointer (some ⟨b, o, none⟩) ∧ SkS wr S q X Z n ∧ PX wr X b o t' ∧ ExQ (SkQ S q) w wr ∧ n ≤ left ∧ (-1 ≤ n ∨ n = left) ∧ errL [t'] = 0 ∧ ∀ s, Clo Z s → onT s t' = onT s t

set_option maxHeartbeats 1000000 in
theorem skLook_any (S q : Nat) (X : Nat → Prop) (Z : List Zp) (hZ : ∀ z ∈ Z, errL [z.t] = 0) (left : Int) (t : Tm) (b o : Nat) (w : World) (hS : SkS w S q X Z left) (hl : -100 ≤ left) (hl2 : left ≤ 100000) (ht : PX w X b o t) (he : errL [t] = 0) :
    Calls Try.prog 92 #[.pointer (some ⟨S, 0, none⟩), .pointer (some ⟨b, o, none⟩)] w fun e w' => LkP w S q X Z left t e w' := by
  have HS := hide hS
  have HT := hide ht
  have HE := hide he
  clear hS ht
  go_enter Try.func92, Try.ntmps92
  go_wp2_with fail
  go_loopg [1] (left + 1).toNat (fun g tv wr => LkI w S q X Z left t g tv wr)
  case atStart => exact ⟨b, o, t, left, rfl, rfl, HS.out, HT.out, ExQ.refl _ _, Int.le_refl _, Or.inr rfl, HE.out, fun _ _ => rfl⟩
  case round =>
    obtain ⟨b1, o1, t1, n, rfl, rfl, hS1, hP1, hE1, hn1, hn2, he1, hc1⟩ := hrel
    have HS1 := hide hS1
    have HP1 := hide hP1
    have HE1 := hide hE1
    have HC1 := hide hc1
    have s1 : wr.cell? ⟨S, 1, none⟩ = some (.int .i64 n) := hS1.1.cell 1
    have s0 : wr.cell? ⟨S, 0, none⟩ = some (.map (some q)) := hS1.1.cell 0
    obtain ⟨⟨a1, c1, p0, p1, hsl, hbl⟩, hXb⟩ := hP1
    clear hS1 hE1 hc1
    by_cases hn0 : 0 ≤ n
    · cases hvb : varB t1.name with
      | false =>
        have HF : Hid (∀ s, Clo Z s → onT s t1 = onT s t ∧ (0 ≤ n → Free s t1)) := fun s hs => ⟨HC1.out s hs, fun _ => ⟨he1, fun h => by rw [hvb] at h; cases h⟩⟩
        go_wp2_with (go_at_call 55; refine (isVariable_all _ _).mono ?_; rintro e wr ⟨rfl, rfl⟩; rw [hvb])
        refine bodyPost_ret (v := .pointer (some ⟨b1, o1, none⟩)) (by simp [results, Try.results92, go_sem]) rfl ?_
        exact ⟨b1, o1, t1, n, rfl, HS1.out, HP1.out, HE1.out, hn1, hn2, he1, HF.out⟩
      | true =>
        have hz : ∀ w', (zeroValue 88).run Try.prog w' = .ok (.pointer none) w' := fun w' => Try.zeroValue88 w'
        have HS0 := hide (And.intro s0 p0)
        rcases mapGet_ptZ (Z := Z) (n := t1.name) with ⟨hg, hno⟩ | ⟨z, hz1, hzn, hg⟩
        · have HF : Hid (∀ s, Clo Z s → onT s t1 = onT s t ∧ (0 ≤ n → Free s t1)) := fun s hs => ⟨HC1.out s hs, fun _ => ⟨he1, fun _ => hs.unbound hno⟩⟩
          have hlk : (Instr.lookup 96 (.map (some q)) (.string t1.name) true).run Try.prog wr.drew = .ok (.tuple #[.pointer none, .bool false]) wr.drew := by
            rw [run_look (P := Try.prog) Try.underlying96 Try.underlying9 (hz _) (show MapAt wr.drew q (Z.map ptZ) from HS1.out.2.1) t1.name, hg]; rfl
          clear hg hno
          go_wp2_with (go_at_call 55; refine (isVariable_all _ _).mono ?_; rintro e wr ⟨rfl, rfl⟩; rw [hvb])
          go_region_held3 (fun w' => w'.cell? ⟨S, 0, none⟩ = some (.map (some q)) ∧ w'.cell? ⟨b1, o1, none⟩ = some (.string t1.name)) (first | exact HS0.out | go_keep) (fail)
          go_wp2_with fail
          refine bodyPost_ret (v := .pointer (some ⟨b1, o1, none⟩)) (by simp [results, Try.results92, go_sem]) rfl ?_
          have hD : Below wr.heap.size wr wr.drew := (Below.refl _ _).drew
          exact ⟨b1, o1, t1, n, rfl, HS1.out.later hD, HP1.out.exq (ExQ.ofBelow (Q := SkQ S q) hD) HS1.out.X, HE1.out.drew, hn1, hn2, he1, HF.out⟩
        · have HF : Hid (∀ s, Clo Z s → onT s z.t = onT s t) := fun s hs => (hs.stands he1 hvb hz1 hzn).trans (HC1.out s hs)
          have HZ1 := hide hz1
          have hlk : (Instr.lookup 96 (.map (some q)) (.string t1.name) true).run Try.prog wr.drew = .ok (.tuple #[.pointer (some ⟨z.b, z.o, none⟩), .bool true]) wr.drew := by
            rw [run_look (P := Try.prog) Try.underlying96 Try.underlying9 (hz _) (show MapAt wr.drew q (Z.map ptZ) from HS1.out.2.1) t1.name, hg]; rfl
          have s1' : wr.drew.cell? ⟨S, 1, none⟩ = some (.int .i64 n) := s1
          have f1' : wr.drew.frozen? ⟨S, 1, none⟩ = false := HS1.out.1.frozen 1
          clear hg hz1 hzn
          go_wp2_with (go_at_call 55; refine (isVariable_all _ _).mono ?_; rintro e wr ⟨rfl, rfl⟩; rw [hvb])
          go_region_held3 (fun w' => w'.cell? ⟨S, 0, none⟩ = some (.map (some q)) ∧ w'.cell? ⟨b1, o1, none⟩ = some (.string t1.name)) (first | exact HS0.out | go_keep) (fail)
          have hwrap : IntKind.i64.wrap (n - 1) = n - 1 := by rw [IntKind.wrap_i64]; omega
          go_wp2_with fail
          have hD : Below wr.heap.size wr wr.drew := (Below.refl _ _).drew
          have hE2 : ExQ (SkQ S q) wr (wr.setCell ⟨S, 1, none⟩ (.int .i64 (n - 1))).drew := ((ExQ.refl (SkQ S q) wr).set (Or.inl rfl) 1 _).drew
          go_roundg ((n - 1) + 1).toNat
          case rel => exact ⟨z.b, z.o, z.t, n - 1, rfl, rfl, (HS1.out.spend (n - 1)).later ((Below.refl _ _).drew), (HS1.out.2.2.1 z HZ1.out).exq hE2 HS1.out.X, HE1.out.trans hE2, by omega, by omega, hZ z HZ1.out, HF.out⟩
          case measure => omega
    · go_wp2_with fail
      refine bodyPost_ret (v := .pointer (some ⟨b1, o1, none⟩)) (by simp [results, Try.results92, go_sem]) rfl ?_
      exact ⟨b1, o1, t1, n, rfl, HS1.out, HP1.out, HE1.out, hn1, hn2, he1, fun s hs => ⟨HC1.out s hs, fun h => absurd h (by omega)⟩⟩
#print axioms skLook_any
end Go.Proofs.Ytpjdkdebjkpmmaj

/- Walks: does a variable stand in a term, with what stands for others? -/
namespace Go.Proofs.Ytpjdkdebjkpmmaj
open Go.RowKit
set_option linter.unusedSimpArgs false
set_option linter.unusedVariables false
set_option maxRecDepth 8000

theorem Free.knot {s : List Bd} (hs : OkS s) {t : Tm} (h : Free s t) : onT s t = ⟨t.name, onL s t.args⟩ := by
  cases hv : varB t.name with
  | false => exact onT_knot hs hv
  | true =>
    rw [h.var hv]
    have e : t.args = [] := by rw [var_leaf h.1 hv]
    rw [e]
    simp [onL]
theorem occ_onL {s : List Bd} {x : ByteArray} : ∀ {l : List Tm}, occL x (onL s l) ↔ ∃ k, ∃ h : k < l.length, occL x [onT s l[k]]
  | [] => by
    simp only [onL]
    exact ⟨fun h => absurd h occL_nil, fun ⟨k, h, _⟩ => absurd h (by simp)⟩
  | t :: r => by
    rw [onL_cons, occL_cons, occ_onL (l := r)]
    constructor
    · rintro (h | ⟨k, hk, h⟩)
      · exact ⟨0, by simp, h⟩
      · exact ⟨k + 1, by simpa using hk, h⟩
    · rintro ⟨k, hk, h⟩
      cases k with
      | zero => exact Or.inl h
      | succ k => exact Or.inr ⟨k, by simpa using hk, h⟩
theorem err_at : ∀ {l : List Tm}, errL l = 0 → ∀ k (h : k < l.length), errL [l[k]] = 0
  | t :: r, he, 0, _ => (err_two.1 he).1
  | t :: r, he, k + 1, h => err_at (err_two.1 he).2 k (by simpa using h)
/-- What is known of the answer. -/
def HoP (w : World) (S q : Nat) (X : Nat → Prop) (Z : List Zp) (left : Int) (t : Tm) (x : ByteArray) (e : Ending) (w' : World) : Prop :=
  ∃ (r : Bool) (n : Int), e = .returned (.bool r) ∧ SkS w' S q X Z n ∧ ExQ (SkQ S q) w w' ∧ n < left ∧ -2 ≤ n ∧ (n < 0 → r = true) ∧ (0 ≤ n → ∀ s, Clo Z s → (∀ d ∈ s, d.nm ≠ x) → (r = true ↔ occL x [onT s t]))
def HoI (w : World) (S q : Nat) (X : Nat → Prop) (Z : List Zp) (left : Int) (b1 o1 : Nat) (t1 : Tm) (x : ByteArray) (i : Value) (wr : World) : Prop :=
  ∃ (k : Nat) (n : Int), k ≤ t1.args.length ∧ i = .int .i64 (k : Int) ∧ PX wr X b1 o1 t1 ∧ SkS wr S q X Z n ∧ ExQ (SkQ S q) w wr ∧ n < left ∧ 0 ≤ n ∧ ∀ s, Clo Z s → (∀ d ∈ s, d.nm ≠ x) → ∀ j (h : j < t1.args.length), j < k → ¬ occL x [onT s t1.args[j]]

set_option maxHeartbeats 2000000 in
theorem skHolds_any (S q : Nat) (X : Nat → Prop) (Z : List Zp) (hZ : ∀ z ∈ Z, errL [z.t] = 0) (x : ByteArray) (m : Nat) : ∀ (left : Int) (t : Tm) (b o : Nat) (w : World), left.toNat = m → 0 ≤ left → left ≤ 100000 → SkS w S q X Z left → PX w X b o t → errL [t] = 0 →
    Calls Try.prog 124 #[.pointer (some ⟨S, 0, none⟩), .pointer (some ⟨b, o, none⟩), .string x] w fun e w' => HoP w S q X Z left t x e w' := by
  induction m using Nat.strongRecOn with
  | _ m ih =>
    intro left t b o w hm h0 h1 hS hP he
    have IH := hide ih
    have HS := hide hS
    have HP := hide hP
    clear ih hS hP
    go_enter Try.func124, Try.ntmps124
    go_wp2_with fail
    refine (skLook_any S q X Z hZ left t b o w HS.out (by omega) h1 HP.out he).mono ?_
    rintro e w1 ⟨b1, o1, t1, n, rfl, hS1, hP1, hE1, hn1, hn2, he1, hc1⟩
    have HS1 := hide hS1
    have HP1 := hide hP1
    have HE1 := hide hE1
    have HC1 := hide hc1
    have s1 : w1.cell? ⟨S, 1, none⟩ = some (.int .i64 n) := hS1.1.cell 1
    have f1 : w1.frozen? ⟨S, 1, none⟩ = false := hS1.1.frozen 1
    have hwrap : IntKind.i64.wrap (n - 1) = n - 1 := by rw [IntKind.wrap_i64]; omega
    have hE2 : ExQ (SkQ S q) w1 (w1.setCell ⟨S, 1, none⟩ (.int .i64 (n - 1))) := (ExQ.refl (SkQ S q) w1).set (Or.inl rfl) 1 _
    have HE2 := hide (hE1.trans hE2)
    have HS2 := hide (hS1.spend (n - 1))
    have HP2 := hide (hP1.exq hE2 hS1.X)
    have HSX := hide hS1.X
    obtain ⟨⟨a1, c1, p0, p1, hsl, hbl⟩, hXb⟩ := HP2.out
    have hl1 := hsl.1
    clear hS1 hE1 hc1 hP1 hsl hE2
    by_cases hlt : n - 1 < 0
    · go_wp2_with fail
      refine bodyPost_ret (v := .bool true) (by simp [results, Try.results124, go_sem]) rfl ?_
      exact ⟨true, n - 1, rfl, HS2.out, HE2.out, by omega, by omega, fun _ => rfl, fun h => absurd h (by omega)⟩
    · have HFR : Hid (∀ s, Clo Z s → onT s t1 = onT s t ∧ onT s t1 = ⟨t1.name, onL s t1.args⟩) := fun s hs => ⟨(HC1.out s hs).1, ((HC1.out s hs).2 (by omega)).knot hs.1⟩
      cases hnm : (t1.name.toList == x.toList) with
      | true =>
        have hx : t1.name = x := bytes_inj (by simpa using hnm)
        go_wp2_with fail
        refine bodyPost_ret (v := .bool true) (by simp [results, Try.results124, go_sem]) rfl ?_
        refine ⟨true, n - 1, rfl, HS2.out, HE2.out, by omega, by omega, fun _ => rfl, fun _ s hs _ => ⟨fun _ => ?_, fun _ => rfl⟩⟩
        rw [← (HFR.out s hs).1, (HFR.out s hs).2, ← hx]
        exact occL_node.2 (Or.inl rfl)
      | false =>
        have HX : Hid (t1.name ≠ x) := fun e => by rw [e] at hnm; simp at hnm
        have HOC : Hid (∀ s, Clo Z s → (occL x [onT s t] ↔ ∃ k, ∃ h : k < t1.args.length, occL x [onT s t1.args[k]])) := fun s hs => by
          rw [← (HFR.out s hs).1, (HFR.out s hs).2, occL_node, occ_onL]
          exact ⟨fun h => h.elim (fun e => absurd e HX.out) (fun h => h.elim id fun h => absurd h occL_nil), fun h => Or.inr (Or.inl h)⟩
        have hea : errL t1.args = 0 := err_sub he1
        go_wp2_with fail
        go_loopw [36] (fun i wr => HoI w S q X Z left b1 o1 t1 x i wr) (fun i wr => t1.args.length - (intOf i).toNat)
        case atStart => exact ⟨0, n - 1, Nat.zero_le _, rfl, HP2.out, HS2.out, HE2.out, by omega, by omega, fun _ _ _ j _ h => absurd h (by omega)⟩
        case round =>
          obtain ⟨k, n2, hk, rfl, hP3, hS3, hE3, hn3, hn4, hno⟩ := hrel
          have HP3 := hide hP3
          have HS3 := hide hS3
          have HE3 := hide hE3
          have HNO := hide hno
          obtain ⟨a', c', q1, _, hsub⟩ := hP3.sub
          clear hP3 hS3 hE3 hno p0 p1
          by_cases hlk : k < t1.args.length
          · obtain ⟨b', o', rfl, hx⟩ := hsub k hlk
            have hk2 : (k : Int) < (t1.args.length : Int) := by omega
            have HIH := hide (IH.out n2.toNat (by omega) n2 t1.args[k] b' (o' + k * 2) wr rfl hn4 (by omega) HS3.out hx (err_at hea k hlk))
            have HX3 := hide hx
            clear hsub hx
            go_wp2_with fail
            refine HIH.out.mono ?_
            rintro e w5 ⟨r5, n5, rfl, hS5, hE5, hn5, hn6, hr5, hc5⟩
            have HS5 := hide hS5
            have HE5 := hide (HE3.out.trans hE5)
            have HP5 := hide (HP3.out.exq hE5 HSX.out)
            have HC5 := hide hc5
            clear hS5 hE5 hc5
            cases r5 with
            | true =>
              go_wp2_with fail
              refine bodyPost_ret (v := .bool true) (by simp [results, Try.results124, go_sem]) rfl ?_
              refine ⟨true, n5, rfl, HS5.out, HE5.out, by omega, by omega, fun _ => rfl, fun h5 s hs hu => ⟨fun _ => ?_, fun _ => rfl⟩⟩
              exact (HOC.out s hs).2 ⟨k, hlk, (HC5.out h5 s hs hu).1 (by simp)⟩
            | false =>
              have hn7 : 0 ≤ n5 := by
                by_cases h : n5 < 0
                · have := hr5 h; cases this
                · omega
              go_wp2_with fail
              go_roundw
              case rel => exact ⟨k + 1, n5, by omega, by go_num, HP5.out, HS5.out, HE5.out, by omega, hn7, fun s hs hu j h hj => by
                by_cases e : j = k
                · subst e
                  intro hoc
                  have := (HC5.out hn7 s hs hu).2 hoc
                  cases this
                · exact HNO.out s hs hu j h (by omega)⟩
              case measure => simp [intOf]; omega
          · clear hsub
            go_wp2_with fail
            refine bodyPost_ret (v := .bool false) (by simp [results, Try.results124, go_sem]) rfl ?_
            refine ⟨false, n2, rfl, HS3.out, HE3.out, by omega, by omega, fun h => absurd h (by omega), fun _ s hs hu => ⟨(fun h => absurd h (by simp)), fun h => ?_⟩⟩
            obtain ⟨j, hj, hoc⟩ := (HOC.out s hs).1 h
            exact absurd hoc (HNO.out s hs hu j hj (by omega))
#print axioms skHolds_any
end Go.Proofs.Ytpjdkdebjkpmmaj

/- Walks: a variable comes to stand for a term; how many knots there are, with what stands for variables. -/
namespace Go.Proofs.Ytpjdkdebjkpmmaj
open Go.RowKit
set_option linter.unusedSimpArgs false
set_option linter.unusedVariables false
set_option maxRecDepth 8000

/-- What is known behind a binding. -/
def BiP (w : World) (S q : Nat) (X : Nat → Prop) (Z : List Zp) (s : List Bd) (left : Int) (x : ByteArray) (u : Tm) (b o : Nat) (e : Ending) (w' : World) : Prop :=
  ∃ (code n : Int) (Z' : List Zp), e = .returned (.int .i64 code) ∧ SkS w' S q X Z' n ∧ (∀ z ∈ Z', errL [z.t] = 0) ∧ ExQ (SkQ S q) w w' ∧ n ≤ left ∧ -2 ≤ n ∧ (n < 0 → code ≠ 0) ∧
    ((u.name = x ∧ code = 0 ∧ Z' = Z) ∨ (u.name ≠ x ∧ code = 6 ∧ Z' = Z ∧ (0 ≤ n → occL x [onT s u])) ∨ (u.name ≠ x ∧ code = 0 ∧ Z' = Z ++ [⟨x, u, b, o⟩] ∧ ¬ occL x [onT s u]))

set_option maxHeartbeats 1000000 in
theorem skBind_any (S q : Nat) (X : Nat → Prop) (Z : List Zp) (s : List Bd) (hC : Clo Z s) (x : ByteArray) (hx : ∀ d ∈ s, d.nm ≠ x) (left : Int) (u : Tm) (b o : Nat) (w : World) (h0 : 0 ≤ left) (h1 : left ≤ 100000) (hS : SkS w S q X Z left) (hP : PX w X b o u) (he : errL [u] = 0) :
    Calls Try.prog 93 #[.pointer (some ⟨S, 0, none⟩), .string x, .pointer (some ⟨b, o, none⟩)] w fun e w' => BiP w S q X Z s left x u b o e w' := by
  have HS := hide hS
  have HP := hide hP
  have HC := hide hC
  have HZ := hide hC.errs
  have HX := hide hx
  obtain ⟨⟨a1, c1, p0, p1, hsl, hbl⟩, hXb⟩ := hP
  clear hS hC hsl hx
  cases hnm : (u.name.toList == x.toList) with
  | true =>
    have hn : u.name = x := bytes_inj (by simpa using hnm)
    go_enter Try.func93, Try.ntmps93
    go_wp2_with fail
    refine bodyPost_ret (v := .int .i64 0) (by simp [results, Try.results93, go_sem]) rfl ?_
    exact ⟨0, left, Z, rfl, HS.out, HZ.out, ExQ.refl _ _, Int.le_refl _, by omega, fun h => absurd h (by omega), Or.inl ⟨hn, rfl, rfl⟩⟩
  | false =>
    have HN : Hid (u.name ≠ x) := fun e => by rw [e] at hnm; simp at hnm
    go_enter Try.func93, Try.ntmps93
    go_wp2_with fail
    refine (skHolds_any S q X Z HZ.out x left.toNat left u b o w rfl h0 h1 HS.out HP.out he).mono ?_
    rintro e w1 ⟨r, n, rfl, hS1, hE1, hn1, hn2, hr1, hc1⟩
    have HS1 := hide hS1
    have HE1 := hide hE1
    have HC1 := hide hc1
    cases r with
    | true =>
      clear hS1 hE1 hc1
      go_wp2_with fail
      refine bodyPost_ret (v := .int .i64 6) (by simp [results, Try.results93, go_sem]) rfl ?_
      exact ⟨6, n, Z, rfl, HS1.out, HZ.out, HE1.out, by omega, hn2, fun _ => by decide, Or.inr (Or.inl ⟨HN.out, rfl, rfl, fun h => (HC1.out h s HC.out HX.out).1 (by simp)⟩)⟩
    | false =>
      have hn7 : 0 ≤ n := by
        by_cases h : n < 0
        · have := hr1 h; cases this
        · omega
      have HO : Hid (¬ occL x [onT s u]) := fun hoc => by
        have := (HC1.out hn7 s HC.out HX.out).2 hoc
        cases this
      have hg : mapGet (Z.map ptZ) x = none := by
        rcases mapGet_ptZ (Z := Z) (n := x) with ⟨hg, _⟩ | ⟨z, hz, e, _⟩
        · exact hg
        · exact absurd e (HC.out.fresh HX.out z hz)
      have s0 : w1.cell? ⟨S, 0, none⟩ = some (.map (some q)) := hS1.1.cell 0
      obtain ⟨w8, hrun, hM8, hz8, ho8, ht8, hu8, hk8⟩ := run_put (P := Try.prog) Try.underlying96 Try.underlying9 hS1.2.1 x (.pointer (some ⟨b, o, none⟩)) hg
      have hE8 : ExQ (SkQ S q) w1 w8 := ⟨ho8, ht8, hu8, by rw [hz8]; exact Nat.le_refl _, fun k hk hn => hk8 k (fun e => hn (Or.inr e))⟩
      have HE8 := hide (hE1.trans hE8)
      have HS8 : Hid (SkS w8 S q X (Z ++ [⟨x, u, b, o⟩]) n) := by
        refine ⟨?_, by rw [List.map_append]; exact hM8, fun z hz => ?_, hS1.2.2.2⟩
        · have h2 := hS1.1
          unfold Blk at h2 ⊢
          rw [hk8 S hS1.ne]; exact h2
        · rcases List.mem_append.1 hz with hz | hz
          · exact (hS1.2.2.1 z hz).exq hE8 hS1.X
          · have e : z = ⟨x, u, b, o⟩ := by simpa using hz
            subst e
            exact (HP.out.exq hE1 hS1.X).exq hE8 hS1.X
      have HZ8 : Hid (∀ z ∈ Z ++ [(⟨x, u, b, o⟩ : Zp)], errL [z.t] = 0) := fun z hz => by
        rcases List.mem_append.1 hz with hz | hz
        · exact HZ.out z hz
        · have e : z = ⟨x, u, b, o⟩ := by simpa using hz
          subst e; exact he
      clear hS1 hE1 hc1 hM8 hz8 ho8 ht8 hu8 hk8 hE8 hg
      go_wp2_with fail
      refine bodyPost_ret (v := .int .i64 0) (by simp [results, Try.results93, go_sem]) rfl ?_
      exact ⟨0, n, _, rfl, HS8.out, HZ8.out, HE8.out, by omega, hn2, fun h => absurd h (by omega), Or.inr (Or.inr ⟨HN.out, rfl, rfl, HO.out⟩)⟩

/-- What is known behind a count. -/
def CoP (w : World) (S q : Nat) (X : Nat → Prop) (Z : List Zp) (left : Int) (t : Tm) (before : Nat) (e : Ending) (w' : World) : Prop :=
  ∃ (c : Nat) (n : Int), e = .returned (.int .i64 (c : Int)) ∧ SkS w' S q X Z n ∧ ExQ (SkQ S q) w w' ∧ n ≤ left ∧ (-1 ≤ n ∨ n = left) ∧ before < c ∧ c ≤ 2001 ∧ (n < 0 → 2000 < c) ∧ ∀ s, Clo Z s → c ≤ 2000 → c = before + sizeL [onT s t]
def CoI (w : World) (S q : Nat) (X : Nat → Prop) (Z : List Zp) (left : Int) (b1 o1 : Nat) (t1 : Tm) (before : Nat) (cv i : Value) (wr : World) : Prop :=
  ∃ (k c : Nat) (n : Int), k ≤ t1.args.length ∧ i = .int .i64 (k : Int) ∧ cv = .int .i64 (c : Int) ∧ PX wr X b1 o1 t1 ∧ SkS wr S q X Z n ∧ ExQ (SkQ S q) w wr ∧ n ≤ left ∧ (-1 ≤ n ∨ n = left) ∧ before < c ∧ c ≤ 2001 ∧ (n < 0 → 2000 < c) ∧ ∀ s, Clo Z s → c ≤ 2000 → c = before + 1 + sizeL (onL s (t1.args.take k))

set_option maxHeartbeats 2000000 in
theorem skCount_any (S q : Nat) (X : Nat → Prop) (Z : List Zp) (hZ : ∀ z ∈ Z, errL [z.t] = 0) (m : Nat) : ∀ (before : Nat) (left : Int) (t : Tm) (b o : Nat) (w : World), 2001 - before = m → before ≤ 2000 → -100 ≤ left → left ≤ 100000 → SkS w S q X Z left → PX w X b o t → errL [t] = 0 →
    Calls Try.prog 94 #[.pointer (some ⟨S, 0, none⟩), .pointer (some ⟨b, o, none⟩), .int .i64 (before : Int)] w fun e w' => CoP w S q X Z left t before e w' := by
  induction m using Nat.strongRecOn with
  | _ m ih =>
    intro before left t b o w hm hbe h0 h1 hS hP he
    have IH := hide ih
    have HS := hide hS
    have HP := hide hP
    clear ih hS hP
    go_enter Try.func94, Try.ntmps94
    go_wp2_with fail
    refine (skLook_any S q X Z hZ left t b o w HS.out h0 h1 HP.out he).mono ?_
    rintro e w1 ⟨b1, o1, t1, n, rfl, hS1, hP1, hE1, hn1, hn2, he1, hc1⟩
    have HS1 := hide hS1
    have HP1 := hide hP1
    have HE1 := hide hE1
    have HC1 := hide hc1
    have HSX := hide hS1.X
    have s1 : w1.cell? ⟨S, 1, none⟩ = some (.int .i64 n) := hS1.1.cell 1
    obtain ⟨⟨a1, c1, p0, p1, hsl, hbl⟩, hXb⟩ := hP1
    have hl1 := hsl.1
    clear hS1 hE1 hc1 hsl
    by_cases hlt : n < 0
    · go_wp2_with fail
      refine bodyPost_ret (v := .int .i64 2001) (by simp [results, Try.results94, go_sem]) rfl ?_
      exact ⟨2001, n, rfl, HS1.out, HE1.out, hn1, hn2, by omega, by omega, fun _ => by omega, fun _ _ h => absurd h (by omega)⟩
    · have HFR : Hid (∀ s, Clo Z s → sizeL [onT s t] = 1 + sizeL (onL s t1.args)) := fun s hs => by
        rw [← (HC1.out s hs).1, ((HC1.out s hs).2 (by omega)).knot hs.1, size_sub]
      have hwrap : IntKind.i64.wrap ((before : Int) + 1) = (before : Int) + 1 := by rw [IntKind.wrap_i64]; omega
      have hea : errL t1.args = 0 := err_sub he1
      go_wp2_with fail
      go_loopw [7, 24] (fun cv i wr => CoI w S q X Z left b1 o1 t1 before cv i wr) (fun cv i wr => t1.args.length - (intOf i).toNat)
      case atStart => exact ⟨0, before + 1, n, Nat.zero_le _, rfl, by go_num, HP1.out, HS1.out, HE1.out, hn1, hn2, by omega, by omega, fun h => absurd h (by omega), fun s _ _ => by simp [onL, sizeL]⟩
      case round =>
        obtain ⟨k, c, n2, hk, rfl, rfl, hP3, hS3, hE3, hn3, hn4, hc3, hc4, hc5, hno⟩ := hrel
        have HP3 := hide hP3
        have HS3 := hide hS3
        have HE3 := hide hE3
        have HNO := hide hno
        obtain ⟨a', c', q1, _, hsub⟩ := hP3.sub
        clear hP3 hS3 hE3 hno p0 p1
        by_cases hlk : k < t1.args.length
        · have hk2 : (k : Int) < (t1.args.length : Int) := by omega
          by_cases hgt : 2000 < c
          · have hgt2 : (2000 : Int) < (c : Int) := by omega
            clear hsub
            go_wp2_with fail
            refine bodyPost_ret (v := .int .i64 (c : Int)) (by simp [results, Try.results94, go_sem]) rfl ?_
            exact ⟨c, n2, rfl, HS3.out, HE3.out, hn3, hn4, hc3, hc4, hc5, fun _ _ h => absurd h (by omega)⟩
          · have hgt2 : ¬ (2000 : Int) < (c : Int) := by omega
            obtain ⟨b', o', rfl, hx⟩ := hsub k hlk
            have HIH := hide (IH.out (2001 - c) (by omega) c n2 t1.args[k] b' (o' + k * 2) wr rfl (by omega) (by omega) (by omega) HS3.out hx (err_at hea k hlk))
            clear hsub hx
            go_wp2_with fail
            refine HIH.out.mono ?_
            rintro e w5 ⟨c5, n5, rfl, hS5, hE5, hn5, hn6, hc6, hc7, hc8, hc9⟩
            have HS5 := hide hS5
            have HE5 := hide (HE3.out.trans hE5)
            have HP5 := hide (HP3.out.exq hE5 HSX.out)
            have HC5 := hide hc9
            clear hS5 hE5 hc9
            go_wp2_with fail
            go_roundw
            case rel => exact ⟨k + 1, c5, n5, by omega, by go_num, rfl, HP5.out, HS5.out, HE5.out, by omega, by omega, by omega, hc7, hc8, fun s hs h => by
              have h6 := HNO.out s hs (by omega)
              have h7 := HC5.out s hs h
              rw [List.take_succ_eq_append_getElem hlk, onL_append, sizeL_append, onL_cons]
              simp only [onL]
              omega⟩
            case measure => simp [intOf]; omega
        · clear hsub
          go_wp2_with fail
          refine bodyPost_ret (v := .int .i64 (c : Int)) (by simp [results, Try.results94, go_sem]) rfl ?_
          refine ⟨c, n2, rfl, HS3.out, HE3.out, hn3, hn4, hc3, hc4, hc5, fun s hs h => ?_⟩
          have h6 := HNO.out s hs h
          rw [List.take_of_length_le (by omega)] at h6
          rw [HFR.out s hs]
          omega
#print axioms skBind_any
#print axioms skCount_any
end Go.Proofs.Ytpjdkdebjkpmmaj

/- Walks: an equation worked off, with nothing put in. -/
namespace Go.Proofs.Ytpjdkdebjkpmmaj
open Go.RowKit
set_option linter.unusedSimpArgs false
set_option linter.unusedVariables false
set_option maxRecDepth 8000

/-- What is known behind an equation. -/
def WkP (w : World) (S q : Nat) (X : Nat → Prop) (s : List Bd) (left : Int) (a b : Tm) (e : Ending) (w' : World) : Prop :=
  ∃ (code n : Int) (Z' : List Zp), e = .returned (.int .i64 code) ∧ SkS w' S q X Z' n ∧ (∀ z ∈ Z', errL [z.t] = 0) ∧ ExQ (SkQ S q) w w' ∧ n < left ∧ -2 ≤ n ∧ (n < 0 → code ≠ 0) ∧ (0 ≤ n → ∃ s', Clo Z' s' ∧ FR s [⟨a, b⟩] code s')
def WkI (w : World) (S q : Nat) (X : Nat → Prop) (s : List Bd) (left : Int) (b1 o1 b2 o2 : Nat) (a1 a2 : Tm) (i : Value) (wr : World) : Prop :=
  ∃ (k : Nat) (n : Int) (Z' : List Zp) (s' : List Bd), k ≤ a1.args.length ∧ i = .int .i64 (k : Int) ∧ PX wr X b1 o1 a1 ∧ PX wr X b2 o2 a2 ∧ SkS wr S q X Z' n ∧ ExQ (SkQ S q) w wr ∧ n < left ∧ 0 ≤ n ∧ Clo Z' s' ∧ FR s (zipP (a1.args.take k) (a2.args.take k)) 0 s'

set_option maxHeartbeats 4000000 in
theorem skWork_any (S q : Nat) (X : Nat → Prop) (m : Nat) : ∀ (left : Int) (Z : List Zp) (s : List Bd) (a b : Tm) (ba oa bb ob : Nat) (w : World), left.toNat = m → 0 ≤ left → left ≤ 100000 → Clo Z s → SkS w S q X Z left → PX w X ba oa a → PX w X bb ob b → errL [a] = 0 → errL [b] = 0 →
    Calls Try.prog 69 #[.pointer (some ⟨S, 0, none⟩), .pointer (some ⟨ba, oa, none⟩), .pointer (some ⟨bb, ob, none⟩)] w fun e w' => WkP w S q X s left a b e w' := by
  induction m using Nat.strongRecOn with
  | _ m ih =>
    intro left Z s a b ba oa bb ob w hm h0 h1 hC hS hPa hPb hea heb
    have IH := hide ih
    have HS := hide hS
    have HC := hide hC
    have HZ := hide hC.errs
    have HPA := hide hPa
    have HPB := hide hPb
    clear ih hS hPa hPb hC
    go_enter Try.func69, Try.ntmps69
    go_wp2_with fail
    refine (skLook_any S q X Z HZ.out left a ba oa w HS.out (by omega) h1 HPA.out hea).mono ?_
    rintro e w1 ⟨b1, o1, a1, n1, rfl, hS1, hP1, hE1, hn1, hn2, he1, hc1⟩
    have HS1 := hide hS1
    have HP1 := hide hP1
    have HE1 := hide hE1
    have HC1 := hide (hc1 s HC.out)
    have HPB1 := hide (HPB.out.exq hE1 hS1.X)
    clear hS1 hP1 hE1 hc1
    go_wp2_with fail
    refine (skLook_any S q X Z HZ.out n1 b bb ob w1 HS1.out (by omega) (by omega) HPB1.out heb).mono ?_
    rintro e w2 ⟨b2, o2, a2, n2, rfl, hS2, hP2, hE2, hn3, hn4, he2, hc2⟩
    have HC2 := hide (hc2 s HC.out)
    have hE3 : ExQ (SkQ S q) w2 (w2.setCell ⟨S, 1, none⟩ (.int .i64 (n2 - 1))) := (ExQ.refl (SkQ S q) w2).set (Or.inl rfl) 1 _
    have HE3 := hide ((HE1.out.trans hE2).trans hE3)
    have HS3 := hide (hS2.spend (n2 - 1))
    have HPA3 := hide ((HP1.out.exq hE2 hS2.X).exq hE3 hS2.X)
    have HPB3 := hide (hP2.exq hE3 hS2.X)
    have HSX := hide hS2.X
    have s1 : w2.cell? ⟨S, 1, none⟩ = some (.int .i64 n2) := hS2.1.cell 1
    have f1 : w2.frozen? ⟨S, 1, none⟩ = false := hS2.1.frozen 1
    have hwrap : IntKind.i64.wrap (n2 - 1) = n2 - 1 := by rw [IntKind.wrap_i64]; omega
    obtain ⟨⟨x1, c1, p0, p1, hsl1, hbl1⟩, hXb1⟩ := HPA3.out
    obtain ⟨⟨x2, c2, r0, r1, hsl2, hbl2⟩, hXb2⟩ := HPB3.out
    have hl1 := hsl1.1
    have hl2 := hsl2.1
    clear hS2 hP2 hE2 hc2 hE3 hsl1 hsl2
    by_cases hlt : n2 - 1 < 0
    · go_wp2_with fail
      refine bodyPost_ret (v := .int .i64 8) (by simp [results, Try.results69, go_sem]) rfl ?_
      exact ⟨8, n2 - 1, Z, rfl, HS3.out, HZ.out, HE3.out, by omega, by omega, fun _ => by decide, fun h => absurd h (by omega)⟩
    · have HF1 : Hid (Free s a1) := HC1.out.2 (by omega)
      have HF2 : Hid (Free s a2) := HC2.out.2 (by omega)
      have hs : OkS s := HC.out.1
      have HSS := hide hs
      clear hs
      cases hv1 : varB a1.name with
      | true =>
        go_wp2_with (go_at_call 55; refine (isVariable_all _ _).mono ?_; rintro e w9 ⟨rfl, rfl⟩; rw [hv1])
        refine (skBind_any S q X Z s HC.out a1.name (HF1.out.2 hv1) (n2 - 1) a2 b2 o2 _ (by omega) (by omega) HS3.out HPB3.out he2).mono ?_
        rintro e w5 ⟨code, n5, Z5, rfl, hS5, hZ5, hE5, hn5, hn6, hc5, hcs⟩
        have HS5 := hide hS5
        have HZ5 := hide hZ5
        have HE5 := hide (HE3.out.trans hE5)
        clear hS5 hZ5 hE5
        go_wp2_with fail
        refine bodyPost_ret (v := .int .i64 code) (by simp [results, Try.results69, go_sem]) rfl ?_
        refine ⟨code, n5, Z5, rfl, HS5.out, HZ5.out, HE5.out, by omega, hn6, hc5, fun h5 => ?_⟩
        rcases hcs with ⟨g1, rfl, rfl⟩ | ⟨g1, rfl, rfl, g2⟩ | ⟨g1, rfl, rfl, g2⟩
        · exact ⟨s, HC.out, fr_same HSS.out HC1.out.1 HC2.out.1 HF1.out HF2.out hv1 g1⟩
        · exact ⟨s, HC.out, fr_occurs HSS.out HC1.out.1 HC2.out.1 HF1.out HF2.out (Or.inl ⟨hv1, g1, g2 h5⟩)⟩
        · exact ⟨_, HC.out.add hv1 (HF1.out.2 hv1) he2 g2 b2 o2, fr_bind HSS.out HC1.out.1 HC2.out.1 HF1.out HF2.out (Or.inl ⟨hv1, g1, rfl, rfl⟩) g2⟩
      | false =>
        cases hv2 : varB a2.name with
        | true =>
          go_wp2_with (go_at_call 55; refine (isVariable_all _ _).mono ?_; rintro e w9 ⟨rfl, rfl⟩; first | rw [hv1] | rw [hv2])
          refine (skBind_any S q X Z s HC.out a2.name (HF2.out.2 hv2) (n2 - 1) a1 b1 o1 _ (by omega) (by omega) HS3.out HPA3.out he1).mono ?_
          rintro e w5 ⟨code, n5, Z5, rfl, hS5, hZ5, hE5, hn5, hn6, hc5, hcs⟩
          have HS5 := hide hS5
          have HZ5 := hide hZ5
          have HE5 := hide (HE3.out.trans hE5)
          clear hS5 hZ5 hE5
          go_wp2_with fail
          refine bodyPost_ret (v := .int .i64 code) (by simp [results, Try.results69, go_sem]) rfl ?_
          refine ⟨code, n5, Z5, rfl, HS5.out, HZ5.out, HE5.out, by omega, hn6, hc5, fun h5 => ?_⟩
          rcases hcs with ⟨g1, rfl, rfl⟩ | ⟨g1, rfl, rfl, g2⟩ | ⟨g1, rfl, rfl, g2⟩
          · rw [g1, hv2] at hv1; cases hv1
          · exact ⟨s, HC.out, fr_occurs HSS.out HC1.out.1 HC2.out.1 HF1.out HF2.out (Or.inr ⟨hv1, hv2, g2 h5⟩)⟩
          · exact ⟨_, HC.out.add hv2 (HF2.out.2 hv2) he1 g2 b1 o1, fr_bind HSS.out HC1.out.1 HC2.out.1 HF1.out HF2.out (Or.inr ⟨hv1, hv2, rfl, rfl⟩) g2⟩
        | false =>
          have HS0 := hide (And.intro p0 (And.intro p1 (And.intro r0 r1)))
          cases hnn : (a1.name.toList == a2.name.toList) with
          | false =>
            have hne : a1.name ≠ a2.name := fun e => by rw [e] at hnn; simp at hnn
            go_wp2_with (go_at_call 55; refine (isVariable_all _ _).mono ?_; rintro e w9 ⟨rfl, rfl⟩; first | rw [hv1] | rw [hv2])
            generalize w2.setCell ⟨S, 1, none⟩ (.int .i64 (n2 - 1)) = w3 at *
            refine wp_region_held_drew (S := (fun w' => w'.cell? ⟨b1, o1, none⟩ = some (.string a1.name) ∧ w'.cell? ⟨b1, o1 + 1, none⟩ = some (.slice x1 a1.args.length c1) ∧ w'.cell? ⟨b2, o2, none⟩ = some (.string a2.name) ∧ w'.cell? ⟨b2, o2 + 1, none⟩ = some (.slice x2 a2.args.length c2))) (by kernel_rfl) HS0.out (fun hHeld => ?_)
            refine wpAnyH_take (i := 0) (v := ?_) rfl (by kernel_rfl) (by kernel_rfl) (by kernel_rfl) (fun _ _ _ h => h) (Or.inl ⟨by rfl, ?_⟩) (by assumption) ?_
            rotate_left
            · intro w' hSw
              obtain ⟨k1, k2, k3, k4⟩ := hSw
              go_simp <;> with_reducible rfl
            try simp only [Act.put, List.setIfInBounds_toArray, List.set_cons_zero, List.set_cons_succ, List.getElem_toArray, List.getElem_cons_succ, List.getElem_cons_zero]
            refine wpAnyH_take (i := 1) (v := ?_) rfl (by kernel_rfl) (by kernel_rfl) (by kernel_rfl) (fun _ _ _ h => h) (Or.inl ⟨by rfl, ?_⟩) (by assumption) ?_
            rotate_left
            · intro w' hSw
              obtain ⟨k1, k2, k3, k4⟩ := hSw
              go_simp <;> with_reducible rfl
            try simp only [Act.put, List.setIfInBounds_toArray, List.set_cons_zero, List.set_cons_succ, List.getElem_toArray, List.getElem_cons_succ, List.getElem_cons_zero]
            refine wpAnyH_take (i := 2) (v := ?_) rfl (by kernel_rfl) (by kernel_rfl) (by kernel_rfl) (fun _ _ _ h => h) (Or.inl ⟨by rfl, ?_⟩) (by assumption) ?_
            rotate_left
            · intro w' hSw
              obtain ⟨k1, k2, k3, k4⟩ := hSw
              go_simp <;> with_reducible rfl
            try simp only [Act.put, List.setIfInBounds_toArray, List.set_cons_zero, List.set_cons_succ, List.getElem_toArray, List.getElem_cons_succ, List.getElem_cons_zero]
            refine wpAnyH_take (i := 3) (v := ?_) rfl (by kernel_rfl) (by kernel_rfl) (by kernel_rfl) (fun _ _ _ h => h) (Or.inl ⟨by rfl, ?_⟩) (by assumption) ?_
            rotate_left
            · intro w' hSw
              obtain ⟨k1, k2, k3, k4⟩ := hSw
              go_simp <;> with_reducible rfl
            try simp only [Act.put, List.setIfInBounds_toArray, List.set_cons_zero, List.set_cons_succ, List.getElem_toArray, List.getElem_cons_succ, List.getElem_cons_zero]
            refine wpAnyH_take (i := 4) (v := ?_) rfl (by kernel_rfl) (by kernel_rfl) (by kernel_rfl) (fun _ _ _ h => h) (Or.inl ⟨by rfl, ?_⟩) (by assumption) ?_
            rotate_left
            · intro w' hSw
              obtain ⟨k1, k2, k3, k4⟩ := hSw
              go_simp <;> with_reducible rfl
            try simp only [Act.put, List.setIfInBounds_toArray, List.set_cons_zero, List.set_cons_succ, List.getElem_toArray, List.getElem_cons_succ, List.getElem_cons_zero]
            refine wpAnyH_take (i := 5) (v := ?_) rfl (by kernel_rfl) (by kernel_rfl) (by kernel_rfl) (fun _ _ _ h => h) (Or.inl ⟨by rfl, ?_⟩) (by assumption) ?_
            rotate_left
            · intro w' hSw
              obtain ⟨k1, k2, k3, k4⟩ := hSw
              go_simp <;> with_reducible rfl
            try simp only [Act.put, List.setIfInBounds_toArray, List.set_cons_zero, List.set_cons_succ, List.getElem_toArray, List.getElem_cons_succ, List.getElem_cons_zero]
            refine wpAnyH_take (i := 6) (v := ?_) rfl (by kernel_rfl) (by kernel_rfl) (by kernel_rfl) (fun _ _ _ h => h) (Or.inl ⟨by rfl, ?_⟩) (by assumption) ?_
            rotate_left
            · intro w' hSw
              obtain ⟨k1, k2, k3, k4⟩ := hSw
              go_simp <;> with_reducible rfl
            try simp only [Act.put, List.setIfInBounds_toArray, List.set_cons_zero, List.set_cons_succ, List.getElem_toArray, List.getElem_cons_succ, List.getElem_cons_zero]
            refine wpAnyH_take (i := 7) (v := ?_) rfl (by kernel_rfl) (by kernel_rfl) (by kernel_rfl) (fun _ _ _ h => h) (Or.inl ⟨by rfl, ?_⟩) (by assumption) ?_
            rotate_left
            · intro w' hSw
              obtain ⟨k1, k2, k3, k4⟩ := hSw
              go_simp <;> with_reducible rfl
            try simp only [Act.put, List.setIfInBounds_toArray, List.set_cons_zero, List.set_cons_succ, List.getElem_toArray, List.getElem_cons_succ, List.getElem_cons_zero]
            refine wpAnyH_take (i := 8) (v := ?_) rfl (by kernel_rfl) (by kernel_rfl) (by kernel_rfl) (fun _ _ _ h => h) (Or.inl ⟨by rfl, ?_⟩) (by assumption) ?_
            rotate_left
            · intro w' hSw
              obtain ⟨k1, k2, k3, k4⟩ := hSw
              go_simp <;> with_reducible rfl
            try simp only [Act.put, List.setIfInBounds_toArray, List.set_cons_zero, List.set_cons_succ, List.getElem_toArray, List.getElem_cons_succ, List.getElem_cons_zero]
            refine wpAnyH_take (i := 9) (v := ?_) rfl (by kernel_rfl) (by kernel_rfl) (by kernel_rfl) (fun _ _ _ h => h) (Or.inl ⟨by rfl, ?_⟩) (by assumption) ?_
            rotate_left
            · intro w' hSw
              obtain ⟨k1, k2, k3, k4⟩ := hSw
              go_simp <;> with_reducible rfl
            try simp only [Act.put, List.setIfInBounds_toArray, List.set_cons_zero, List.set_cons_succ, List.getElem_toArray, List.getElem_cons_succ, List.getElem_cons_zero]
            refine wpAnyH_take (i := 10) (v := undef) rfl (by kernel_rfl) (by kernel_rfl) (by kernel_rfl) (fun _ _ _ h => h) (Or.inr ⟨by rfl, rfl⟩) (by assumption) ?_
            try simp only [Act.put, List.setIfInBounds_toArray, List.set_cons_zero, List.set_cons_succ, List.getElem_toArray, List.getElem_cons_succ, List.getElem_cons_zero]
            refine wpAnyH_take (i := 11) (v := undef) rfl (by kernel_rfl) (by kernel_rfl) (by kernel_rfl) (fun _ _ _ h => h) (Or.inr ⟨by rfl, rfl⟩) (by assumption) ?_
            try simp only [Act.put, List.setIfInBounds_toArray, List.set_cons_zero, List.set_cons_succ, List.getElem_toArray, List.getElem_cons_succ, List.getElem_cons_zero]
            refine wpAnyH_take (i := 12) (v := undef) rfl (by kernel_rfl) (by kernel_rfl) (by kernel_rfl) (fun _ _ _ h => h) (Or.inr ⟨by rfl, rfl⟩) (by assumption) ?_
            try simp only [Act.put, List.setIfInBounds_toArray, List.set_cons_zero, List.set_cons_succ, List.getElem_toArray, List.getElem_cons_succ, List.getElem_cons_zero]
            refine wpAnyH_take (i := 13) (v := undef) rfl (by kernel_rfl) (by kernel_rfl) (by kernel_rfl) (fun _ _ _ h => h) (Or.inr ⟨by rfl, rfl⟩) (by assumption) ?_
            try simp only [Act.put, List.setIfInBounds_toArray, List.set_cons_zero, List.set_cons_succ, List.getElem_toArray, List.getElem_cons_succ, List.getElem_cons_zero]
            refine wpAnyH_take (i := 14) (v := undef) rfl (by kernel_rfl) (by kernel_rfl) (by kernel_rfl) (fun _ _ _ h => h) (Or.inr ⟨by rfl, rfl⟩) (by assumption) ?_
            try simp only [Act.put, List.setIfInBounds_toArray, List.set_cons_zero, List.set_cons_succ, List.getElem_toArray, List.getElem_cons_succ, List.getElem_cons_zero]
            refine wpAnyH_take (i := 15) (v := undef) rfl (by kernel_rfl) (by kernel_rfl) (by kernel_rfl) (fun _ _ _ h => h) (Or.inr ⟨by rfl, rfl⟩) (by assumption) ?_
            try simp only [Act.put, List.setIfInBounds_toArray, List.set_cons_zero, List.set_cons_succ, List.getElem_toArray, List.getElem_cons_succ, List.getElem_cons_zero]
            refine wpAnyH_take (i := 16) (v := undef) rfl (by kernel_rfl) (by kernel_rfl) (by kernel_rfl) (fun _ _ _ h => h) (Or.inr ⟨by rfl, rfl⟩) (by assumption) ?_
            try simp only [Act.put, List.setIfInBounds_toArray, List.set_cons_zero, List.set_cons_succ, List.getElem_toArray, List.getElem_cons_succ, List.getElem_cons_zero]
            refine wpAnyH_take (i := 17) (v := undef) rfl (by kernel_rfl) (by kernel_rfl) (by kernel_rfl) (fun _ _ _ h => h) (Or.inr ⟨by rfl, rfl⟩) (by assumption) ?_
            try simp only [Act.put, List.setIfInBounds_toArray, List.set_cons_zero, List.set_cons_succ, List.getElem_toArray, List.getElem_cons_succ, List.getElem_cons_zero]
            refine wpAnyH_take (i := 18) (v := undef) rfl (by kernel_rfl) (by kernel_rfl) (by kernel_rfl) (fun _ _ _ h => h) (Or.inr ⟨by rfl, rfl⟩) (by assumption) ?_
            try simp only [Act.put, List.setIfInBounds_toArray, List.set_cons_zero, List.set_cons_succ, List.getElem_toArray, List.getElem_cons_succ, List.getElem_cons_zero]
            refine wpAnyH_take (i := 19) (v := undef) rfl (by kernel_rfl) (by kernel_rfl) (by kernel_rfl) (fun _ _ _ h => h) (Or.inr ⟨by rfl, rfl⟩) (by assumption) ?_
            try simp only [Act.put, List.setIfInBounds_toArray, List.set_cons_zero, List.set_cons_succ, List.getElem_toArray, List.getElem_cons_succ, List.getElem_cons_zero]
            refine wpAnyH_take (i := 20) (v := undef) rfl (by kernel_rfl) (by kernel_rfl) (by kernel_rfl) (fun _ _ _ h => h) (Or.inr ⟨by rfl, rfl⟩) (by assumption) ?_
            try simp only [Act.put, List.setIfInBounds_toArray, List.set_cons_zero, List.set_cons_succ, List.getElem_toArray, List.getElem_cons_succ, List.getElem_cons_zero]
            refine wpAnyH_take (i := 21) (v := ?_) rfl (by kernel_rfl) (by kernel_rfl) (by kernel_rfl) (fun _ _ _ h => h) (Or.inl ⟨by rfl, ?_⟩) (by assumption) ?_
            rotate_left
            · intro w' hSw
              obtain ⟨k1, k2, k3, k4⟩ := hSw
              go_simp <;> with_reducible rfl
            try simp only [Act.put, List.setIfInBounds_toArray, List.set_cons_zero, List.set_cons_succ, List.getElem_toArray, List.getElem_cons_succ, List.getElem_cons_zero]
            refine wpAnyH_take (i := 22) (v := ?_) rfl (by kernel_rfl) (by kernel_rfl) (by kernel_rfl) (fun _ _ _ h => h) (Or.inl ⟨by rfl, ?_⟩) (by assumption) ?_
            rotate_left
            · intro w' hSw
              obtain ⟨k1, k2, k3, k4⟩ := hSw
              go_simp <;> with_reducible rfl
            try simp only [Act.put, List.setIfInBounds_toArray, List.set_cons_zero, List.set_cons_succ, List.getElem_toArray, List.getElem_cons_succ, List.getElem_cons_zero]
            refine wpAnyH_done (by kernel_rfl) ?_ _
            go_wp2_with fail
            refine bodyPost_ret (v := .int .i64 5) (by simp [results, Try.results69, go_sem]) rfl ?_
            exact ⟨5, n2 - 1, Z, rfl, HS3.out.later ((Below.refl _ _).drew), HZ.out, HE3.out.drew, by omega, by omega, fun _ => by decide, fun _ => ⟨s, HC.out, fr_clash HSS.out HC1.out.1 HC2.out.1 hv1 hv2 (fun h => hne h.1)⟩⟩
          | true =>
            have hne : a1.name = a2.name := bytes_inj (by simpa using hnn)
            by_cases hm : a1.args.length = a2.args.length
            case neg =>
              have hm2 : ((a1.args.length : Int) == (a2.args.length : Int)) = false := beq_eq_false_iff_ne.2 (by omega)
              have hm3 : ((a1.args.length : Int) != (a2.args.length : Int)) = true := by simp [bne, hm2]
              have HM := hide hm
              clear hm
              go_wp2_with (go_at_call 55; refine (isVariable_all _ _).mono ?_; rintro e w9 ⟨rfl, rfl⟩; first | rw [hv1] | rw [hv2])
              generalize w2.setCell ⟨S, 1, none⟩ (.int .i64 (n2 - 1)) = w3 at *
              go_region_held3 (fun w' => w'.cell? ⟨b1, o1, none⟩ = some (.string a1.name) ∧ w'.cell? ⟨b1, o1 + 1, none⟩ = some (.slice x1 a1.args.length c1) ∧ w'.cell? ⟨b2, o2, none⟩ = some (.string a2.name) ∧ w'.cell? ⟨b2, o2 + 1, none⟩ = some (.slice x2 a2.args.length c2)) (first | exact HS0.out | go_keep) (fail)
              go_wp2_with fail
              refine bodyPost_ret (v := .int .i64 5) (by simp [results, Try.results69, go_sem]) rfl ?_
              exact ⟨5, n2 - 1, Z, rfl, HS3.out.later ((Below.refl _ _).drew), HZ.out, HE3.out.drew, by omega, by omega, fun _ => by decide, fun _ => ⟨s, HC.out, fr_clash HSS.out HC1.out.1 HC2.out.1 hv1 hv2 (fun h => HM.out h.2)⟩⟩
            case pos =>
              have HLM := hide hm
              rw [← hm] at r1 hl2 HS0
              clear hm
              go_wp2_with (go_at_call 55; refine (isVariable_all _ _).mono ?_; rintro e w9 ⟨rfl, rfl⟩; first | rw [hv1] | rw [hv2])
              generalize w2.setCell ⟨S, 1, none⟩ (.int .i64 (n2 - 1)) = w3 at *
              go_region_held3 (fun w' => w'.cell? ⟨b1, o1, none⟩ = some (.string a1.name) ∧ w'.cell? ⟨b1, o1 + 1, none⟩ = some (.slice x1 a1.args.length c1) ∧ w'.cell? ⟨b2, o2, none⟩ = some (.string a2.name) ∧ w'.cell? ⟨b2, o2 + 1, none⟩ = some (.slice x2 a1.args.length c2)) (first | exact HS0.out | go_keep) (fail)
              have HEA := hide (err_sub he1)
              have HEB := hide (err_sub he2)
              go_wp2_with fail
              go_loopw [82] (fun i wr => WkI w S q X s left b1 o1 b2 o2 a1 a2 i wr) (fun i wr => a1.args.length - (intOf i).toNat)
              case atStart => exact ⟨0, n2 - 1, Z, s, Nat.zero_le _, rfl, HPA3.out.exq ((ExQ.refl (SkQ S q) _).drew) HSX.out, HPB3.out.exq ((ExQ.refl (SkQ S q) _).drew) HSX.out, HS3.out.later ((Below.refl _ _).drew), HE3.out.drew, by omega, by omega, HC.out, by simpa [zipP] using FR.done s⟩
              case round =>
                obtain ⟨k, n3, Z3, s3, hk, rfl, hA3, hB3, hS4, hE4, hn5, hn6, hC3, hF3⟩ := hrel
                have HA4 := hide hA3
                have HB4 := hide hB3
                have HS4 := hide hS4
                have HE4 := hide hE4
                have HC4 := hide hC3
                have HF4 := hide hF3
                obtain ⟨y1, d1, q1, _, hsub1⟩ := hA3.sub
                obtain ⟨y2, d2, q2, _, hsub2⟩ := hB3.sub
                rw [← HLM.out] at q2
                have hlb1 := hA3.1.lt
                have hlb2 := hB3.1.lt
                have hXb1' := hA3.2
                have hXb2' := hB3.2
                clear hA3 hB3 hS4 hE4 hC3 hF3 p0 p1 r0 r1 HS0
                by_cases hlk : k < a1.args.length
                · have hltm : k < a2.args.length := by have := HLM.out; omega
                  have hk2 : (k : Int) < (a1.args.length : Int) := by omega
                  obtain ⟨b1', o1', rfl, hx1⟩ := hsub1 k hlk
                  obtain ⟨b2', o2', rfl, hx2⟩ := hsub2 k hltm
                  have HSq := hide (And.intro q1 q2)
                  have hD : Below wr.heap.size wr wr.drew := (Below.refl _ _).drew
                  have HIH := hide (IH.out n3.toNat (by omega) n3 Z3 s3 a1.args[k] a2.args[k] b1' (o1' + k * 2) b2' (o2' + k * 2) wr.drew rfl hn6 (by omega) HC4.out (HS4.out.later hD) (hx1.exq (ExQ.ofBelow (Q := SkQ S q) hD) HSX.out) (hx2.exq (ExQ.ofBelow (Q := SkQ S q) hD) HSX.out) (err_at HEA.out k hlk) (err_at HEB.out k hltm))
                  have HKP : Hid (∀ w5, ExQ (SkQ S q) wr.drew w5 → w5.cell? ⟨b1, o1 + 1, none⟩ = some (.slice (some ⟨b1', o1', none⟩) a1.args.length d1) ∧ w5.cell? ⟨b2, o2 + 1, none⟩ = some (.slice (some ⟨b2', o2', none⟩) a1.args.length d2)) := fun w5 h5 => ⟨(World.cell?_of_block (h5.block b1 hlb1 (HSX.out _ hXb1'))).trans HSq.out.1, (World.cell?_of_block (h5.block b2 hlb2 (HSX.out _ hXb2'))).trans HSq.out.2⟩
                  clear hsub1 hsub2 hx1 hx2 hD
                  go_wp2_with fail
                  go_region_held3 (fun w' => w'.cell? ⟨b1, o1 + 1, none⟩ = some (.slice (some ⟨b1', o1', none⟩) a1.args.length d1) ∧ w'.cell? ⟨b2, o2 + 1, none⟩ = some (.slice (some ⟨b2', o2', none⟩) a1.args.length d2)) (first | exact HSq.out | exact hS5' | go_keep)
                    ((go_at_call 69; refine HIH.out.mono ?_; rintro e w5 ⟨code, n5, Z5, rfl, hS5, hZ5, hE5, hn7, hn8, hc5, hr5⟩; have hS5' := HKP.out w5 hE5))
                  have HS5 := hide hS5
                  have HZ5 := hide hZ5
                  have HE5 := hide ((HE4.out.drew).trans hE5)
                  have HA5 := hide ((HA4.out.exq ((ExQ.refl (SkQ S q) _).drew) HSX.out).exq hE5 HSX.out)
                  have HB5 := hide ((HB4.out.exq ((ExQ.refl (SkQ S q) _).drew) HSX.out).exq hE5 HSX.out)
                  have HR5 := hide hr5
                  clear hS5 hZ5 hE5 hr5 hS5'
                  by_cases hcd : code = 0
                  · subst hcd
                    have hn9 : 0 ≤ n5 := by
                      by_cases h : n5 < 0
                      · exact absurd rfl (hc5 h)
                      · omega
                    obtain ⟨s5, hC5, hF5⟩ := HR5.out hn9
                    have HC5 := hide hC5
                    have HF5 := hide (fr_next hlk hltm HF4.out hF5)
                    clear hC5 hF5
                    go_wp2_with fail
                    go_roundw
                    case rel => exact ⟨k + 1, n5, Z5, s5, by omega, by go_num, HA5.out, HB5.out, HS5.out, HE5.out, by omega, hn9, HC5.out, HF5.out⟩
                    case measure => simp [intOf]; omega
                  · have hcd2 : (code == 0) = false := beq_eq_false_iff_ne.2 hcd
                    have hcd3 : (code != 0) = true := by simp [bne, hcd2]
                    have HCD := hide hcd
                    go_wp2_with fail
                    refine bodyPost_ret (v := .int .i64 code) (by simp [results, Try.results69, go_sem]) rfl ?_
                    refine ⟨code, n5, Z5, rfl, HS5.out, HZ5.out, HE5.out, by omega, hn8, fun _ => HCD.out, fun h5 => ?_⟩
                    obtain ⟨s5, hC5, hF5⟩ := HR5.out h5
                    exact ⟨s5, hC5, fr_deep HSS.out HC1.out.1 HC2.out.1 he1 he2 hv1 hv2 hne HLM.out (fr_fail (k + 1) HCD.out (fr_next hlk hltm HF4.out hF5))⟩
                · clear hsub1 hsub2
                  go_wp2_with fail
                  refine bodyPost_ret (v := .int .i64 0) (by simp [results, Try.results69, go_sem]) rfl ?_
                  refine ⟨0, n3, Z3, rfl, HS4.out, HC4.out.errs, HE4.out, by omega, by omega, fun h => absurd h (by omega), fun _ => ⟨s3, HC4.out, fr_deep HSS.out HC1.out.1 HC2.out.1 he1 he2 hv1 hv2 hne HLM.out ?_⟩⟩
                  have h6 := HF4.out
                  rwa [List.take_of_length_le (by omega), List.take_of_length_le (by have := HLM.out; omega)] at h6
#print axioms skWork_any
end Go.Proofs.Ytpjdkdebjkpmmaj


/- Walks: pairs of which nothing is said; whether pairs may be. -/
namespace Go.Proofs.Ytpjdkdebjkpmmaj
open Go.RowKit
set_option linter.unusedSimpArgs false
set_option linter.unusedVariables false
set_option maxRecDepth 8000

def hugeQ1 (p : Pr) : Bool := decide (3000 < sizeL [p.l]) || decide (3000 < sizeL [p.r])
def hugeQL (l : List Pr) : Bool := l.any hugeQ1
def hugeQ (ls : List Pr) : Bool := hugeQL ls || decide (100 < ls.length)
theorem hugeQL_take {l : List Pr} {k : Nat} (h : k < l.length) : hugeQL (l.take (k + 1)) = (hugeQL (l.take k) || hugeQ1 l[k]) := by
  unfold hugeQL; rw [List.take_succ_eq_append_getElem h, List.any_append]; simp
theorem hugeQL_yes {l : List Pr} {k : Nat} (h : k < l.length) (h0 : hugeQ1 l[k] = true) : hugeQ l = true := by
  have e : hugeQL l = true := by
    unfold hugeQL
    rw [List.any_eq_true]
    exact ⟨l[k], List.getElem_mem h, h0⟩
  unfold hugeQ
  rw [e]; rfl
theorem hugeQ_no {ls : List Pr} (h : hugeQ ls = false) : ls.length ≤ 100 ∧ ∀ d ∈ ls, sizeL [d.l] ≤ 3000 ∧ sizeL [d.r] ≤ 3000 := by
  unfold hugeQ hugeQL hugeQ1 at h
  simp only [Bool.or_eq_false_iff, List.any_eq_false, decide_eq_true_eq, decide_eq_false_iff_not, Bool.or_eq_true] at h
  exact ⟨by omega, fun d hd => by have := h.1 d hd; omega⟩
def HqInv (ls : List Pr) (w : World) (v : Value) (wr : World) : Prop := ∃ k : Nat, v = .int .i64 (k : Int) ∧ k ≤ ls.length ∧ hugeQL (ls.take k) = false ∧ Below w.heap.size w wr

def PmInv (ls : List Pr) (w : World) (v : Value) (wr : World) : Prop := ∃ k : Nat, v = .int .i64 (k : Int) ∧ k ≤ ls.length ∧ pmT ls k = 0 ∧ Below w.heap.size w wr

theorem twoE_fst {a b : Tm} (h : mayE a ≠ 0) : twoE a b = mayE a := by unfold twoE; rw [if_neg h]
theorem twoE_snd {a b : Tm} (h : mayE a = 0) : twoE a b = mayE b := by unfold twoE; rw [if_pos h]
set_option maxHeartbeats 1000000 in
theorem ucheck_any (ls : List Pr) (u : Value) (w : World) (X : Nat → Prop) (hu : QV w X u ls) :
    Calls Try.prog 43 #[u] w fun e w' => e = .returned (.int .i64 (pairsE ls)) ∧ Below w.heap.size w w' := by
  have HU := hide (hu.mono (Y := fun b => X b ∧ b < w.heap.size) fun b h1 h2 => ⟨h1, h2⟩)
  obtain ⟨a, c, rfl, hl, hu2⟩ := hu
  clear hu2
  go_enter Try.func43, Try.ntmps43
  by_cases h40 : 40 < ls.length
  · go_wp2_with fail
    go_ret
    exact ⟨ret_int (by unfold pairsE; rw [if_pos h40]), Below.refl _ _⟩
  · go_wp2_with fail
    go_loopw [12] (fun v wr => PmInv ls w v wr) (fun v wr => ls.length - (intOf v).toNat)
    case atStart => exact ⟨0, rfl, Nat.zero_le _, rfl, Below.refl _ _⟩
    case round =>
      obtain ⟨k, rfl, hk, hT, hb⟩ := hrel
      have HB := hide hb
      have HT := hide hT
      clear hT
      by_cases hlt : k < ls.length
      · obtain ⟨b, o, a1, c1, a2, c2, rfl, d0, d1, d2, d3, hs1, hs2⟩ := (HU.out.later hb).get k hlt
        have hlt2 : (k : Int) < (ls.length : Int) := by omega
        have hbA : Below wr.heap.size wr (wr.alloc (.cells #[.string ls[k].l.name, .slice a1 ls[k].l.args.length c1, .string ls[k].r.name, .slice a2 ls[k].r.args.length c2] 49)) := (Below.refl _ _).alloc (Nat.le_refl _) _
        have HX1 := hide (hs1.later hbA)
        have HX2 := hide (hs2.later hbA)
        have P1 := hide (Blk.new wr #[.string ls[k].l.name, .slice a1 ls[k].l.args.length c1, .string ls[k].r.name, .slice a2 ls[k].r.args.length c2] 49)
        have HB1 := hide (hb.trans (hbA.mono hb.size))
        have HY := hide (pmT_err hlt h40 HT.out)
        have HN := hide (pmT_next hlt HT.out)
        clear hs1 hs2 hb hbA
        generalize ls[k] = d at *
        go_wp2_with fail
        generalize wr.alloc (.cells #[.string d.l.name, .slice a1 d.l.args.length c1, .string d.r.name, .slice a2 d.r.args.length c2] 49) = w1 at *
        generalize wr.heap.size = P at *
        refine (check_any d.l _ _ _ ⟨a1, c1, rfl, HX1.out⟩).mono ?_
        rintro e w2 ⟨rfl, hb2⟩
        have HX3 := hide (HX2.out.later hb2)
        have HB2 := hide (HB1.out.trans (hb2.mono HB1.out.size))
        have p2 := cell_later hb2 (P1.out.cell 2)
        have p3 := cell_later hb2 (P1.out.cell 3)
        clear hb2
        by_cases hm : mayE d.l = 0
        · have HM := hide (twoE_snd (b := d.r) hm)
          rw [hm]
          clear hm
          go_wp2_with fail
          refine (check_any d.r _ _ _ ⟨a2, c2, rfl, HX3.out⟩).mono ?_
          rintro e w3 ⟨rfl, hb3⟩
          have HB3 := hide (HB2.out.trans (hb3.mono HB2.out.size))
          clear hb3
          by_cases hm : mayE d.r = 0
          · have HF : Hid (pmT ls (k + 1) = 0) := by unfold Hid; rw [HN.out, HM.out, hm]
            rw [hm]
            clear hm
            go_wp2_with fail
            go_roundw
            case rel => exact ⟨k + 1, by go_num, by omega, HF.out, HB3.out⟩
            case measure => simp [intOf]; omega
          · have hm2 : (mayE d.r == 0) = false := by simpa using hm
            have HF : Hid (pairsE ls = mayE d.r) := by unfold Hid; rw [HY.out (by rw [HM.out]; exact hm), HM.out]
            clear hm
            go_wp2_with fail
            go_ret
            exact ⟨ret_int HF.out.symm, HB3.out⟩
        · have hm2 : (mayE d.l == 0) = false := by simpa using hm
          have HF : Hid (pairsE ls = mayE d.l) := by unfold Hid; rw [HY.out (by rw [twoE_fst hm]; exact hm), twoE_fst hm]
          clear hm
          go_wp2_with fail
          go_ret
          exact ⟨ret_int HF.out.symm, HB2.out⟩
      · have hkl : k = ls.length := by omega
        go_wp2_with fail
        go_ret
        exact ⟨ret_int (by unfold pairsE; rw [if_neg h40, ← hkl]; exact HT.out.symm), HB.out⟩
#print axioms ucheck_any
end Go.Proofs.Ytpjdkdebjkpmmaj

/- Walks: is all small, with what stands for variables? And what refuses equations soon. -/
namespace Go.Proofs.Ytpjdkdebjkpmmaj
open Go.RowKit
set_option linter.unusedSimpArgs false
set_option linter.unusedVariables false
set_option maxRecDepth 8000

theorem QV.at {w : World} {X : Nat → Prop} {a : Option Addr} {n c : Nat} {l : List Pr} (h : QV w X (.slice a n c) l) (i : Nat) (hi : i < l.length) : ∃ b o, a = some ⟨b, o, none⟩ ∧ PX w X b (o + i * 4) l[i].l ∧ PX w X b (o + i * 4 + 2) l[i].r := by
  obtain ⟨a2, c2, e, hl, h⟩ := h
  simp at e
  obtain ⟨rfl, rfl, rfl⟩ := e
  rcases h with h | ⟨b, o, ea, hX, h⟩
  · subst h; simp at hi
  · obtain ⟨a1, c1, a2, c2, h1, h2, h3, h4, h5, h6⟩ := h i hi
    exact ⟨b, o, ea, ⟨⟨a1, c1, h1, h2, h5, cell_lt h1⟩, hX⟩, ⟨⟨a2, c2, h3, h4, h6, cell_lt h3⟩, hX⟩⟩
theorem QV.exq {w w' : World} {X Q : Nat → Prop} {v : Value} {l : List Pr} (h : QV w X v l) (he : ExQ Q w w') (hX : ∀ b, X b → ¬ Q b) : QV w' X v l :=
  ((h.mono (Y := fun b => X b ∧ b < w.heap.size) fun b h1 h2 => ⟨h1, h2⟩).kept fun b hb => he.block b hb.2 (hX b hb.1)).mono fun b hb _ => hb.1

def SmP (w : World) (S q : Nat) (X : Nat → Prop) (Z : List Zp) (left : Int) (ls : List Pr) (e : Ending) (w' : World) : Prop :=
  ∃ (r : Bool) (n : Int), e = .returned (.bool r) ∧ SkS w' S q X Z n ∧ ExQ (SkQ S q) w w' ∧ (left < 0 → ls ≠ [] → r = false) ∧ ∀ s, Clo Z s → r = true → ∀ p ∈ ls, sizeL [onT s p.l] ≤ 2000 ∧ sizeL [onT s p.r] ≤ 2000
def SmI (w : World) (S q : Nat) (X : Nat → Prop) (Z : List Zp) (left : Int) (ls : List Pr) (i : Value) (wr : World) : Prop :=
  ∃ (k : Nat) (n : Int), k ≤ ls.length ∧ i = .int .i64 (k : Int) ∧ SkS wr S q X Z n ∧ ExQ (SkQ S q) w wr ∧ n ≤ left ∧ -100 ≤ n ∧ (0 < k → 0 ≤ left) ∧ ∀ s, Clo Z s → ∀ j (h : j < ls.length), j < k → sizeL [onT s ls[j].l] ≤ 2000 ∧ sizeL [onT s ls[j].r] ≤ 2000

set_option maxHeartbeats 2000000 in
theorem skSmall_any (S q : Nat) (X : Nat → Prop) (Z : List Zp) (hZ : ∀ z ∈ Z, errL [z.t] = 0) (left : Int) (h0 : -100 ≤ left) (h1 : left ≤ 100000) (ls : List Pr) (hls : ∀ p ∈ ls, errL [p.l] = 0 ∧ errL [p.r] = 0) (v : Value) (w : World) (hS : SkS w S q X Z left) (hv : QV w X v ls) :
    Calls Try.prog 70 #[.pointer (some ⟨S, 0, none⟩), v] w fun e w' => SmP w S q X Z left ls e w' := by
  have HS := hide hS
  have HV := hide hv
  have HSX := hide hS.X
  have HLS := hide hls
  obtain ⟨a, c, rfl, ⟨hl1, hl2⟩, _⟩ := hv
  clear hS hls
  go_enter Try.func70, Try.ntmps70
  go_wp2_with fail
  go_loopw [8] (fun i wr => SmI w S q X Z left ls i wr) (fun i wr => ls.length - (intOf i).toNat)
  case atStart => exact ⟨0, left, Nat.zero_le _, rfl, HS.out, ExQ.refl _ _, Int.le_refl _, h0, fun h => absurd h (by omega), fun _ _ j _ h => absurd h (by omega)⟩
  case round =>
    obtain ⟨k, n, hk, rfl, hS3, hE3, hn3, hn4, hk0, hno⟩ := hrel
    have HS3 := hide hS3
    have HE3 := hide hE3
    have HNO := hide hno
    clear hS3 hE3 hno
    by_cases hlk : k < ls.length
    · obtain ⟨b, o, rfl, hpl, hpr⟩ := (HV.out.exq HE3.out HSX.out).at k hlk
      have hk2 : (k : Int) < (ls.length : Int) := by omega
      have HPL := hide hpl
      have HPR := hide hpr
      have hel := HLS.out ls[k] (List.getElem_mem hlk)
      clear hpl hpr
      go_wp2_with fail
      refine (skCount_any S q X Z hZ 2001 0 n ls[k].l b (o + k * 4) wr rfl (by omega) hn4 (by omega) HS3.out HPL.out hel.1).mono ?_
      rintro e w5 ⟨c5, n5, rfl, hS5, hE5, hn5, hn6, hc6, hc7, hc8, hc9⟩
      have HS5 := hide hS5
      have HE5 := hide (HE3.out.trans hE5)
      have HP5 := hide (HPR.out.exq hE5 HSX.out)
      have HC5 := hide hc9
      clear hS5 hE5 hc9
      by_cases hgt : 2000 < c5
      · have hgt2 : (2000 : Int) < (c5 : Int) := by omega
        go_wp2_with fail
        refine bodyPost_ret (v := .bool false) (by simp [results, Try.results70, go_sem]) rfl ?_
        exact ⟨false, n5, rfl, HS5.out, HE5.out, fun _ _ => rfl, fun _ _ h => absurd h (by simp)⟩
      · have hgt2 : ¬ (2000 : Int) < (c5 : Int) := by omega
        have hn50 : 0 ≤ n5 := by
          by_cases h : n5 < 0
          · have := hc8 h; omega
          · omega
        go_wp2_with fail
        refine (skCount_any S q X Z hZ 2001 0 n5 ls[k].r b (o + k * 4 + 2) w5 rfl (by omega) (by omega) (by omega) HS5.out HP5.out hel.2).mono ?_
        rintro e w6 ⟨c6, n6, rfl, hS6, hE6, hm5, hm6, hd6, hd7, hd8, hd9⟩
        have HS6 := hide hS6
        have HE6 := hide (HE5.out.trans hE6)
        have HC6 := hide hd9
        clear hS6 hE6 hd9
        by_cases hgu : 2000 < c6
        · have hgu2 : (2000 : Int) < (c6 : Int) := by omega
          go_wp2_with fail
          refine bodyPost_ret (v := .bool false) (by simp [results, Try.results70, go_sem]) rfl ?_
          exact ⟨false, n6, rfl, HS6.out, HE6.out, fun _ _ => rfl, fun _ _ h => absurd h (by simp)⟩
        · have hgu2 : ¬ (2000 : Int) < (c6 : Int) := by omega
          go_wp2_with fail
          go_roundw
          case rel => exact ⟨k + 1, n6, by omega, by go_num, HS6.out, HE6.out, by omega, by omega, fun _ => by omega, fun s hs j h hj => by
            by_cases e : j = k
            · subst e
              have g1 := HC5.out s hs (by omega)
              have g2 := HC6.out s hs (by omega)
              omega
            · exact HNO.out s hs j h (by omega)⟩
          case measure => simp [intOf]; omega
    · go_wp2_with fail
      refine bodyPost_ret (v := .bool true) (by simp [results, Try.results70, go_sem]) rfl ?_
      refine ⟨true, n, rfl, HS3.out, HE3.out, fun hl hne => ?_, fun s hs _ p hp => ?_⟩
      · have : 0 < ls.length := List.length_pos_iff.2 hne
        have := hk0 (by omega)
        omega
      · obtain ⟨j, hj, rfl⟩ := List.getElem_of_mem hp
        exact HNO.out s hs j hj (by omega)

/-- What is known behind a refusal. -/
def RfP (w : World) (ls : List Pr) (e : Ending) (w' : World) : Prop :=
  ∃ code : Int, e = .returned (.int .i64 code) ∧ Below w.heap.size w w' ∧ (code ≠ 0 → ∃ n sf, uRun false n [] ls = some (code, sf) ∧ grtB sf = false)
def RfI (w : World) (S q : Nat) (X : Nat → Prop) (ls : List Pr) (i : Value) (wr : World) : Prop :=
  ∃ (k : Nat) (n : Int) (Z : List Zp) (s : List Bd), k ≤ ls.length ∧ i = .int .i64 (k : Int) ∧ SkS wr S q X Z n ∧ ExQ (SkQ S q) w wr ∧ n ≤ 100000 ∧ 0 ≤ n ∧ Clo Z s ∧ FR [] (ls.take k) 0 s

set_option maxHeartbeats 2000000 in
theorem uRefusal_any (ls : List Pr) (hls : errL (flatP ls) = 0) (v : Value) (w : World) (X : Nat → Prop) (hv : QV w X v ls) :
    Calls Try.prog 44 #[v] w fun e w' => RfP w ls e w' := by
  have HV := hide (hv.mono (Y := fun b => X b ∧ b < w.heap.size) fun b h1 h2 => ⟨h1, h2⟩)
  have HLS := hide (err_flat hls)
  obtain ⟨a, c, rfl, ⟨hl1, hl2⟩, _⟩ := hv
  have hmm := @run_makeMap Try.prog
  go_enter Try.func44, Try.ntmps44
  go_wp2_with fail
  have hB2 : Below w.heap.size w ((w.alloc (.map #[] 0)).alloc (.cells #[.map (some w.heap.size), .int .i64 100000] 98)) := ((Below.refl _ _).alloc (Nat.le_refl _) _).alloc (by simp) _
  have hSB : Blk ((w.alloc (.map #[] 0)).alloc (.cells #[.map (some w.heap.size), .int .i64 100000] 98)) (w.heap.size + 1) #[.map (some w.heap.size), .int .i64 100000] 98 := by
    have h1 := Blk.new (w.alloc (.map #[] 0)) #[.map (some w.heap.size), .int .i64 100000] 98
    rw [World.size_alloc] at h1
    exact h1
  have hMA : MapAt ((w.alloc (.map #[] 0)).alloc (.cells #[.map (some w.heap.size), .int .i64 100000] 98)) w.heap.size [] := (MapAt.new w).kept (Below.heap_alloc _ _ _ (by simp))
  generalize (w.alloc (.map #[] 0)).alloc (.cells #[.map (some w.heap.size), .int .i64 100000] 98) = w2 at *
  have hS2 : SkS w2 (w.heap.size + 1) w.heap.size (fun b => X b ∧ b < w.heap.size) [] 100000 := ⟨hSB, hMA, by simp, fun b hb => ⟨by omega, by omega⟩⟩
  have HV2 := hide (HV.out.later hB2)
  have HSX := hide hS2.X
  have HS2 := hide hS2
  have HB2 := hide hB2
  have hw2 : w.heap.size ≤ w2.heap.size := hB2.size
  have HBW : Hid (∀ w', ExQ (SkQ (w.heap.size + 1) w.heap.size) w2 w' → Below w.heap.size w w') := fun w' h => HB2.out.trans (h.below hw2 (fun b hb => by rcases hb with e | e <;> omega))
  clear hS2 hB2 hSB hMA
  go_loopw [10] (fun i wr => RfI w2 (w.heap.size + 1) w.heap.size (fun b => X b ∧ b < w.heap.size) ls i wr) (fun i wr => ls.length - (intOf i).toNat)
  case atStart => exact ⟨0, 100000, [], [], Nat.zero_le _, rfl, HS2.out, ExQ.refl _ _, by omega, by omega, clo_nil, by simpa using FR.done []⟩
  case round =>
    obtain ⟨k, n, Z, s, hk, rfl, hS3, hE3, hn3, hn4, hC3, hF3⟩ := hrel
    have HS3 := hide hS3
    have HE3 := hide hE3
    have HC3 := hide hC3
    have HF3 := hide hF3
    clear hS3 hE3 hC3 hF3
    by_cases hlk : k < ls.length
    · have hVk := HV2.out.exq HE3.out HSX.out
      have HVK := hide hVk
      obtain ⟨b, o, rfl, hpl, hpr⟩ := hVk.at k hlk
      have hk2 : (k : Int) < (ls.length : Int) := by omega
      have hel := HLS.out ls[k] (List.getElem_mem hlk)
      have hD : Below wr.heap.size wr wr.drew := (Below.refl _ _).drew
      have HW := hide (skWork_any (w.heap.size + 1) w.heap.size (fun b => X b ∧ b < w.heap.size) n.toNat n Z s ls[k].l ls[k].r b (o + k * 4) b (o + k * 4 + 2) wr.drew rfl hn4 hn3 HC3.out (HS3.out.later hD) (hpl.exq (ExQ.ofBelow (Q := SkQ (w.heap.size + 1) w.heap.size) hD) HSX.out) (hpr.exq (ExQ.ofBelow (Q := SkQ (w.heap.size + 1) w.heap.size) hD) HSX.out) hel.1 hel.2)
      have HWZ : Hid (w.heap.size ≤ wr.heap.size) := Nat.le_trans hw2 HE3.out.size
      clear hpl hpr hD hVk
      go_wp2_with fail
      go_region_held3 (fun w' => w.heap.size ≤ w'.heap.size) (first | exact HWZ.out | exact hS5' | go_keep)
        ((go_at_call 69; refine HW.out.mono ?_; rintro e w5 ⟨code, n5, Z5, rfl, hS5, hZ5, hE5, hn7, hn8, hc5, hr5⟩; have hS5' : w.heap.size ≤ w5.heap.size := Nat.le_trans HWZ.out hE5.size))
      have HS5 := hide hS5
      have HZ5 := hide hZ5
      have HE5 := hide ((HE3.out.drew).trans hE5)
      have HV5 := hide ((HVK.out.exq ((ExQ.refl (SkQ (w.heap.size + 1) w.heap.size) _).drew) HSX.out).exq hE5 HSX.out)
      have HR5 := hide hr5
      clear hS5 hZ5 hE5 hr5
      by_cases hcd : code = 0
      · subst hcd
        have hn9 : 0 ≤ n5 := by
          by_cases h : n5 < 0
          · exact absurd rfl (hc5 h)
          · omega
        obtain ⟨s5, hC5, hF5⟩ := HR5.out hn9
        have HC5 := hide hC5
        have HF5 := hide (pr_next hlk HF3.out hF5)
        clear hC5 hF5
        go_wp2_with fail
        go_roundw
        case rel => exact ⟨k + 1, n5, Z5, s5, by omega, by go_num, HS5.out, HE5.out, by omega, hn9, HC5.out, HF5.out⟩
        case measure => simp [intOf]; omega
      · have hcd2 : (code == 0) = false := beq_eq_false_iff_ne.2 hcd
        have hcd3 : (code != 0) = true := by simp [bne, hcd2]
        have HCD := hide hcd
        clear hcd
        go_wp2_with fail
        refine (skSmall_any (w.heap.size + 1) w.heap.size (fun b => X b ∧ b < w.heap.size) Z5 HZ5.out n5 (by omega) (by omega) ls HLS.out _ w5 HS5.out HV5.out).mono ?_
        rintro e w6 ⟨r, n6, rfl, hS6, hE6, hlow, hsm⟩
        have HE6 := hide (HE5.out.trans hE6)
        have HSM := hide hsm
        clear hS6 hE6 hsm
        cases r with
        | true =>
          have hn9 : 0 ≤ n5 := by
            by_cases h : n5 < 0
            · have := hlow h (fun e => by rw [e] at hlk; simp at hlk)
              cases this
            · omega
          obtain ⟨s5, hC5, hF5⟩ := HR5.out hn9
          have HEN := hide (FR.ends (pr_fail (k + 1) HCD.out (pr_next hlk HF3.out hF5)) hls (HSM.out s5 hC5 rfl))
          clear hC5 hF5
          go_wp2_with fail
          refine bodyPost_ret (v := .int .i64 code) (by simp [results, Try.results44, go_sem]) rfl ?_
          obtain ⟨⟨g, hg⟩, hgr⟩ := HEN.out
          exact ⟨code, rfl, HBW.out _ HE6.out, fun _ => ⟨g, s5, hg, hgr⟩⟩
        | false =>
          go_wp2_with fail
          refine bodyPost_ret (v := .int .i64 0) (by simp [results, Try.results44, go_sem]) rfl ?_
          exact ⟨0, rfl, HBW.out _ HE6.out, fun h => absurd rfl h⟩
    · go_wp2_with fail
      refine bodyPost_ret (v := .int .i64 0) (by simp [results, Try.results44, go_sem]) rfl ?_
      exact ⟨0, rfl, HBW.out _ HE3.out, fun h => absurd rfl h⟩
theorem uRun_det {lim : Bool} : ∀ (n m : Nat) (s : List Bd) (l : List Pr) (r r' : Int × List Bd), uRun lim n s l = some r → uRun lim m s l = some r' → r = r'
  | 0, _, _, _, _, _, h, _ => by cases h
  | _ + 1, 0, _, _, _, _, _, h => by cases h
  | n + 1, m + 1, s, l, r, r', h, h' => by
    rw [uRun] at h h'
    cases hn : uNext lim s l with
    | stop e s' =>
      rw [hn] at h h'
      cases h; cases h'; rfl
    | go s' l' =>
      rw [hn] at h h'
      exact uRun_det n m s' l' r r' h h'
#print axioms uRefusal_any
end Go.Proofs.Ytpjdkdebjkpmmaj

/- A map by texts as the library's contracts on maps say it: its keys. -/
namespace Go.Proofs.Ytpjdkdebjkpmmaj
open Go.RowKit
set_option linter.unusedSimpArgs false
set_option linter.unusedVariables false
set_option maxRecDepth 8000

def rdU : Value → Option (DataW Unit × List MemPlace) := fun _ => some (.nil, [])
theorem ownsMap_of {w : World} {q : Nat} {L : List (ByteArray × Value)} (h : MapAt w q L) (hap : (L.map (·.1)).Pairwise (· ≠ ·)) (hsz : ∀ p ∈ L, p.1.size ≤ maxLen) (hl : L.length ≤ maxLen) :
    ∃ D0 : DataW Unit, w.ownsMap Try.prog 9 rdU q L.length D0 ∧ (strKeys D0).Perm (L.map (fun p => p.1.data.toList)) ∧ Go.Maps.size D0 = L.length := by
  obtain ⟨es, clk, hb, he, hst⟩ := h
  have hlen : es.toList.length = L.length := by have := congrArg List.length he; simpa using this
  have hkey : ∀ i (h1 : i < es.toList.length) (h2 : i < L.length), es.toList[i].key = .string L[i].1 := fun i h1 h2 => by
    have e1 : (es.toList.map (fun e => (e.key, e.val)))[i]? = (L.map (fun p => (Value.string p.1, p.2)))[i]? := by rw [he]
    rw [List.getElem?_map, List.getElem?_map, List.getElem?_eq_getElem h1, List.getElem?_eq_getElem h2] at e1
    simp only [Option.map_some, Option.some.injEq, Prod.mk.injEq] at e1
    exact e1.1
  have hmem : ∀ x ∈ es.toList, ∃ p ∈ L, x.key = .string p.1 := fun x hx => by
    obtain ⟨i, hi, rfl⟩ := List.getElem_of_mem hx
    have h2 : i < L.length := by omega
    exact ⟨L[i], List.getElem_mem h2, hkey i hi h2⟩
  have hrd : ∀ x ∈ es.toList, ∀ s : ByteArray, x.key = .string s → s.size ≤ maxLen → WideElems.rd Try.prog 9 rdU x = some (.string s.data.toList, .nil) := fun x hx s hs hz => by
    unfold WideElems.rd rdU
    rw [hs, Go.WideMaps.keyOf_string_mk Try.underlying9 hz]
    rfl
  have F : WideElems.Fit Try.prog 9 rdU es clk := by
    refine ⟨by rw [← Array.length_toList]; omega, (MapKept.stamped_iff es clk).2 ⟨hst.1, hst.2, ?_⟩, fun x hx => ?_⟩
    · rw [List.pairwise_iff_getElem]
      intro i j hi hj hij e
      rw [hkey i hi (by omega), hkey j hj (by omega)] at e
      rw [List.pairwise_map, List.pairwise_iff_getElem] at hap
      have := hap i j (by omega) (by omega) hij
      exact this (by simpa using e)
    · obtain ⟨p, hp, e⟩ := hmem x hx
      exact ⟨_, hrd x hx p.1 e (hsz p hp)⟩
  refine ⟨.map ((es.toList.map (WideElems.rg Try.prog 9 rdU)).foldr DataW.insert []), ⟨es, clk, hb, F, by rw [← Array.length_toList]; omega, rfl⟩, ?_, ?_⟩
  · have h1 : (strKeys (DataW.map ((es.toList.map (WideElems.rg Try.prog 9 rdU)).foldr DataW.insert []) : DataW Unit)).Perm ((es.toList.map (WideElems.rg Try.prog 9 rdU)).map fun p => strOf p.1) := (WideShapes.sorted_perm _).map _
    refine h1.trans ?_
    have h2 : (es.toList.map (WideElems.rg Try.prog 9 rdU)).map (fun p => strOf p.1) = L.map (fun p => p.1.data.toList) := by
      refine List.ext_getElem (by simp; omega) fun i h3 h4 => ?_
      simp only [List.length_map] at h3 h4
      simp only [List.getElem_map]
      unfold WideElems.rg
      rw [hrd _ (List.getElem_mem h3) L[i].1 (hkey i h3 h4) (hsz _ (List.getElem_mem h4))]
      rfl
    rw [h2]
  · rw [Maps.size_eq, Go.length_sorted]
    simpa using hlen
#print axioms ownsMap_of
end Go.Proofs.Ytpjdkdebjkpmmaj

/-
  DERIVED: THE SHELF's CONTRACTS AT THIS DUMP, IN PLAIN WORDS (tools/lay-plain.mjs out of 'TryIterS.lean', which tools/lay-shelf.mjs wrote): THE SAME DECLARATIONS UNDER THE SAME NAMES: 'import', 'namespace', 'open', 'def', 'theorem' AND NOTHING ELSE: no command of the shelf's: FOR A HAND-IN. Each laying: the table of numbers ('.._ren') and one theorem, a field a fact of the dump's own or the kernel's comparison; each contract: ONE APPLICATION.
-/
namespace Go.Proofs
open Go.Shelf
def Try.keysK_ren : Go.Shelf.Ren := ⟨fun | 7 => 100 | 10 => 128 | n => n, fun | 23 => 101 | 26 => 9 | 3 => 152 | 28 => 149 | 0 => 0 | 27 => 148 | 33 => 78 | 4 => 4 | n => n, fun | n => n⟩
theorem Try.keysK : Go.Proofs.SlLaysZ.n7 Try.prog Try.keysK_ren := {
  mixed := by kernel_rfl
  f7 := ⟨Try.f100.name, by decide, Try.func100.trans (congrArg some (by kernel_rfl))⟩
  f10 := ⟨Try.f128.name, by decide, Try.func128.trans (congrArg some (by kernel_rfl))⟩
  t0 := Try.underlying0
  a0 := Try.isAgg0
  z0 := Try.sizeOf0
  v0 := Try.zeroValue0
  t4 := Try.underlying4
  a4 := Try.isAgg4
  z4 := Try.sizeOf4
  v4 := Try.zeroValue4
  t23 := Try.underlying101
  a23 := Try.isAgg101
  z23 := Try.sizeOf101
  v23 := Try.zeroValue101
  t26 := Try.underlying9
  a26 := Try.isAgg9
  z26 := Try.sizeOf9
  v26 := Try.zeroValue9
  t27 := Try.underlying148
  a27 := Try.isAgg148
  z27 := Try.sizeOf148
  v27 := Try.zeroValue148
  t28 := Try.underlying149
  a28 := Try.isAgg149
  z28 := Try.sizeOf149
  v28 := Try.zeroValue149
  t33 := Try.underlying78
  a33 := Try.isAgg78
  z33 := Try.sizeOf78
  v33 := Try.zeroValue78 }
def Try.sortedK_ren : Go.Shelf.Ren := ⟨fun | 6 => 99 | 8 => 126 | 9 => 127 | 11 => 144 | 13 => 85 | 12 => 145 | 23 => 120 | 24 => 121 | 14 => 150 | 15 => 151 | 16 => 152 | 17 => 153 | 18 => 154 | 19 => 155 | 20 => 156 | 21 => 157 | 22 => 158 | 25 => 161 | 26 => 139 | 27 => 140 | 28 => 162 | 29 => 163 | 30 => 86 | 31 => 165 | n => n, fun | 26 => 9 | 28 => 149 | 24 => 42 | 0 => 0 | 3 => 3 | 37 => 132 | 48 => 175 | 50 => 177 | 4 => 4 | 40 => 168 | 39 => 167 | 45 => 172 | 5 => 5 | 9 => 9 | 51 => 189 | 55 => 193 | 57 => 204 | 58 => 205 | 33 => 78 | n => n, fun | n => n⟩
theorem Try.sortedK : Go.Proofs.SlLaysZ.n6 Try.prog Try.sortedK_ren := {
  mixed := by kernel_rfl
  f6 := ⟨Try.f99.name, by decide, Try.func99.trans (congrArg some (by kernel_rfl))⟩
  f8 := ⟨Try.f126.name, by decide, Try.func126.trans (congrArg some (by kernel_rfl))⟩
  f11 := ⟨Try.f144.name, by decide, Try.func144.trans (congrArg some (by kernel_rfl))⟩
  t0 := Try.underlying0
  a0 := Try.isAgg0
  z0 := Try.sizeOf0
  v0 := Try.zeroValue0
  t24 := Try.underlying42
  a24 := Try.isAgg42
  z24 := Try.sizeOf42
  v24 := Try.zeroValue42
  t26 := Try.underlying9
  a26 := Try.isAgg9
  z26 := Try.sizeOf9
  v26 := Try.zeroValue9
  t28 := Try.underlying149
  a28 := Try.isAgg149
  z28 := Try.sizeOf149
  v28 := Try.zeroValue149
  i26 := by kernel_rfl }
def Try.sortK_ren : Go.Shelf.Ren := ⟨fun | 6 => 127 | 8 => 85 | 9 => 145 | 19 => 120 | 20 => 121 | 21 => 150 | 22 => 151 | 23 => 152 | 24 => 153 | 25 => 154 | 26 => 155 | 27 => 156 | 28 => 157 | 29 => 158 | 36 => 161 | 31 => 139 | 32 => 140 | 37 => 162 | 38 => 163 | 39 => 86 | 41 => 165 | n => n, fun | 27 => 42 | 29 => 9 | 3 => 3 | 32 => 132 | 26 => 42 | 0 => 0 | 44 => 175 | 46 => 177 | 4 => 4 | 36 => 168 | 35 => 167 | 41 => 172 | 5 => 5 | 9 => 9 | 53 => 189 | 57 => 193 | 63 => 204 | 64 => 205 | n => n, fun | n => n⟩
theorem Try.sortK : Go.Proofs.SlLaysM.n6 Try.prog Try.sortK_ren := {
  mixed := by kernel_rfl
  f6 := ⟨Try.f127.name, by decide, Try.func127.trans (congrArg some (by kernel_rfl))⟩
  f8 := Try.func85.trans (congrArg some (by kernel_rfl))
  f9 := ⟨Try.f145.name, by decide, Try.func145.trans (congrArg some (by kernel_rfl))⟩
  f19 := Try.func120.trans (congrArg some (by kernel_rfl))
  f20 := Try.func121.trans (congrArg some (by kernel_rfl))
  f21 := ⟨Try.f150.name, by decide, Try.func150.trans (congrArg some (by kernel_rfl))⟩
  f22 := ⟨Try.f151.name, by decide, Try.func151.trans (congrArg some (by kernel_rfl))⟩
  f23 := ⟨Try.f152.name, by decide, Try.func152.trans (congrArg some (by kernel_rfl))⟩
  f24 := ⟨Try.f153.name, by decide, Try.func153.trans (congrArg some (by kernel_rfl))⟩
  f25 := ⟨Try.f154.name, by decide, Try.func154.trans (congrArg some (by kernel_rfl))⟩
  f26 := ⟨Try.f155.name, by decide, Try.func155.trans (congrArg some (by kernel_rfl))⟩
  f27 := ⟨Try.f156.name, by decide, Try.func156.trans (congrArg some (by kernel_rfl))⟩
  f28 := ⟨Try.f157.name, by decide, Try.func157.trans (congrArg some (by kernel_rfl))⟩
  f29 := ⟨Try.f158.name, by decide, Try.func158.trans (congrArg some (by kernel_rfl))⟩
  f31 := Try.func139.trans (congrArg some (by kernel_rfl))
  f32 := Try.func140.trans (congrArg some (by kernel_rfl))
  f36 := ⟨Try.f161.name, by decide, Try.func161.trans (congrArg some (by kernel_rfl))⟩
  f37 := ⟨Try.f162.name, by decide, Try.func162.trans (congrArg some (by kernel_rfl))⟩
  f38 := ⟨Try.f163.name, by decide, Try.func163.trans (congrArg some (by kernel_rfl))⟩
  f39 := ⟨Try.f86.name, by decide, Try.func86.trans (congrArg some (by kernel_rfl))⟩
  f41 := ⟨Try.f165.name, by decide, Try.func165.trans (congrArg some (by kernel_rfl))⟩
  t0 := Try.underlying0
  a0 := Try.isAgg0
  z0 := Try.sizeOf0
  v0 := Try.zeroValue0
  t3 := Try.underlying3
  a3 := Try.isAgg3
  z3 := Try.sizeOf3
  v3 := Try.zeroValue3
  t4 := Try.underlying4
  a4 := Try.isAgg4
  z4 := Try.sizeOf4
  v4 := Try.zeroValue4
  t5 := Try.underlying5
  a5 := Try.isAgg5
  z5 := Try.sizeOf5
  v5 := Try.zeroValue5
  t9 := Try.underlying9
  a9 := Try.isAgg9
  z9 := Try.sizeOf9
  v9 := Try.zeroValue9
  t26 := Try.underlying42
  a26 := Try.isAgg42
  z26 := Try.sizeOf42
  v26 := Try.zeroValue42
  t27 := Try.underlying42
  a27 := Try.isAgg42
  z27 := Try.sizeOf42
  v27 := Try.zeroValue42
  t29 := Try.underlying9
  a29 := Try.isAgg9
  z29 := Try.sizeOf9
  v29 := Try.zeroValue9
  t32 := Try.underlying132
  a32 := Try.isAgg132
  z32 := Try.sizeOf132
  v32 := Try.zeroValue132
  t35 := Try.underlying167
  a35 := Try.isAgg167
  z35 := Try.sizeOf167
  v35 := Try.zeroValue167
  t36 := Try.underlying168
  a36 := Try.isAgg168
  z36 := Try.sizeOf168
  v36 := Try.zeroValue168
  t41 := Try.underlying172
  a41 := Try.isAgg172
  z41 := Try.sizeOf172
  v41 := Try.zeroValue172
  t44 := Try.underlying175
  a44 := Try.isAgg175
  z44 := Try.sizeOf175
  v44 := Try.zeroValue175
  t46 := Try.underlying177
  a46 := Try.isAgg177
  z46 := Try.sizeOf177
  v46 := Try.zeroValue177
  t53 := Try.underlying189
  a53 := Try.isAgg189
  z53 := Try.sizeOf189
  v53 := Try.zeroValue189
  t57 := Try.underlying193
  a57 := Try.isAgg193
  z57 := Try.sizeOf193
  v57 := Try.zeroValue193
  t63 := Try.underlying204
  a63 := Try.isAgg204
  z63 := Try.sizeOf204
  v63 := Try.zeroValue204
  t64 := Try.underlying205
  a64 := Try.isAgg205
  z64 := Try.sizeOf205
  v64 := Try.zeroValue205 }
end Go.Proofs

/- The library's keys of a map, sorted. -/
namespace Go.Proofs.Ytpjdkdebjkpmmaj
open Go.RowKit Go.Maps Go.Sort Go.Shelf
set_option linter.unusedSimpArgs false
set_option linter.unusedVariables false
set_option maxRecDepth 8000

theorem sortsK (m : Nat) : AnyZ.SortsIn Try.prog Try.sortedK_ren Fence.wide m :=
  ⟨fun blk off cap ss W hH hblk hsz => callsIn_wide.2 (AnyM.slices_Sort_string Try.sortK blk off cap ss W hH hblk hsz),
   fun p cap W => callsIn_wide.2 (AnyM.slices_Sort_string_none Try.sortK p cap W)⟩
theorem keysK_any (mb : Option Nat) (W : World) : CallsIn Fence.wide 5 Try.prog 100 #[.map mb] W fun e w' => e = .returned (.func (.func 128) #[] #[.pointer (some ⟨W.heap.size, 0, none⟩)]) ∧ w' = W.alloc (.cells #[.map mb] 101) :=
  AnyZ.keys_in Try.keysK Fence.wide 5 trivial rfl mb W
set_option maxHeartbeats 1000000 in
theorem sortedK_any {H : Type} (b nn : Nat) (D0 : DataW H) (R : Value → Option (DataW H × List MemPlace)) (w : World) (hown : w.ownsMap Try.prog 9 R b nn D0) (hmax : Maps.size D0 ≤ maxLen) (hbytes : Maps.size D0 * 16 ≤ 140737488355328) :
    CallsIn Fence.wide 5 Try.prog 99 #[.func (.func 128) #[] #[.pointer (some ⟨w.heap.size, 0, none⟩)]] (w.alloc (.cells #[.map (some b)] 101)) fun e w' => ∃ (v : Value) (ss : List (List UInt8)), e = .returned v ∧ ss.Perm (strKeys D0) ∧
      w'.ownsRow (w.alloc (.cells #[.map (some b)] 101)).heap.size 9 1 v ss.length ((ss.mergeSort (fun x y => decide (x ≤ y))).map encStr) ∧ (v = .slice none 0 0 ↔ ss = []) ∧ Below (w.alloc (.cells #[.map (some b)] 101)).heap.size (w.alloc (.cells #[.map (some b)] 101)) w' := by
  have hbl := hown.lt
  have hseq : SeqGives Fence.wide 2 Try.prog 128 #[.pointer (some ⟨w.heap.size, 0, none⟩)] encStr (fun ss => ss.Perm (strKeys D0)) (Maps.size D0) (w.alloc (.cells #[.map (some b)] 101)) :=
    AnyZ.keys_gives (ρ := Try.keysK_ren) { Try.keysK with } Fence.wide _ trivial rfl (by omega) w.heap.size b nn D0 _ (by simp) (by simp) (by
      obtain ⟨es, clock, hb, Ft, hs, hD⟩ := hown
      exact ⟨es, clock, (Below.heap_alloc _ _ b hbl).trans hb, Ft, hs, hD⟩)
  exact AnyZ.sorted_in Try.sortedK Fence.wide 5 trivial trivial trivial trivial rfl (by omega) (sortsK _) (enters_of Try.func127 (by kernel_rfl) rfl) 128 #[.pointer (some ⟨w.heap.size, 0, none⟩)] trivial (enters_of Try.func128 (by kernel_rfl) rfl) _ _ hmax hbytes _ hseq

theorem sortedKeys : SortedKeys := by
  intro q L w hM hap hsz hlen
  refine ⟨callsIn_wide.1 (keysK_any (some q) w), ?_⟩
  obtain ⟨D0, hown, hkeys, hsize⟩ := ownsMap_of hM hap (fun p hp => by have := hsz p hp; unfold maxLen; omega) (by unfold maxLen; omega)
  refine (callsIn_wide.1 (sortedK_any q L.length D0 rdU w hown (by rw [hsize]; unfold maxLen; omega) (by rw [hsize]; omega))).mono ?_
  rintro e w' ⟨v, ss, rfl, hp, hrow, _, hb⟩
  have hzw : (w.alloc (.cells #[.map (some q)] 101)).heap.size = w.heap.size + 1 := by simp
  rw [hzw] at hrow hb
  have hms := List.mergeSort_perm ss (fun x y => decide (x ≤ y))
  have hpw : (ss.mergeSort (fun x y => decide (x ≤ y))).Pairwise (fun a b => decide (a ≤ b) = true) := List.pairwise_mergeSort (fun a b c h1 h2 => by simp at *; exact List.le_trans h1 h2) (fun a b => by simp; exact List.le_total a b) ss
  generalize ss.mergeSort (fun x y => decide (x ≤ y)) = ms at *
  refine ⟨v, ms.map (fun l => ⟨l.toArray⟩), rfl, ?_, ?_, ?_, hb⟩
  · have h1 : ms.Perm (L.map (fun p => p.1.data.toList)) := (hms.trans hp).trans hkeys
    have h2 := h1.map (fun l : List UInt8 => (⟨l.toArray⟩ : ByteArray))
    simpa [Function.comp_def] using h2
  · rw [List.pairwise_map]
    refine hpw.imp fun {a b} h => ?_
    unfold ltB
    have e1 : (⟨b.toArray⟩ : ByteArray).toList = b := by rw [ByteArray.toList_eq]
    have e2 : (⟨a.toArray⟩ : ByteArray).toList = a := by rw [ByteArray.toList_eq]
    rw [e1, e2, bytesLess_eq]
    have h2 : a ≤ b := by simpa using h
    simpa using h2
  · have h1 := LV.of_own (f := Value.string) (l := ms.map (fun l : List UInt8 => (⟨l.toArray⟩ : ByteArray))) (w := w') (N := w.heap.size + 1) (T := 9) (v := v) (by
      have h2 : ms.length = ss.length := hms.length_eq
      rw [List.length_map, h2, List.map_map]
      exact hrow)
    exact h1
#print axioms sortedKeys
end Go.Proofs.Ytpjdkdebjkpmmaj


/- Walks: UnifyOf. -/
namespace Go.Proofs.Ytpjdkdebjkpmmaj
open Go.RowKit
set_option linter.unusedSimpArgs false
set_option linter.unusedVariables false
set_option maxRecDepth 8000

def OaC (X : Nat → Prop) (t : Tm) (s1 : ByteArray) (a1 : Option Addr) (n1 c1 : Nat) (okb : Bool) (w w' : World) : Prop :=
  (okb = false ∧ 2000 < sizeL [t]) ∨ (okb = true ∧ sizeL [t] ≤ 2000 ∧ s1 = t.name ∧ n1 = t.args.length ∧ Sl w' (fun b => (X b ∧ b < w.heap.size) ∨ w.heap.size ≤ b) a1 t.args)
theorem onAll_at (X : Nat → Prop) (ls : List Bd) (t : Tm) (u : Value) (a : Option Addr) (c : Nat) (w : World) (hu : BV w X u ls) (hs : Sl w X a t.args) (hsm : sizeL [t] ≤ 1000000) :
    Calls Try.prog 10 #[u, .agg #[.string t.name, .slice a t.args.length c]] w fun e w' => ∃ s1 a1 n1 c1 okb, e = .returned (.tuple #[.agg #[.string s1, .slice a1 n1 c1], .bool okb]) ∧ Below w.heap.size w w' ∧ OaC X (onT ls t) s1 a1 n1 c1 okb w w' := by
  refine (onAll_any ls t u _ w X hu ⟨a, c, rfl, hs⟩ hsm).mono ?_
  rintro e w1 ⟨hb1, ⟨h1, rfl⟩ | ⟨h1, a1, c1, rfl, hs1⟩⟩
  · exact ⟨_, _, _, _, _, rfl, hb1, Or.inl ⟨rfl, h1⟩⟩
  · exact ⟨_, _, _, _, _, rfl, hb1, Or.inr ⟨rfl, h1, rfl, rfl, hs1⟩⟩

def UoPost (w : World) (R : Int × List Bd) (e : Ending) (w' : World) : Prop :=
  Below w.heap.size w w' ∧ ((R.1 = 0 ∧ ∃ v, e = .returned (.tuple #[v, .int .i64 0]) ∧ BV w' (fun _ => True) v R.2) ∨ (R.1 ≠ 0 ∧ e = .returned (.tuple #[.slice none 0 0, .int .i64 R.1])))
def UoInv (V : List ByteArray) (w : World) (R : Int × List Bd) (g : Nat) (sv lv : Value) (wr : World) : Prop :=
  ∃ (h : List (ByteArray × Tm)) (l : List Pr), UI V h l ∧ grtB (sAt h) = false ∧ uRun true g (sAt h) l = some R ∧ BV wr (fun _ => True) sv (sAt h) ∧ QV wr (fun _ => True) lv l ∧ Below w.heap.size w wr
theorem uRun_next {lim : Bool} {g : Nat} {s : List Bd} {p : Pr} {l : List Pr} {R : Int × List Bd} (h : uRun lim g s (p :: l) = some R) : ∃ g', g = g' + 1 ∧ ((∃ e s', uPair lim s l (onT s p.l) (onT s p.r) = .stop e s' ∧ R = (e, s')) ∨ ∃ s' l', uPair lim s l (onT s p.l) (onT s p.r) = .go s' l' ∧ uRun lim g' s' l' = some R) := by
  cases g with
  | zero => cases h
  | succ g =>
    refine ⟨g, rfl, ?_⟩
    rw [uRun, uNext_cons] at h
    cases hn : uPair lim s l (onT s p.l) (onT s p.r) with
    | stop e s' => rw [hn] at h; cases h; exact Or.inl ⟨e, s', rfl, rfl⟩
    | go s' l' => rw [hn] at h; exact Or.inr ⟨s', l', rfl, h⟩
/-- What the run says of two sides. -/
theorem uRun_pair {lim : Bool} {g : Nat} {s : List Bd} {p : Pr} {l : List Pr} {R : Int × List Bd} {a b : Tm} (h : uRun lim g s (p :: l) = some R) (ha : onT s p.l = a) (hb : onT s p.r = b) : ∃ g', g = g' + 1 ∧ ((∃ e s', uPair lim s l a b = .stop e s' ∧ R = (e, s')) ∨ ∃ s' l', uPair lim s l a b = .go s' l' ∧ uRun lim g' s' l' = some R) := by
  subst ha; subst hb; exact uRun_next h

theorem grt_le {s : List Bd} (h : grtB s = false) {d : Bd} (hd : d ∈ s) : sizeL [d.t] ≤ 2000 := by
  unfold grtB at h
  rw [List.any_eq_false] at h
  have := h d hd
  simp at this
  exact this
theorem zip_len2 : ∀ {a b : List Tm}, a.length = b.length → (zipP a b).length = a.length
  | [], [], _ => rfl
  | [], _ :: _, h => by simp at h
  | _ :: _, [], h => by simp at h
  | t :: a, u :: b, h => by rw [zipP, List.length_cons, zip_len2 (by simpa using h), List.length_cons]
theorem zip_get2 : ∀ {a b : List Tm} (k : Nat) (h1 : k < a.length) (h2 : k < b.length) {h3 : k < (zipP a b).length}, (zipP a b)[k] = ⟨a[k], b[k]⟩
  | [], _, k, h, _, _ => by simp at h
  | _ :: _, [], k, _, h, _ => by simp at h
  | t :: a, u :: b, 0, _, _, _ => rfl
  | t :: a, u :: b, k + 1, h1, h2, h3 => by
    have := zip_get2 (a := a) (b := b) k (by simpa using h1) (by simpa using h2) (h3 := by simpa [zipP] using h3)
    simpa [zipP] using this
/-- What a round reads. -/
def FvD (A B b1 b2 p1 p2 o1 o2 n1 n2 : Nat) (tA tB : Tm) (y1 y2 : Option Addr) (k1 k2 d1 d2 : Nat) (w' : World) : Prop :=
  w'.cell? ⟨A, 1, none⟩ = some (.slice (some ⟨b1, o1, none⟩) n1 k1) ∧ w'.cell? ⟨b1, p1, none⟩ = some (.string tA.name) ∧ w'.cell? ⟨b1, p1 + 1, none⟩ = some (.slice y1 tA.args.length d1) ∧ w'.cell? ⟨B, 1, none⟩ = some (.slice (some ⟨b2, o2, none⟩) n2 k2) ∧ w'.cell? ⟨b2, p2, none⟩ = some (.string tB.name) ∧ w'.cell? ⟨b2, p2 + 1, none⟩ = some (.slice y2 tB.args.length d2)
/-- What is known while pairs are laid. -/
def UdInv (w4 : World) (lA lB : List Tm) (u i : Value) (wq : World) : Prop :=
  ∃ (k : Nat) (cs : List Pc), i = .int .i64 (k : Int) ∧ k ≤ lA.length ∧ QRow wq w4.heap.size (fun b => b < w4.heap.size) u cs ∧ cs.map (·.1) = (zipP lA lB).take k ∧ Below w4.heap.size w4 wq
theorem cons_eq2 {a b : Value} {l k : List Value} (h : a = b) (h2 : l = k) : a :: l = b :: k := by rw [h, h2]
theorem sAt_len : ∀ h : List (ByteArray × Tm), (sAt h).length = h.length := fun h => by
  obtain ⟨k, hk⟩ : ∃ k : List (ByteArray × Tm), k.reverse = h := ⟨h.reverse, List.reverse_reverse h⟩
  subst hk
  induction k with
  | nil => simp [sAt]
  | cons p r ih =>
    rw [List.reverse_cons, sAt_snoc]
    unfold addS
    rw [(srtB_perm _).length_eq]
    simp [ih]
theorem bv_one2 {w : World} {B : Nat} {n : ByteArray} {t : Tm} {a : Option Addr} {c T : Nat} (h : Blk w B #[.string n, .string t.name, .slice a t.args.length c] T) (hs : Sl w (fun _ => True) a t.args) : BV w (fun _ => True) (.slice (some ⟨B, 0, none⟩) 1 1) [⟨n, t⟩] := by
  refine ⟨some ⟨B, 0, none⟩, 1, rfl, by simp, Or.inr ⟨B, 0, rfl, trivial, fun i hi => ?_⟩⟩
  have e : i = 0 := by simp at hi; omega
  subst e
  exact ⟨h.cell 0, h.cell 1, a, c, h.cell 2, hs⟩
/-- What is known while a binding is put into the others. -/
def UbInv (w7 : World) (s : List Bd) (x : ByteArray) (t : Tm) (u i : Value) (wq : World) : Prop :=
  ∃ (k : Nat) (cs : List Bc), i = .int .i64 (k : Int) ∧ k ≤ s.length ∧ BRow wq w7.heap.size (fun b => b < w7.heap.size) u cs ∧ cs.map (·.1) = (s.take k).map (putB x t) ∧ (∀ d ∈ s.take k, sizeL [onT [⟨x, t⟩] d.t] ≤ 2000) ∧ Below w7.heap.size w7 wq

end Go.Proofs.Ytpjdkdebjkpmmaj


/- Walks: Unify, and what the law says of it. -/
namespace Go.Proofs.Ytpjdkdebjkpmmaj
open Go.RowKit
set_option linter.unusedSimpArgs false
set_option linter.unusedVariables false
set_option maxRecDepth 8000

theorem may_parts {t : Tm} (h : mayE t = 0) : errL [t] = 0 ∧ sizeL [t] ≤ 2000 := by
  unfold mayE at h
  split at h
  · cases h
  · exact ⟨h, by omega⟩
theorem flat_size : ∀ (l : List Pr), (∀ p ∈ l, sizeL [p.l] ≤ 2000 ∧ sizeL [p.r] ≤ 2000) → sizeL (flatP l) ≤ 4000 * l.length
  | [], _ => by simp [flatP, sizeL]
  | p :: l, h => by
    have h1 := h p (by simp)
    have h2 := flat_size l fun q hq => h q (by simp [hq])
    have e1 := size_cons p.l (p.r :: flatP l)
    have e2 := size_cons p.r (flatP l)
    rw [flatP]
    simp only [List.length_cons]
    omega
theorem flat_err : ∀ (l : List Pr), (∀ p ∈ l, errL [p.l] = 0 ∧ errL [p.r] = 0) → errL (flatP l) = 0
  | [], _ => by simp [flatP, errL]
  | p :: l, h => by
    rw [flatP]
    exact err_two.2 ⟨(h p (by simp)).1, err_two.2 ⟨(h p (by simp)).2, flat_err l fun q hq => h q (by simp [hq])⟩⟩
/-- What may be, begins so. -/
theorem pairs_start {ls : List Pr} (h : pairsE ls = 0) : errL (flatP ls) = 0 ∧ ls.length ≤ 40 ∧ UI ((preL (onL [] (flatP ls))).map (·.name)) [] ls ∧ ((preL (onL [] (flatP ls))).map (·.name)).length ≤ 400000 := by
  have h1 := pairsE_all h
  have h2 := pairsE_len h
  have he : errL (flatP ls) = 0 := flat_err ls fun p hp => ⟨(may_parts (h1 p hp).1).1, (may_parts (h1 p hp).2).1⟩
  have hs : ∀ p ∈ ls, sizeL [p.l] ≤ 2000 ∧ sizeL [p.r] ≤ 2000 := fun p hp => ⟨(may_parts (h1 p hp).1).2, (may_parts (h1 p hp).2).2⟩
  refine ⟨he, h2, UI.start he hs h2, ?_⟩
  rw [List.length_map, preL_length, onL_id _ (by simp)]
  have := flat_size ls hs
  omega
theorem solve_any {ls : List Pr} (hp : pairsE ls = 0) (R : Int × List Bd) (g0 : Nat) (hrun : uRun false g0 [] ls = some R) (u : Value) (w : World) (X : Nat → Prop) (hu : QV w X u ls) :
    Calls Try.prog 45 #[u] w fun e w' => SoPost R w e w' := by
  obtain ⟨he, hl, hU, hV⟩ := pairs_start hp
  obtain ⟨a, c, rfl, _, hc⟩ := hu.mono (Y := fun b => b < w.heap.size) fun _ _ h => h
  rcases hc with rfl | ⟨b, o, rfl, hb, hcell⟩
  · exact callsIn_wide.1 (solve_in (hide sortedKeys) 6 (by omega) 0 0 a [] c (Or.inl rfl) (by simp) _ hV hU R g0 hrun w (Nat.zero_le _) (Or.inl rfl) (fun j u h => by simp [flat4] at h) (by simp))
  · obtain ⟨xs, hx1, hx2, hx3⟩ := pairs_cells ls b o hcell
    subst hx1
    have hl2 : xs.length ≤ 40 := by simpa using hl
    have := solve_in (hide sortedKeys) 6 (by omega) b o (some ⟨b, o, none⟩) xs c (Or.inr rfl) hl2 _ hV hU R g0 hrun w (Nat.le_of_lt hb) (Or.inr hb) hx2 hx3
    rw [List.length_map]
    exact callsIn_wide.1 this
def UnPost (ls : List Pr) (R : Int × List Bd) (w : World) (e : Ending) (w' : World) : Prop :=
  (pairsE ls ≠ 0 ∧ Below w.heap.size w w' ∧ e = .returned (.tuple #[.slice none 0 0, .int .i64 (pairsE ls)])) ∨ (pairsE ls = 0 ∧ SoPost R w e w')
theorem unify_any (ls : List Pr) (R : Int × List Bd) (g0 : Nat) (hrun : pairsE ls = 0 → uRun false g0 [] ls = some R) (u : Value) (w : World) (X : Nat → Prop) (hu : QV w X u ls) :
    Calls Try.prog 19 #[u] w fun e w' => UnPost ls R w e w' := by
  have HU := hide hu
  have HR := hide hrun
  clear hu hrun
  by_cases hp : pairsE ls = 0
  · have HP := hide hp
    go_enter Try.func19, Try.ntmps19
    go_wp2_with (go_at_call 43; refine (ucheck_any ls u w X HU.out).mono ?_; rintro e w1 ⟨rfl, hb1⟩; rw [HP.out]; have HB1 := hide hb1; clear hb1)
    refine (uRefusal_any ls (pairs_start HP.out).1 u w1 X (HU.out.later HB1.out)).mono ?_
    rintro e w9 ⟨code, rfl, hb9, hcd⟩
    have HB9 := hide (HB1.out.trans (hb9.mono HB1.out.size))
    have HCD := hide hcd
    clear hb9 hcd
    by_cases hc0 : code = 0
    · subst hc0
      go_wp2_with fail
      refine (solve_any HP.out R g0 (HR.out HP.out) u w9 X (HU.out.later HB9.out)).mono ?_
      rintro e w2 ⟨hb2, hc⟩
      have HB2 := hide (HB9.out.trans (hb2.mono HB9.out.size))
      have HC := hide hc
      clear hb2 hc
      rcases HC.out with ⟨h1, rfl⟩ | ⟨h1, h2, rfl⟩ | ⟨h1, h2, v, rfl, h3⟩
      · go_wp2_with fail
        refine bodyPost_ret (v := .tuple #[.slice none 0 0, .int .i64 8]) (by simp [results, Try.results19, go_sem]) rfl ?_
        exact Or.inr ⟨HP.out, HB2.out, Or.inl ⟨h1, rfl⟩⟩
      · go_wp2_with fail
        refine bodyPost_ret (v := .tuple #[.slice none 0 0, .int .i64 R.1]) (by simp [results, Try.results19, go_sem]) rfl ?_
        exact Or.inr ⟨HP.out, HB2.out, Or.inr (Or.inl ⟨h1, h2, rfl⟩)⟩
      · have H3 := hide h3
        clear h3
        go_wp2_with fail
        refine bodyPost_ret (v := .tuple #[v, .int .i64 0]) (by simp [results, Try.results19, go_sem]) rfl ?_
        exact Or.inr ⟨HP.out, HB2.out, Or.inr (Or.inr ⟨h1, h2, v, rfl, H3.out.mono fun b hb _ => Nat.le_trans HB9.out.size hb⟩)⟩
    · obtain ⟨n9, sf, hr9, hg9⟩ := HCD.out hc0
      have hRR := uRun_det _ _ _ _ _ _ (HR.out HP.out) hr9
      subst hRR
      have hcb : (code == 0) = false := beq_eq_false_iff_ne.2 hc0
      have hcn : (code != 0) = true := by simp [bne, hcb]
      have HG9 := hide hg9
      have HC0 := hide hc0
      clear hr9 hg9 hc0
      go_wp2_with fail
      refine bodyPost_ret (v := .tuple #[.slice none 0 0, .int .i64 code]) (by simp [results, Try.results19, go_sem]) rfl ?_
      exact Or.inr ⟨HP.out, HB9.out, Or.inr (Or.inl ⟨HG9.out, HC0.out, rfl⟩)⟩
  · have hpb : (pairsE ls == 0) = false := beq_eq_false_iff_ne.2 hp
    have HP := hide hp
    clear hp
    go_enter Try.func19, Try.ntmps19
    go_wp2_with (go_at_call 43; refine (ucheck_any ls u w X HU.out).mono ?_; rintro e w1 ⟨rfl, hb1⟩; have HB1 := hide hb1; clear hb1)
    refine bodyPost_ret (v := .tuple #[.slice none 0 0, .int .i64 (pairsE ls)]) (by simp [results, Try.results19, go_sem]) rfl ?_
    exact Or.inl ⟨HP.out, HB1.out, rfl⟩

/-- Both sides answer the same. -/
theorem two_runs {ls : List Pr} (hp : pairsE ls = 0) : ∃ (g : Nat) (R R' : Int × List Bd), uRun false g [] ls = some R ∧ uRun true g [] ls = some R' ∧ (grtB R.2 = true → R'.1 = 8) ∧ (grtB R.2 = false → R' = R) := by
  obtain ⟨n, r, hr⟩ := u_ends0 ls (pairs_start hp).1
  obtain ⟨e, sf⟩ := r
  obtain ⟨e', sf', h1, h2, h3⟩ := uRun_lim n [] ls e sf hr (by simp [grtB])
  refine ⟨n, (e, sf), (e', sf'), hr, h1, h2, fun hg => ?_⟩
  obtain ⟨rfl, rfl⟩ := h3 hg
  rfl

theorem unify_bad (ls : List Pr) (hp : pairsE ls ≠ 0) (u : Value) (w : World) (X : Nat → Prop) (hu : QV w X u ls) :
    Calls Try.prog 19 #[u] w fun e w' => e = .returned (.tuple #[.slice none 0 0, .int .i64 (pairsE ls)]) ∧ Below w.heap.size w w' := by
  refine (unify_any ls (0, []) 0 (fun h => absurd h hp) u w X hu).mono ?_
  rintro e w' (⟨_, hb, rfl⟩ | ⟨h, _⟩)
  · exact ⟨rfl, hb⟩
  · exact absurd h hp
theorem unify_great (ls : List Pr) (hp : pairsE ls = 0) (R : Int × List Bd) (g : Nat) (hR : uRun false g [] ls = some R) (hg : grtB R.2 = true) (u : Value) (w : World) (X : Nat → Prop) (hu : QV w X u ls) :
    Calls Try.prog 19 #[u] w fun e w' => e = .returned (.tuple #[.slice none 0 0, .int .i64 8]) ∧ Below w.heap.size w w' := by
  refine (unify_any ls R g (fun _ => hR) u w X hu).mono ?_
  rintro e w' (⟨h, _⟩ | ⟨_, hb, ⟨_, rfl⟩ | ⟨h, _⟩ | ⟨h, _⟩⟩)
  · exact absurd hp h
  · exact ⟨rfl, hb⟩
  · rw [hg] at h; cases h
  · rw [hg] at h; cases h
theorem unify_none (ls : List Pr) (hp : pairsE ls = 0) (R : Int × List Bd) (g : Nat) (hR : uRun false g [] ls = some R) (hg : grtB R.2 = false) (h0 : R.1 ≠ 0) (u : Value) (w : World) (X : Nat → Prop) (hu : QV w X u ls) :
    Calls Try.prog 19 #[u] w fun e w' => e = .returned (.tuple #[.slice none 0 0, .int .i64 R.1]) ∧ Below w.heap.size w w' := by
  refine (unify_any ls R g (fun _ => hR) u w X hu).mono ?_
  rintro e w' (⟨h, _⟩ | ⟨_, hb, ⟨h, _⟩ | ⟨_, _, rfl⟩ | ⟨_, h, _⟩⟩)
  · exact absurd hp h
  · rw [hg] at h; cases h
  · exact ⟨rfl, hb⟩
  · exact absurd h h0
theorem unify_some (ls : List Pr) (hp : pairsE ls = 0) (R : Int × List Bd) (g : Nat) (hR : uRun false g [] ls = some R) (hg : grtB R.2 = false) (h0 : R.1 = 0) (u : Value) (w : World) (X : Nat → Prop) (hu : QV w X u ls) :
    Calls Try.prog 19 #[u] w fun e w' => ∃ v, e = .returned (.tuple #[v, .int .i64 0]) ∧ BV w' (fun b => w.heap.size ≤ b) v R.2 ∧ Below w.heap.size w w' := by
  refine (unify_any ls R g (fun _ => hR) u w X hu).mono ?_
  rintro e w' (⟨h, _⟩ | ⟨_, hb, ⟨h, _⟩ | ⟨_, h, _⟩ | ⟨_, _, v, rfl, hv⟩⟩)
  · exact absurd hp h
  · rw [hg] at h; cases h
  · exact absurd h0 h
  · exact ⟨v, rfl, hv, hb⟩
end Go.Proofs.Ytpjdkdebjkpmmaj

/- Walks: whether a term stays, done twice: a closure that calls itself. -/
namespace Go.Proofs.Ytpjdkdebjkpmmaj
open Go.RowKit
set_option linter.unusedSimpArgs false
set_option linter.unusedVariables false
set_option maxRecDepth 8000

def lookV (B : Nat) : Value := .func (.func 65) #[] #[.pointer (some ⟨B, 0, none⟩)]
def stillV (S T : Nat) : Value := .func (.func 74) #[] #[.pointer (some ⟨S, 0, none⟩), .pointer (some ⟨T, 0, none⟩)]

def StInv (ls : List Bd) (l : List Tm) (w : World) (v : Value) (wr : World) : Prop := ∃ k : Nat, v = .int .i64 (k : Int) ∧ k ≤ l.length ∧ stL ls (l.take k) = true ∧ Below w.heap.size w wr

set_option maxHeartbeats 1000000 in
theorem still_any (S T B r : Nat) (ls : List Bd) (L : List (ByteArray × Value)) (t : Tm) : ∀ (v : Value) (w : World) (X : Nat → Prop), TV w X v t → Blk w S #[.func (.func 65) #[] #[.pointer (some ⟨B, 0, none⟩)]] 74 → Blk w T #[.func (.func 74) #[] #[.pointer (some ⟨S, 0, none⟩), .pointer (some ⟨T, 0, none⟩)]] 95 → Env w B r X ls L →
    Calls Try.prog 74 #[v, .pointer (some ⟨S, 0, none⟩), .pointer (some ⟨T, 0, none⟩)] w fun e w' => e = .returned (.bool (stT ls t)) ∧ Below w.heap.size w w' := by
  induction t using Tm.ind with
  | h s l ih =>
    intro v w X hv hS hT hE
    obtain ⟨a, c, rfl, hs⟩ := hv
    have IH := hide ih
    have HS := hide hs
    have HSB := hide hS
    have HTB := hide hT
    have HE := hide hE
    clear ih hs hS hT hE
    dsimp only
    have HB0 := hide ((Below.refl w.heap.size w).alloc (Nat.le_refl _) (.cells #[.string s, .slice a l.length c] 25))
    have S0 := hide (HSB.out.alloc (.cells #[.string s, .slice a l.length c] 25))
    have T0 := hide (Blk.new w #[.string s, .slice a l.length c] 25)
    have g0 : (w.alloc (.cells #[.string s, .slice a l.length c] 25)).cell? ⟨S, 0, none⟩ = some (.func (.func 65) #[] #[.pointer (some ⟨B, 0, none⟩)]) := S0.out.cell 0
    have g1 : (w.alloc (.cells #[.string s, .slice a l.length c] 25)).cell? ⟨w.heap.size, 0, none⟩ = some (.string s) := T0.out.cell 0
    go_enter Try.func74, Try.ntmps74
    go_wp2_with fail
    generalize w.alloc (.cells #[.string s, .slice a l.length c] 25) = w0 at *
    have HE0 := hide (HE.out.later HB0.out)
    refine (look1_any ls s B r L w0 X HE0.out.1 HE0.out.2.1 HE0.out.2.2).mono ?_
    rintro e w1 ⟨hb1, hc⟩
    have HB1 := hide (HB0.out.trans (hb1.mono HB0.out.size))
    have T1 := hide (T0.out.below hb1 T0.out.lt)
    have SS1 := hide (HS.out.later HB1.out)
    have S1 := hide (HSB.out.below HB1.out HSB.out.lt)
    have TT1 := hide (HTB.out.below HB1.out HTB.out.lt)
    have HE1 := hide (HE.out.later HB1.out)
    clear hb1 g0 g1
    have k0 : ∀ o, (w1.alloc o).cell? ⟨w.heap.size, 0, none⟩ = some (.string s) := fun o => (T1.out.alloc o).cell 0
    rcases hc with ⟨x, ax, cx, hfx, rfl, hsx⟩ | ⟨hfx, rfl⟩
    · have HR : Hid ((x.name.toList == s.toList) = stT ls ⟨s, l⟩) := by unfold Hid stT stN; rw [hfx]
      clear hfx hsx
      go_wp2_with fail
      go_ret
      exact ⟨ret_bool HR.out, HB1.out.alloc HB1.out.size _⟩
    · have HR : Hid (stL ls l = stT ls ⟨s, l⟩) := by unfold Hid stT stN; rw [hfx]
      clear hfx
      have k1 : ∀ o, (w1.alloc o).cell? ⟨w.heap.size, 1, none⟩ = some (.slice a l.length c) := fun o => (T1.out.alloc o).cell 1
      have hl := SS1.out.1
      go_wp2_with fail
      have HB2 := hide (HB1.out.alloc HB1.out.size (.cells #[.string ⟨#[]⟩, .slice none 0 0] 25))
      generalize w1.alloc (.cells #[.string ⟨#[]⟩, .slice none 0 0] 25) = w2 at *
      go_loopw [25] (fun v wr => StInv ls l w v wr) (fun v wr => l.length - (intOf v).toNat)
      case atStart => exact ⟨0, rfl, Nat.zero_le _, by simp [stL], HB2.out⟩
      case round =>
        obtain ⟨k, rfl, hk, hT, hb⟩ := hrel
        have HBR := hide hb
        have HT := hide hT
        clear hT
        by_cases hlt : k < l.length
        · obtain ⟨b, o, a', c', rfl, d0, d1, hx⟩ := (HS.out.later hb).get (Below.refl _ _) (fun _ _ h => h) k hlt
          obtain ⟨av, cv, ev, hsx⟩ := hx
          simp at ev
          obtain ⟨rfl, rfl⟩ := ev
          have hlt2 : (k : Int) < (l.length : Int) := by omega
          have HX := hide hsx
          have c3 : ∀ o, (wr.alloc o).cell? ⟨T, 0, none⟩ = some (.func (.func 74) #[] #[.pointer (some ⟨S, 0, none⟩), .pointer (some ⟨T, 0, none⟩)]) := fun o => ((HTB.out.below HBR.out HTB.out.lt).alloc o).cell 0
          have IHK : Hid (∀ o, Calls Try.prog 74 #[.agg #[.string l[k].name, .slice a' l[k].args.length c'], .pointer (some ⟨S, 0, none⟩), .pointer (some ⟨T, 0, none⟩)] (wr.alloc o) fun e w' => e = .returned (.bool (stT ls l[k])) ∧ Below (wr.alloc o).heap.size (wr.alloc o) w') := fun o =>
            IH.out l[k] (List.getElem_mem hlt) _ _ X ⟨a', c', rfl, HX.out.later ((Below.refl _ _).alloc (Nat.le_refl _) _)⟩ ((HSB.out.below HBR.out HSB.out.lt).alloc _) ((HTB.out.below HBR.out HTB.out.lt).alloc _) ((HE.out.later HBR.out).later ((Below.refl _ _).alloc (Nat.le_refl _) _))
          clear hsx hb
          go_wp2_with fail
          refine (IHK.out _).mono ?_
          rintro e w5 ⟨rfl, hb5⟩
          have HB5 := hide ((HBR.out.alloc HBR.out.size _).trans (hb5.mono (by have := HBR.out.size; simp; omega)))
          clear hb5
          cases hst : stT ls l[k] with
          | true =>
            have HN : Hid (stL ls (l.take (k + 1)) = true) := by unfold Hid; rw [stL_take ls l k hlt, HT.out, hst]; rfl
            clear hst
            go_wp2_with fail
            go_roundw
            case rel => exact ⟨k + 1, by go_num, by omega, HN.out, HB5.out⟩
            case measure => simp [intOf]; omega
          | false =>
            have HN : Hid (false = stT ls ⟨s, l⟩) := by unfold Hid; rw [← HR.out, stL_no hlt hst]
            clear hst
            go_wp2_with fail
            go_ret
            exact ⟨ret_bool HN.out, HB5.out⟩
        · have HN : Hid (true = stT ls ⟨s, l⟩) := by unfold Hid; rw [← HR.out, ← HT.out, List.take_of_length_le (by omega)]
          go_wp2_with fail
          go_ret
          exact ⟨ret_bool HN.out, HBR.out⟩
#print axioms still_any
end Go.Proofs.Ytpjdkdebjkpmmaj

/- Walks: whether bindings stay, done twice. -/
namespace Go.Proofs.Ytpjdkdebjkpmmaj
open Go.RowKit
set_option linter.unusedSimpArgs false
set_option linter.unusedVariables false
set_option maxRecDepth 8000

def SbInv (ls : List Bd) (w : World) (W : World) (v : Value) (wr : World) : Prop := ∃ k : Nat, v = .int .i64 (k : Int) ∧ k ≤ ls.length ∧ stB ls (ls.take k) = true ∧ Below w.heap.size w wr ∧ Below W.heap.size W wr

set_option maxHeartbeats 1000000 in
theorem doesStay_any (ls : List Bd) (ho : Once ls) (u : Value) (w : World) (X : Nat → Prop) (hu : BV w X u ls) :
    Calls Try.prog 46 #[u] w fun e w' => e = .returned (.bool (stB ls ls)) ∧ Below w.heap.size w w' := by
  have hmf : ∀ (fn : Fn) (first cap : Array Value) (w : World), (Instr.makeFunc fn first cap).run Try.prog w = .ok (.func fn first cap) w := fun _ _ _ _ => rfl
  have HU := hide (hu.mono (Y := fun b => X b ∧ b < w.heap.size) fun b h1 h2 => ⟨h1, h2⟩)
  obtain ⟨a, c, rfl, hl, hu2⟩ := hu
  clear hu2
  go_enter Try.func46, Try.ntmps46
  go_wp2_with fail
  refine (byName_any ls ho _ w _ HU.out).mono ?_
  rintro e w1 ⟨L, rfl, hM, hP, hb1⟩
  have HM := hide hM
  have HP := hide hP
  have HB1 := hide hb1
  clear hM hP hb1
  go_wp2_with fail
  refine (look_any w.heap.size w1).mono ?_
  rintro e w2 ⟨rfl, rfl⟩
  have HB2 := hide (HB1.out.alloc HB1.out.size (.cells #[.map (some w.heap.size)] 67))
  have HE2 : Hid (Env (w1.alloc (.cells #[.map (some w.heap.size)] 67)) w1.heap.size w.heap.size (fun b => (X b ∧ b < w.heap.size) ∧ b < w.heap.size) ls L) := ⟨Blk.new _ _ _, HM.out.kept (Below.heap_alloc _ _ _ HM.out.lt), HP.out.imp fun a l hs => hs.later ((Below.refl _ _).alloc (Nat.le_refl _) _)⟩
  generalize hB : w1.heap.size = B at *
  generalize w1.alloc (.cells #[.map (some w.heap.size)] 67) = w2 at *
  go_wp2_with fail
  have S4 : Hid (Blk ((w2.alloc (.cells #[.func (.func 65) #[] #[.pointer (some ⟨B, 0, none⟩)]] 74)).alloc (.cells #[.func (.func 74) #[] #[.pointer (some ⟨w2.heap.size, 0, none⟩), .pointer (some ⟨w2.heap.size + 1, 0, none⟩)]] 95)) w2.heap.size #[.func (.func 65) #[] #[.pointer (some ⟨B, 0, none⟩)]] 74) := (Blk.new _ _ _).alloc _
  have T4 : Hid (Blk ((w2.alloc (.cells #[.func (.func 65) #[] #[.pointer (some ⟨B, 0, none⟩)]] 74)).alloc (.cells #[.func (.func 74) #[] #[.pointer (some ⟨w2.heap.size, 0, none⟩), .pointer (some ⟨w2.heap.size + 1, 0, none⟩)]] 95)) (w2.heap.size + 1) #[.func (.func 74) #[] #[.pointer (some ⟨w2.heap.size, 0, none⟩), .pointer (some ⟨w2.heap.size + 1, 0, none⟩)]] 95) := by
    have h := Blk.new (w2.alloc (.cells #[.func (.func 65) #[] #[.pointer (some ⟨B, 0, none⟩)]] 74)) #[.func (.func 74) #[] #[.pointer (some ⟨w2.heap.size, 0, none⟩), .pointer (some ⟨w2.heap.size + 1, 0, none⟩)]] 95
    unfold Hid
    simpa using h
  have HB3 : Hid (Below w2.heap.size w2 ((w2.alloc (.cells #[.func (.func 65) #[] #[.pointer (some ⟨B, 0, none⟩)]] 74)).alloc (.cells #[.func (.func 74) #[] #[.pointer (some ⟨w2.heap.size, 0, none⟩), .pointer (some ⟨w2.heap.size + 1, 0, none⟩)]] 95))) := below2 _ _
  generalize ((w2.alloc (.cells #[.func (.func 65) #[] #[.pointer (some ⟨B, 0, none⟩)]] 74)).alloc (.cells #[.func (.func 74) #[] #[.pointer (some ⟨w2.heap.size, 0, none⟩), .pointer (some ⟨w2.heap.size + 1, 0, none⟩)]] 95)) = W at *
  have HE4 := hide (HE2.out.later HB3.out)
  have HB4 := hide (HB2.out.trans (HB3.out.mono HB2.out.size))
  clear HE2 HB2 HB3 HM HP HB1 hB
  generalize hT : w2.heap.size + 1 = T at *
  generalize hS : w2.heap.size = S at *
  clear hT hS
  go_loopw [13] (fun v wr => SbInv ls w W v wr) (fun v wr => ls.length - (intOf v).toNat)
  case atStart => exact ⟨0, rfl, Nat.zero_le _, rfl, HB4.out, Below.refl _ _⟩
  case round =>
    obtain ⟨k, rfl, hk, hT, hb, hbW⟩ := hrel
    have HBR := hide hb
    have HBW := hide hbW
    have HT := hide hT
    clear hT
    by_cases hlt : k < ls.length
    · obtain ⟨b, o, a', c', rfl, d0, d1, d2, hs⟩ := (HU.out.later hb).get k hlt
      have hlt2 : (k : Int) < (ls.length : Int) := by omega
      have HX := hide hs
      have c3 : ∀ o, (wr.alloc o).cell? ⟨T, 0, none⟩ = some (.func (.func 74) #[] #[.pointer (some ⟨S, 0, none⟩), .pointer (some ⟨T, 0, none⟩)]) := fun o => ((T4.out.below HBW.out T4.out.lt).alloc o).cell 0
      have STK : Hid (∀ o, Calls Try.prog 74 #[.agg #[.string ls[k].t.name, .slice a' ls[k].t.args.length c'], .pointer (some ⟨S, 0, none⟩), .pointer (some ⟨T, 0, none⟩)] (wr.alloc o) fun e w' => e = .returned (.bool (stT ls ls[k].t)) ∧ Below (wr.alloc o).heap.size (wr.alloc o) w') := fun o =>
        still_any S T B w.heap.size ls L ls[k].t _ _ _ ⟨a', c', rfl, (HX.out.mono fun b h1 h2 => ⟨h1, h1.2⟩).later ((Below.refl _ _).alloc (Nat.le_refl _) _)⟩ ((S4.out.below HBW.out S4.out.lt).alloc _) ((T4.out.below HBW.out T4.out.lt).alloc _) ((HE4.out.later HBW.out).later ((Below.refl _ _).alloc (Nat.le_refl _) _))
      clear hs hb hbW
      cases hst : stT ls ls[k].t with
      | true =>
        rw [hst] at STK
        have HN : Hid (stB ls (ls.take (k + 1)) = true) := by unfold Hid; rw [stB_take ls ls k hlt, HT.out, hst]; rfl
        clear hst
        generalize ls[k] = d at *
        go_wp2_with fail
        refine (STK.out _).mono ?_
        rintro e w5 ⟨rfl, hb5⟩
        have HB5 := hide ((HBR.out.alloc HBR.out.size _).trans (hb5.mono (by have := HBR.out.size; simp; omega)))
        have HB6 := hide ((HBW.out.alloc HBW.out.size _).trans (hb5.mono (by have := HBW.out.size; simp; omega)))
        clear hb5
        go_wp2_with fail
        go_roundw
        case rel => exact ⟨k + 1, by go_num, by omega, HN.out, HB5.out, HB6.out⟩
        case measure => simp [intOf]; omega
      | false =>
        rw [hst] at STK
        have HN : Hid (false = stB ls ls) := by unfold Hid; rw [stB_no hlt hst]
        clear hst
        generalize ls[k] = d at *
        go_wp2_with fail
        refine (STK.out _).mono ?_
        rintro e w5 ⟨rfl, hb5⟩
        have HB5 := hide ((HBR.out.alloc HBR.out.size _).trans (hb5.mono (by have := HBR.out.size; simp; omega)))
        clear hb5
        go_wp2_with fail
        go_ret
        exact ⟨ret_bool HN.out, HB5.out⟩
    · have HN : Hid (true = stB ls ls) := by
        have h := HT.out
        rw [List.take_of_length_le (by omega)] at h
        exact h.symm
      go_wp2_with fail
      go_ret
      exact ⟨ret_bool HN.out, HBR.out⟩
#print axioms doesStay_any
end Go.Proofs.Ytpjdkdebjkpmmaj

/- Walks: whether bindings just name variables otherwise. -/
namespace Go.Proofs.Ytpjdkdebjkpmmaj
open Go.RowKit
set_option linter.unusedSimpArgs false
set_option linter.unusedVariables false
set_option maxRecDepth 8000

/-- How often each name was met: once. -/
def onceL (l : List Bd) : List (ByteArray × Value) := l.map fun d => (d.t.name, .int .i64 1)
theorem onceL_get (n : ByteArray) : ∀ l : List Bd, (inB n (l.map fun d => d.t.name) = false → mapGet (onceL l) n = none) ∧ (inB n (l.map fun d => d.t.name) = true → mapGet (onceL l) n = some (.int .i64 1))
  | [] => ⟨fun _ => rfl, fun h => by simp [inB] at h⟩
  | d :: r => by
    obtain ⟨h1, h2⟩ := onceL_get n r
    by_cases hd : d.t.name = n
    · refine ⟨fun h => ?_, fun _ => by simp [onceL, mapGet, hd]⟩
      simp [inB, hd] at h
    · have hb := bytes_no hd
      refine ⟨fun h => ?_, fun h => ?_⟩
      · simp only [inB, List.map_cons, List.any_cons, hb, Bool.false_or] at h
        simp only [onceL, List.map_cons, mapGet, hd, if_false]
        exact h1 h
      · simp only [inB, List.map_cons, List.any_cons, hb, Bool.false_or] at h
        simp only [onceL, List.map_cons, mapGet, hd, if_false]
        exact h2 h
def DnInv (ls : List Bd) (w : World) (v : Value) (wr : World) : Prop := ∃ k : Nat, v = .int .i64 (k : Int) ∧ k ≤ ls.length ∧ nmT ls k = true ∧ MapAt wr w.heap.size (onceL (ls.take k)) ∧ Below w.heap.size w wr

set_option maxHeartbeats 1000000 in
theorem doesName_any (ls : List Bd) (u : Value) (w : World) (X : Nat → Prop) (hu : BV w X u ls) :
    Calls Try.prog 47 #[u] w fun e w' => e = .returned (.bool (namesB ls)) ∧ Below w.heap.size w w' := by
  have HU := hide (hu.mono (Y := fun b => X b ∧ b < w.heap.size) fun b h1 h2 => ⟨h1, h2⟩)
  obtain ⟨a, c, rfl, hl, hu2⟩ := hu
  clear hu2
  have hmm := @run_makeMap Try.prog
  go_enter Try.func47, Try.ntmps47
  go_wp2_with fail
  go_loopw [9] (fun v wr => DnInv ls w v wr) (fun v wr => ls.length - (intOf v).toNat)
  case atStart => exact ⟨0, rfl, Nat.zero_le _, rfl, MapAt.new w, (Below.refl _ _).alloc (Nat.le_refl _) _⟩
  case round =>
    obtain ⟨k, rfl, hk, hT, hM, hb⟩ := hrel
    have HM := hide hM
    have HT := hide hT
    have HB := hide hb
    clear hT
    by_cases hlt : k < ls.length
    · obtain ⟨b, o, a', c', rfl, d0, d1, d2, hs⟩ := (HU.out.later hb).get k hlt
      have hlt2 : (k : Int) < (ls.length : Int) := by omega
      have hMr := hM.lt
      have htk : ls.take (k + 1) = ls.take k ++ [ls[k]] := List.take_succ_eq_append_getElem hlt
      have HTK : Hid (onceL (ls.take (k + 1)) = onceL (ls.take k) ++ [(ls[k].t.name, .int .i64 1)]) := by unfold Hid onceL; rw [htk, List.map_append]; rfl
      have HNK := hide (nmK_at hlt)
      have HG := hide (onceL_get ls[k].t.name (ls.take k))
      have HNO := hide (names_no (ls := ls) hlt)
      clear hb hs hM htk
      have hz : ∀ w', (zeroValue 3).run Try.prog w' = .ok (.int .i64 0) w' := fun w' => Try.zeroValue3 w'
      have HM1 := hide (HM.out.kept (w' := wr.alloc (.cells #[.string ls[k].nm, .string ls[k].t.name, .slice a' ls[k].t.args.length c'] 46)) (Below.heap_alloc _ _ _ hMr))
      have HB1 := hide (HB.out.alloc HB.out.size (.cells #[.string ls[k].nm, .string ls[k].t.name, .slice a' ls[k].t.args.length c'] 46))
      generalize ls[k] = d at *
      cases hin : inB d.t.name ((ls.take k).map fun d => d.t.name) with
      | false =>
        have hg := HG.out.1 hin
        have hlk : (Instr.lookup 113 (.map (some w.heap.size)) (.string d.t.name) false).run Try.prog (wr.alloc (.cells #[.string d.nm, .string d.t.name, .slice a' d.t.args.length c'] 46)) = .ok (.int .i64 0) (wr.alloc (.cells #[.string d.nm, .string d.t.name, .slice a' d.t.args.length c'] 46)) := by
          rw [run_look1 (P := Try.prog) Try.underlying113 Try.underlying9 (hz _) HM1.out d.t.name, hg]; rfl
        obtain ⟨w2, hrun, hM2, hz2, ho2, ht2, hu2, hk2⟩ := run_put (P := Try.prog) Try.underlying113 Try.underlying9 HM1.out d.t.name (.int .i64 1) hg
        have HM2 : Hid (MapAt w2 w.heap.size (onceL (ls.take (k + 1)))) := by unfold Hid; rw [HTK.out]; exact hM2
        have HB2 : Hid (Below w.heap.size w w2) := ⟨ho2.trans HB1.out.os, ht2.trans HB1.out.tape, hu2.trans HB1.out.output, by rw [hz2]; exact HB1.out.size, fun j hj => (hk2 j (by omega)).trans (HB1.out.block j hj)⟩
        have hlk2 : (Instr.lookup 113 (.map (some w.heap.size)) (.string d.t.name) false).run Try.prog w2 = .ok (.int .i64 1) w2 := by
          rw [run_look1 (P := Try.prog) Try.underlying113 Try.underlying9 (hz _) hM2 d.t.name, mapGet_append _ _ _ hg]; simp
        have BK := hide (show Blk w2 wr.heap.size #[.string d.nm, .string d.t.name, .slice a' d.t.args.length c'] 46 from (hk2 _ (by omega)).trans (Blk.new wr _ _))
        have e1 : w2.cell? ⟨wr.heap.size, 1, none⟩ = some (.string d.t.name) := BK.out.cell 1
        rw [hin] at HNK
        clear hM2 hz2 ho2 ht2 hu2 hk2 hg hin
        cases hv : varB d.t.name with
        | false =>
          have HV := hide hv
          have HN : Hid (false = namesB ls) := by unfold Hid; rw [HNO.out (by rw [HNK.out, hv]; rfl)]
          clear hv
          go_wp2_with (go_at_call 55; refine (isVariable_all _ _).mono ?_; rintro e w' ⟨rfl, rfl⟩; rw [HV.out])
          go_ret
          exact ⟨ret_bool HN.out, HB2.out⟩
        | true =>
          have HV := hide hv
          have HN : Hid (nmT ls (k + 1) = true) := by unfold Hid; rw [nmT, HT.out, HNK.out, hv]; rfl
          clear hv
          go_wp2_with (go_at_call 55; refine (isVariable_all _ _).mono ?_; rintro e w' ⟨rfl, rfl⟩; rw [HV.out])
          go_roundw
          case rel => exact ⟨k + 1, by go_num, by omega, HN.out, HM2.out, HB2.out⟩
          case measure => simp [intOf]; omega
      | true =>
        have hg := HG.out.2 hin
        have hlk : (Instr.lookup 113 (.map (some w.heap.size)) (.string d.t.name) false).run Try.prog (wr.alloc (.cells #[.string d.nm, .string d.t.name, .slice a' d.t.args.length c'] 46)) = .ok (.int .i64 1) (wr.alloc (.cells #[.string d.nm, .string d.t.name, .slice a' d.t.args.length c'] 46)) := by
          rw [run_look1 (P := Try.prog) Try.underlying113 Try.underlying9 (hz _) HM1.out d.t.name, hg]; rfl
        obtain ⟨w2, hrun, hM2, hz2, ho2, ht2, hu2, hk2⟩ := run_set (P := Try.prog) Try.underlying113 Try.underlying9 HM1.out d.t.name (.int .i64 2) _ hg
        have HB2 : Hid (Below w.heap.size w w2) := ⟨ho2.trans HB1.out.os, ht2.trans HB1.out.tape, hu2.trans HB1.out.output, by rw [hz2]; exact HB1.out.size, fun j hj => (hk2 j (by omega)).trans (HB1.out.block j hj)⟩
        have hlk2 : (Instr.lookup 113 (.map (some w.heap.size)) (.string d.t.name) false).run Try.prog w2 = .ok (.int .i64 2) w2 := by
          rw [run_look1 (P := Try.prog) Try.underlying113 Try.underlying9 (hz _) hM2 d.t.name, mapGet_setAt, hg]; rfl
        have BK := hide (show Blk w2 wr.heap.size #[.string d.nm, .string d.t.name, .slice a' d.t.args.length c'] 46 from (hk2 _ (by omega)).trans (Blk.new wr _ _))
        have e1 : w2.cell? ⟨wr.heap.size, 1, none⟩ = some (.string d.t.name) := BK.out.cell 1
        rw [hin] at HNK
        have HN : Hid (false = namesB ls) := by unfold Hid; rw [HNO.out (by rw [HNK.out]; simp)]
        clear hM2 hz2 ho2 ht2 hu2 hk2 hg hin
        cases hv : varB d.t.name with
        | false =>
          have HV := hide hv
          clear hv
          go_wp2_with (go_at_call 55; refine (isVariable_all _ _).mono ?_; rintro e w' ⟨rfl, rfl⟩; rw [HV.out])
          go_ret
          exact ⟨ret_bool HN.out, HB2.out⟩
        | true =>
          have HV := hide hv
          clear hv
          go_wp2_with (go_at_call 55; refine (isVariable_all _ _).mono ?_; rintro e w' ⟨rfl, rfl⟩; rw [HV.out])
          go_ret
          exact ⟨ret_bool HN.out, HB2.out⟩
    · have HN : Hid (true = namesB ls) := by
        have h := HT.out
        have e : k = ls.length := by omega
        rw [e] at h
        exact h.symm
      go_wp2_with fail
      go_ret
      exact ⟨ret_bool HN.out, HB.out⟩
#print axioms doesName_any
end Go.Proofs.Ytpjdkdebjkpmmaj

/- Walks: Kind. -/
namespace Go.Proofs.Ytpjdkdebjkpmmaj
open Go.RowKit
set_option linter.unusedSimpArgs false
set_option linter.unusedVariables false
set_option maxRecDepth 8000

set_option maxHeartbeats 1000000 in
theorem kind_any (ls : List Bd) (u : Value) (w : World) (X : Nat → Prop) (hu : BV w X u ls) :
    Calls Try.prog 20 #[u] w fun e w' => e = .returned (.tuple #[.bool (decide (bindsE ls = 0) && stB ls ls), .bool (decide (bindsE ls = 0) && namesB ls), .int .i64 (bindsE ls)]) ∧ Below w.heap.size w w' := by
  have HU := hide (hu.mono (Y := fun b => X b ∧ b < w.heap.size) fun b h1 h2 => ⟨h1, h2⟩)
  clear hu
  generalize hR : (.tuple #[.bool (decide (bindsE ls = 0) && stB ls ls), .bool (decide (bindsE ls = 0) && namesB ls), .int .i64 (bindsE ls)] : Value) = R
  have HR := hide hR
  clear hR
  go_enter Try.func20, Try.ntmps20
  go_wp2_with fail
  refine (scheck_any ls u w _ HU.out).mono ?_
  rintro e w1 ⟨rfl, hb1⟩
  have HB1 := hide hb1
  clear hb1
  by_cases h : bindsE ls = 0
  · have HO := hide (bindsE_once h)
    have hR1 : Hid (.tuple #[.bool (stB ls ls), .bool (namesB ls), .int .i64 0] = R) := by unfold Hid; rw [← HR.out, h]; simp
    rw [h]
    clear h
    go_wp2_with fail
    refine (doesStay_any ls HO.out u w1 _ (HU.out.later HB1.out)).mono ?_
    rintro e w2 ⟨rfl, hb2⟩
    have HB2 := hide (HB1.out.trans (hb2.mono HB1.out.size))
    clear hb2
    go_wp2_with fail
    refine (doesName_any ls u w2 _ (HU.out.later HB2.out)).mono ?_
    rintro e w3 ⟨rfl, hb3⟩
    have HB3 := hide (HB2.out.trans (hb3.mono HB2.out.size))
    clear hb3
    go_wp2_with fail
    refine bodyPost_ret (v := .tuple #[.bool (stB ls ls), .bool (namesB ls), .int .i64 0]) (by simp [results, Try.results20, go_sem]) rfl ?_
    exact ⟨by rw [← hR1.out], HB3.out⟩
  · have hR1 : Hid (.tuple #[.bool false, .bool false, .int .i64 (bindsE ls)] = R) := by unfold Hid; rw [← HR.out]; simp [h]
    have h' : (bindsE ls == 0) = false := by simpa using h
    clear h
    go_wp2_with fail
    refine bodyPost_ret (v := .tuple #[.bool false, .bool false, .int .i64 (bindsE ls)]) (by simp [results, Try.results20, go_sem]) rfl ?_
    exact ⟨by rw [← hR1.out], HB1.out⟩
#print axioms kind_any
end Go.Proofs.Ytpjdkdebjkpmmaj

/- Walks: the law on what makes terms one: it answers true. -/
namespace Go.Proofs.Ytpjdkdebjkpmmaj
open Go.RowKit
set_option linter.unusedSimpArgs false
set_option linter.unusedVariables false
set_option maxRecDepth 8000

theorem bv_single (w : World) (N B : Nat) (n s : ByteArray) (T : Nat) (h : Blk w B #[.string n, .string s, .slice none 0 0] T) (hN : N ≤ B) : BV w (fun b => N ≤ b) (.slice (some ⟨B, 0, none⟩) 1 1) [⟨n, ⟨s, []⟩⟩] := by
  refine ⟨some ⟨B, 0, none⟩, 1, rfl, by simp, Or.inr ⟨B, 0, rfl, hN, fun i hi => ?_⟩⟩
  have e : i = 0 := by simp at hi; omega
  subst e
  exact ⟨h.cell 0, h.cell 1, none, 0, h.cell 2, by simp, Or.inl rfl⟩
/-- An append whose outcome is known, at a step of a region that draws its order. -/
theorem stepA_eq {P : Program} {ops : Array Oper} {o : Oper} {a : Act} {K : Act → World → Prop} {Q : Exit → Act → World → Prop} {E : Prop} {w w' : World} {v u v' : Value} (hgd : o.guard = none) (s x : Operand) (t t' : TypeId)
    (ho : o.op = .call { callee := .builtin .append, args := #[s, x], argTypes := #[t, t'] }) (hs : a.eval s = v) (hx : a.eval x = u)
    (hr : (Builtin.append_ #[t, t'] o.type #[v, u]).run P w = .ok v' w') (h : K (a.put o.dst v') w') : if Region.wanted o (yielded ops a.tmps) = true then Oper.wp P o a w K Q else E := by
  have hw : Region.wanted o (yielded ops a.tmps) = true := by simp [Region.wanted, hgd]
  rw [if_pos hw]
  unfold Oper.wp execOp
  simp only [ho, resolve, invoke, builtin, Sem.run_bind, Sem.run_pure, Result.andThen_ok, List.map_toArray, List.map_cons, List.map_nil, hs, hx, hr]
  exact h

theorem cell_bind_new (w : World) (a b c : Value) (T : Nat) : ∀ j u, ([a, b, c] : List Value)[j]? = some u → (w.alloc (.cells #[a, b, c] T)).cell? ((⟨w.heap.size, 0, none⟩ : Addr).add j) = some u := fun j u h => by
  have hb := Blk.new w #[a, b, c] T
  have h1 : (⟨w.heap.size, 0, none⟩ : Addr).add j = ⟨w.heap.size, j, none⟩ := by
    by_cases h0 : j = 0
    · subst h0; simp [Addr.add]
    · simp [Addr.add, h0]
  rw [h1, hb.cell j]
  simpa using h
theorem rbinds_append {w w1 w2 : World} {N : Nat} {Y : Nat → Prop} {v : Value} {cs : List Bc} (h : BRow w N Y v cs) (hN : N ≤ w.heap.size) (hY : ∀ b, Y b → b < N) (hb : Below w.heap.size w w1) (x : Bc) (ht : Sl w1 (fun b => Y b ∨ w.heap.size ≤ b) x.2.1 x.1.t.args) (hn : cs.length ≤ 1000000) (A : Nat) (hA : w1.heap.size = A) (hw2 : w2 = w1.alloc (.cells #[.string x.1.nm, .string x.1.t.name, .slice x.2.1 x.1.t.args.length x.2.2] 46)) :
    ∃ v2 w3, (Builtin.append_ #[30, 30] 30 #[v, .slice (some ⟨A, 0, none⟩) 1 1]).run Try.prog w2 = .ok v2 w3 ∧ BRow w3 N Y v2 (cs ++ [x]) ∧ w2.grownBy w3 v.ownBlock := by
  subst hA
  subst hw2
  obtain ⟨i0, hi, hz0, hz1, hz2⟩ := info_parts Try.infoBind
  have hbs := hb.size
  obtain ⟨g, cap, w3, hr, ho, hg, hat, hlt⟩ := run_append_lies (P := Try.prog) (w := w1.alloc (.cells #[.string x.1.nm, .string x.1.t.name, .slice x.2.1 x.1.t.args.length x.2.2] 46)) 30 30 N 46 i0 _ 3 56 Try.underlying30 hi hz0 hz1 hz2 rfl (by decide) v cs.length (flat3 cs) ((h.below hb).own.alloc _)
    ⟨w1.heap.size, 0, none⟩ 1 1 (enc3 x) rfl (cell_bind_new _ _ _ _ _) (fun y hy => by simp [enc3] at hy; rcases hy with rfl | rfl | rfl <;> rfl) (by decide) (by unfold maxLen; omega) (by omega) (by simp; omega) _ rfl
  exact ⟨_, w3, hr, h.push hN hY hb ht _ rfl ho hg hat, hg⟩
theorem xyz_at (k : Nat) (h : k < 3) : ∃ s, ([xN, yN, zN] : List ByteArray)[k]? = some s ∧ [xN, yN, zN].take (k + 1) = [xN, yN, zN].take k ++ [s] := by
  match k, h with
  | 0, _ => exact ⟨_, rfl, rfl⟩
  | 1, _ => exact ⟨_, rfl, rfl⟩
  | 2, _ => exact ⟨_, rfl, rfl⟩
theorem tdiv3 (y : Int) (h : Rng y) : -9223372036854775808 ≤ y.tdiv 3 ∧ y.tdiv 3 ≤ 9223372036854775807 := by
  obtain ⟨h3, h4⟩ := h
  have h5 : y.natAbs ≤ 9223372036854775808 := by omega
  have h6 : (y.tdiv 3).natAbs ≤ 9223372036854775808 / 3 := by
    rw [Int.natAbs_tdiv]
    exact Nat.div_le_div_right h5
  generalize y.tdiv 3 = z at *
  have h7 : z.natAbs ≤ 3074457345618258602 := h6
  omega
theorem bv_drop {w : World} {X : Nat → Prop} {a : Option Addr} {c : Nat} {l : List Bd} (h : BV w X (.slice a l.length c) l) (k : Nat) (hk : k < l.length) : BV w X (.slice (Option.map (fun x : Addr => x.add (k * 3)) a) (l.length - k) (c - k)) (l.drop k) := by
  obtain ⟨a', c', e, ⟨hl1, hl2⟩, hq⟩ := h
  simp at e
  obtain ⟨rfl, rfl⟩ := e
  refine ⟨_, c - k, by rw [List.length_drop], ⟨by rw [List.length_drop]; omega, by rw [List.length_drop]; omega⟩, ?_⟩
  rcases hq with hq | ⟨b, o, rfl, hX, hq⟩
  · rw [hq] at hk; simp at hk
  · refine Or.inr ⟨b, o + k * 3, ?_, hX, fun i hi => ?_⟩
    · by_cases h0 : k = 0
      · subst h0; simp [Addr.add]
      · have h3 : ¬ k * 3 = 0 := by omega
        simp [Addr.add, h3]
    · rw [List.length_drop] at hi
      have h7 := hq (k + i) (by omega)
      rw [show o + (k + i) * 3 = o + k * 3 + i * 3 by omega] at h7
      simpa [List.getElem_drop] using h7
theorem onAll_one (ls : List Bd) (t : Tm) (u v : Value) (w : World) (X : Nat → Prop) (hu : BV w X u ls) (hv : TV w X v t) (hsm : sizeL [t] ≤ 1000000) :
    Calls Try.prog 10 #[u, v] w fun e w' => ∃ (t' : Tm) (a : Option Addr) (c : Nat) (ok : Bool), e = .returned (.tuple #[.agg #[.string t'.name, .slice a t'.args.length c], .bool ok]) ∧ Below w.heap.size w w' ∧ (ok = true → t' = onT ls t) ∧ (sizeL [onT ls t] ≤ 2000 → ok = true) ∧ Sl w' (fun b => (X b ∧ b < w.heap.size) ∨ w.heap.size ≤ b) a t'.args := by
  refine (onAll_any ls t u v w X hu hv hsm).mono ?_
  rintro e w' ⟨hb, ⟨h1, rfl⟩ | ⟨h1, a, c, rfl, hs⟩⟩
  · exact ⟨⟨⟨#[]⟩, []⟩, none, 0, false, rfl, hb, by simp, fun h => absurd h (by omega), ⟨by simp, Or.inl rfl⟩⟩
  · exact ⟨onT ls t, a, c, true, rfl, hb, fun _ => rfl, fun _ => rfl, hs⟩
theorem pairsE_mk {ls : List Pr} (hl : ls.length ≤ 40) (h : ∀ p ∈ ls, mayE p.l = 0 ∧ mayE p.r = 0) : pairsE ls = 0 := by
  unfold pairsE
  rw [if_neg (by omega)]
  have key : ∀ k, pmT ls k = 0 := fun k => by
    induction k with
    | zero => rfl
    | succ k ih =>
      rw [pmT, if_pos ih]
      cases hk : ls[k]? with
      | none => rfl
      | some p =>
        have hp := List.mem_of_getElem? hk
        show twoE p.l p.r = 0
        unfold twoE
        rw [if_pos (h p hp).1]
        exact (h p hp).2
  exact key _
theorem apply_small {R : List Bd} (hE : bindsE R = 0) {t : Tm} (hm : mayE t = 0) (hz : sizeL [onT R t] ≤ 2000) (u v : Value) (w : World) (X : Nat → Prop) (hu : BV w X u R) (hv : TV w X v t) :
    Calls Try.prog 14 #[u, v] w fun e w' => ∃ a' c', e = .returned (.tuple #[.agg #[.string (onT R t).name, .slice a' (onT R t).args.length c'], .int .i64 0]) ∧ Sl w' (fun _ => True) a' (onT R t).args ∧ Below w.heap.size w w' := by
  refine (apply_on R t u v w X hu hv).mono ?_
  rintro e w' ⟨hb, ⟨h, _⟩ | ⟨_, h, _⟩ | ⟨_, _, ⟨_, a', c', rfl, hs'⟩ | ⟨h, _⟩⟩⟩
  · exact absurd hE h
  · exact absurd hm h
  · rw [fT_onT hE t hm] at hs' ⊢
    exact ⟨a', c', rfl, hs'.mono fun _ _ _ => trivial, hb⟩
  · rw [fT_onT hE t hm] at h
    omega
theorem on_small (ls : List Bd) (t : Tm) (u v : Value) (w : World) (X : Nat → Prop) (hu : BV w X u ls) (hv : TV w X v t) (hsm : sizeL [t] ≤ 1000000) (hz : sizeL [onT ls t] ≤ 2000) :
    Calls Try.prog 10 #[u, v] w fun e w' => ∃ a c, e = .returned (.tuple #[.agg #[.string (onT ls t).name, .slice a (onT ls t).args.length c], .bool true]) ∧ Sl w' (fun _ => True) a (onT ls t).args ∧ Below w.heap.size w w' := by
  refine (onAll_any ls t u v w X hu hv hsm).mono ?_
  rintro e w' ⟨hb, ⟨h1, _⟩ | ⟨h1, a, c, rfl, hs⟩⟩
  · omega
  · exact ⟨a, c, rfl, hs.mono fun _ _ _ => trivial, hb⟩
/-- So many pairs are looked at. -/
def R3Inv (w : World) (lsP : List Pr) (R s : List Bd) (lv mv sv : Value) (i : Value) (wr : World) : Prop :=
  ∃ j : Nat, j ≤ lsP.length ∧ i = .int .i64 (j : Int) ∧ QV wr (fun _ => True) lv lsP ∧ BV wr (fun _ => True) mv R ∧ BV wr (fun _ => True) sv s ∧ Below w.heap.size w wr
/-- So many names are looked at. -/
def R4Inv (w : World) (NB : Nat) (R s : List Bd) (mv sv : Value) (i : Value) (wr : World) : Prop :=
  ∃ j : Nat, j ≤ 4 ∧ i = .int .i64 (j : Int) ∧ Blk wr NB #[.string ⟨#[88]⟩, .string ⟨#[89]⟩, .string ⟨#[90]⟩, .string ⟨#[85]⟩] 9 ∧ BV wr (fun _ => True) mv R ∧ BV wr (fun _ => True) sv s ∧ Below w.heap.size w wr
theorem name_at (j : Nat) (h : j < 4) : ∃ n ∈ [xN, yN, zN, uN], (#[.string ⟨#[88]⟩, .string ⟨#[89]⟩, .string ⟨#[90]⟩, .string ⟨#[85]⟩] : Array Value)[j]? = some (.string n) := by
  match j, h with
  | 0, _ => exact ⟨xN, by simp, rfl⟩
  | 1, _ => exact ⟨yN, by simp, rfl⟩
  | 2, _ => exact ⟨zN, by simp, rfl⟩
  | 3, _ => exact ⟨uN, by simp, rfl⟩
/-- Of the pairs, so many are made. -/
def RlInv (w : World) (N : Nat) (s : List Bd) (sv : Value) (kk : Nat) (l i : Value) (wr : World) : Prop :=
  ∃ (k : Nat) (cs : List Pc), k ≤ 3 ∧ i = .int .i64 (k : Int) ∧ cs.length = k ∧ N ≤ wr.heap.size ∧ QRow wr N (fun b => b < N) l cs ∧ BV wr (fun b => b < N) sv s ∧ (∀ x ∈ cs, RbPair s kk x.1) ∧ Below w.heap.size w wr
/-- Of the three, so many are made. -/
def RsInv (w : World) (s i : Value) (wr : World) : Prop :=
  ∃ (k : Nat) (cs : List Bc), k ≤ 3 ∧ i = .int .i64 (k : Int) ∧ BRow wr w.heap.size (fun _ => False) s cs ∧ (cs.map fun x => x.1.nm) = [xN, yN, zN].take k ∧ (∀ x ∈ cs, OnlyU x.1.t ∧ sizeL [x.1.t] ≤ 11) ∧ Below w.heap.size w wr

set_option maxHeartbeats 20000000 in
theorem topRobinson_any (FA : Hid (∀ w, Calls Try.prog 21 #[] w fun e w' => e = .returned (.bool true) ∧ Below w.heap.size w w')) (zs : List Int) (hr : ∀ z ∈ zs, Rng z) (y1 : Int) (hy1 : Rng y1) (y2 : Int) (hy2 : Rng y2) (u : Value) (w : World) (X : Nat → Prop) (hu : PV w X u zs) :
    Calls Try.prog 4 #[u, .int .i64 y1, .int .i64 y2] w fun e w' => e = .returned (.bool true) ∧ Below w.heap.size w w' := by
  have HU := hide hu
  obtain ⟨a, c, rfl, hlc, hu2⟩ := hu
  clear hu2
  by_cases h256 : 256 < zs.length
  · go_enter Try.func4, Try.ntmps4
    go_wp2_with fail
    go_ret
    exact ⟨rfl, Below.refl _ _⟩
  · go_enter Try.func4, Try.ntmps4
    go_wp2_with fail
    go_loopw [7, 8] (fun s i wr => RsInv w s i wr) (fun s i wr => 3 - (intOf i).toNat)
    case atStart => exact ⟨0, [], by omega, rfl, BRow.start _ _ _, by simp, by simp, Below.refl _ _⟩
    case round =>
      obtain ⟨k, cs, hk, rfl, hrow, hnm, hall, hb⟩ := hrel
      have HROW := hide hrow
      have HNM := hide hnm
      have HALL := hide hall
      have HB := hide hb
      clear hrow hnm hall hb
      by_cases hlt : k < 3
      · have hlt2 : (k : Int) < 3 := by omega
        have hw1 : IntKind.i64.wrap (9 * (k : Int)) = 9 * (k : Int) := by rw [IntKind.wrap_i64]; omega
        go_wp2_with fail
        refine (leaf_any _ _).mono ?_
        rintro e w1 ⟨rfl, hb1⟩
        have hbA : Below w1.heap.size w1 (w1.alloc (.cells #[.string ⟨#[88]⟩, .string ⟨#[85]⟩, .slice none 0 0] 46)) := (Below.refl _ _).alloc (Nat.le_refl _) _
        have V2 := hide (bv_single _ wr.heap.size _ _ _ _ (Blk.new w1 #[.string ⟨#[88]⟩, .string ⟨#[85]⟩, .slice none 0 0] 46) hb1.size)
        have hb2 := hb1.trans (hbA.mono hb1.size)
        have D2 := hide hb2
        have HB2 := hide (HB.out.trans (hb2.mono HB.out.size))
        clear hb1 hbA hb2
        go_wp2_with fail
        generalize w1.alloc (.cells #[.string ⟨#[88]⟩, .string ⟨#[85]⟩, .slice none 0 0] 46) = w2 at *
        have TO := termOfV_any 1 (by omega) (by omega) zs hr (by omega) 6 (9 * k) (.slice a zs.length c) w2 X (HU.out.later HB2.out) (by omega) (by simp [top]; omega)
        have e1 : ((9 * k : Nat) : Int) = 9 * (k : Int) := by omega
        rw [e1] at TO
        refine TO.mono ?_
        clear TO
        rintro e w3 ⟨t3, a3, c3, rfl, hs3, hz3, hb3, hok3⟩
        have D3 := hide (D2.out.trans (hb3.mono D2.out.size))
        have HB3 := hide (HB2.out.trans (hb3.mono HB2.out.size))
        have V3 := hide (V2.out.later hb3)
        have hz3' : sizeL [t3] ≤ 11 := by simpa [top] using hz3
        have S3 := hide hs3
        clear hb3 hs3 hz3
        go_wp2_with fail
        refine (onAll_any [⟨xN, ⟨uN, []⟩⟩] t3 _ _ w3 (fun b => wr.heap.size ≤ b) V3.out ⟨_, _, rfl, S3.out.mono fun b hb _ => Nat.le_trans D2.out.size hb⟩ (by omega)).mono ?_
        rintro e w4 ⟨hb4, ⟨h2000, rfl⟩ | ⟨h2000, a4, c4, rfl, hs4⟩⟩
        · have := size_u (r := t3) hz3'
          omega
        · have HOU := hide (onlyU_of hok3)
          have HSZ := hide (size_u (r := t3) hz3')
          generalize onT [⟨xN, ⟨uN, []⟩⟩] t3 = t4 at *
          have D4 := hide (D3.out.trans (hb4.mono D3.out.size))
          have HB4 := hide (HB3.out.trans (hb4.mono HB3.out.size))
          have S4 := hide (hs4.mono (Y := fun b => wr.heap.size ≤ b) fun b hb _ => by
            rcases hb with h | h
            · exact h.1
            · exact Nat.le_trans D3.out.size h)
          clear hb4 hs4 hok3
          obtain ⟨nm, hnk, hntk⟩ := xyz_at k hlt
          have hbB : Below w4.heap.size w4 ((w4.alloc (.cells #[.string t4.name, .slice a4 t4.args.length c4] 25)).alloc (.cells #[.string ⟨#[88]⟩, .string ⟨#[89]⟩, .string ⟨#[90]⟩] 9)).drew := (((Below.refl _ _).alloc (Nat.le_refl _) _).alloc (by simp) _).drew
          have P4 := Blk.new w4 #[.string t4.name, .slice a4 t4.args.length c4] 25
          have hS0 : (w4.alloc (.cells #[.string t4.name, .slice a4 t4.args.length c4] 25)).cell? ⟨w4.heap.size, 0, none⟩ = some (.string t4.name) ∧ (w4.alloc (.cells #[.string t4.name, .slice a4 t4.args.length c4] 25)).cell? ⟨w4.heap.size, 1, none⟩ = some (.slice a4 t4.args.length c4) := ⟨P4.cell 0, P4.cell 1⟩
          have HS0 := hide hS0
          have HKS : Hid (∀ o, ((w4.alloc (.cells #[.string t4.name, .slice a4 t4.args.length c4] 25)).alloc o).cell? ⟨w4.heap.size, 0, none⟩ = some (.string t4.name) ∧ ((w4.alloc (.cells #[.string t4.name, .slice a4 t4.args.length c4] 25)).alloc o).cell? ⟨w4.heap.size, 1, none⟩ = some (.slice a4 t4.args.length c4)) := fun o => ⟨(P4.alloc o).cell 0, (P4.alloc o).cell 1⟩
          have HKS2 : Hid (∀ o o2, (((w4.alloc (.cells #[.string t4.name, .slice a4 t4.args.length c4] 25)).alloc o).alloc o2).cell? ⟨w4.heap.size, 0, none⟩ = some (.string t4.name) ∧ (((w4.alloc (.cells #[.string t4.name, .slice a4 t4.args.length c4] 25)).alloc o).alloc o2).cell? ⟨w4.heap.size, 1, none⟩ = some (.slice a4 t4.args.length c4)) := fun o o2 => ⟨((P4.alloc o).alloc o2).cell 0, ((P4.alloc o).alloc o2).cell 1⟩
          have hn5 : ((w4.alloc (.cells #[.string t4.name, .slice a4 t4.args.length c4] 25)).alloc (.cells #[.string ⟨#[88]⟩, .string ⟨#[89]⟩, .string ⟨#[90]⟩] 9)).drew.cell? ⟨w4.heap.size + 1, k, none⟩ = some (.string nm) := by
            have h1 := (Blk.new (w4.alloc (.cells #[.string t4.name, .slice a4 t4.args.length c4] 25)) #[.string ⟨#[88]⟩, .string ⟨#[89]⟩, .string ⟨#[90]⟩] 9).cell k
            rw [World.size_alloc] at h1
            refine h1.trans ?_
            have h2 : (#[Value.string ⟨#[88]⟩, .string ⟨#[89]⟩, .string ⟨#[90]⟩] : Array Value) = (([xN, yN, zN] : List ByteArray).map Value.string).toArray := rfl
            rw [h2, List.getElem?_toArray, List.getElem?_map, hnk]
            rfl
          have hlenc : cs.length ≤ 1000000 := by
            have h := congrArg List.length HNM.out
            simp at h
            omega
          have hzA : ((w4.alloc (.cells #[.string t4.name, .slice a4 t4.args.length c4] 25)).alloc (.cells #[.string ⟨#[88]⟩, .string ⟨#[89]⟩, .string ⟨#[90]⟩] 9)).drew.heap.size = w4.heap.size + 1 + 1 := by simp
          obtain ⟨v6, w6, hrun, hrow6, hg6⟩ := rbinds_append (w2 := (((w4.alloc (.cells #[.string t4.name, .slice a4 t4.args.length c4] 25)).alloc (.cells #[.string ⟨#[88]⟩, .string ⟨#[89]⟩, .string ⟨#[90]⟩] 9)).alloc (.cells #[.string nm, .string t4.name, .slice a4 t4.args.length c4] 46)).drew) HROW.out HB.out.size (fun _ h => h.elim) (D4.out.trans (hbB.mono D4.out.size)) (⟨nm, t4⟩, a4, c4) ((S4.out.later hbB).mono fun b hb _ => Or.inr hb) hlenc (w4.heap.size + 1 + 1) hzA rfl
          have HRUN := hide hrun
          have HROW6 := hide hrow6
          have hltr := HROW.out.own.lt
          have HB6 : Hid (Below w.heap.size w w6) := ((((HB4.out.alloc HB4.out.size _).alloc (by have := HB4.out.size; simp; omega) _).alloc (by have := HB4.out.size; simp; omega) _).drew).grown hg6 (by have := HB4.out.size; simp; omega) (fun j hj => (hltr j hj).1)
          have HS6 : Hid (w6.cell? ⟨w4.heap.size, 0, none⟩ = some (.string t4.name) ∧ w6.cell? ⟨w4.heap.size, 1, none⟩ = some (.slice a4 t4.args.length c4)) := by
            have h1 : Blk w6 w4.heap.size #[.string t4.name, .slice a4 t4.args.length c4] 25 := (((P4.alloc _).alloc _).drewN 1).grown hg6 (fun e => by have := (hltr _ e.symm).2; have := D4.out.size; omega)
            exact ⟨h1.cell 0, h1.cell 1⟩
          have HNM6 : Hid (((cs ++ [((⟨nm, t4⟩, a4, c4) : Bc)]).map fun x : Bc => x.1.nm) = [xN, yN, zN].take (k + 1)) := by
            unfold Hid
            rw [hntk, List.map_append, HNM.out]
            rfl
          have HALL6 : Hid (∀ x ∈ cs ++ [((⟨nm, t4⟩, a4, c4) : Bc)], OnlyU x.1.t ∧ sizeL [x.1.t] ≤ 11) := fun x hx => by
            rcases List.mem_append.1 hx with hx | hx
            · exact HALL.out x hx
            · have e : x = (⟨nm, t4⟩, a4, c4) := by simpa using hx
              subst e
              exact ⟨HOU.out, HSZ.out⟩
          clear hrun hrow6 hg6 hltr hnk hntk hbB hS0 P4
          go_wp2_with fail
          refine wp_region_held_drew (S := (fun w' => w'.cell? ⟨w4.heap.size, 0, none⟩ = some (.string t4.name) ∧ w'.cell? ⟨w4.heap.size, 1, none⟩ = some (.slice a4 t4.args.length c4))) (by kernel_rfl) HS0.out (fun hHeld => ?_)
          refine wpAnyH_take (i := 0) (v := ?_) rfl (by kernel_rfl) (by kernel_rfl) (by kernel_rfl) (fun _ _ _ h => h) (Or.inl ⟨by rfl, ?_⟩) (by assumption) ?_
          rotate_left
          · intro w' hSw
            obtain ⟨k1, k2⟩ := hSw
            go_simp <;> with_reducible rfl
          try simp only [Act.put, List.setIfInBounds_toArray, List.set_cons_zero, List.set_cons_succ, List.getElem_toArray, List.getElem_cons_succ, List.getElem_cons_zero]
          refine wpAnyH_take (i := 2) (v := ?_) rfl (by kernel_rfl) (by kernel_rfl) (by kernel_rfl) (fun _ _ _ h => h) (Or.inl ⟨by rfl, ?_⟩) (by assumption) ?_
          rotate_left
          · intro w' hSw
            obtain ⟨k1, k2⟩ := hSw
            go_simp <;> with_reducible rfl
          try simp only [Act.put, List.setIfInBounds_toArray, List.set_cons_zero, List.set_cons_succ, List.getElem_toArray, List.getElem_cons_succ, List.getElem_cons_zero]
          refine wpAnyH_take (i := 5) (v := ?_) rfl (by kernel_rfl) (by kernel_rfl) (by kernel_rfl) (fun _ _ _ h => h) (Or.inl ⟨by rfl, ?_⟩) (by assumption) ?_
          rotate_left
          · intro w' hSw
            obtain ⟨k1, k2⟩ := hSw
            go_simp <;> with_reducible rfl
          try simp only [Act.put, List.setIfInBounds_toArray, List.set_cons_zero, List.set_cons_succ, List.getElem_toArray, List.getElem_cons_succ, List.getElem_cons_zero]
          refine wpAnyH_ready (rs := [1]) (by kernel_rfl) (by simp) ?_
          refine AllReadyH.cons rfl (fun K hK => ?_) AllReadyH.nil
          · go_simp
            refine hK.out _ _ (by exact HKS.out _) (fun hHeld => ?_)
            clear hK K
            try simp only [Act.put, List.setIfInBounds_toArray, List.set_cons_zero, List.set_cons_succ, List.getElem_toArray, List.getElem_cons_succ, List.getElem_cons_zero]
            refine wpAnyH_take (i := 3) (v := ?_) rfl (by kernel_rfl) (by kernel_rfl) (by kernel_rfl) (fun _ _ _ h => h) (Or.inl ⟨by rfl, ?_⟩) (by assumption) ?_
            rotate_left
            · intro w' hSw
              obtain ⟨k1, k2⟩ := hSw
              go_simp <;> with_reducible rfl
            try simp only [Act.put, List.setIfInBounds_toArray, List.set_cons_zero, List.set_cons_succ, List.getElem_toArray, List.getElem_cons_succ, List.getElem_cons_zero]
            refine wpAnyH_ready (rs := [4]) (by kernel_rfl) (by simp) ?_
            refine AllReadyH.cons rfl (fun K hK => ?_) AllReadyH.nil
            · go_simp
              refine hK.out _ _ (by exact HKS.out _) (fun hHeld => ?_)
              clear hK K
              try simp only [Act.put, List.setIfInBounds_toArray, List.set_cons_zero, List.set_cons_succ, List.getElem_toArray, List.getElem_cons_succ, List.getElem_cons_zero]
              refine wpAnyH_take (i := 6) (v := ?_) rfl (by kernel_rfl) (by kernel_rfl) (by kernel_rfl) (fun _ _ _ h => h) (Or.inl ⟨by rfl, ?_⟩) (by assumption) ?_
              rotate_left
              · intro w' hSw
                obtain ⟨k1, k2⟩ := hSw
                go_simp <;> with_reducible rfl
              try simp only [Act.put, List.setIfInBounds_toArray, List.set_cons_zero, List.set_cons_succ, List.getElem_toArray, List.getElem_cons_succ, List.getElem_cons_zero]
              refine wpAnyH_ready (rs := [7]) (by kernel_rfl) (by simp) ?_
              refine AllReadyH.cons rfl (fun K hK => ?_) AllReadyH.nil
              · go_simp
                refine hK.out _ _ (by exact HKS2.out _ _) (fun hHeld => ?_)
                clear hK K
                try simp only [Act.put, List.setIfInBounds_toArray, List.set_cons_zero, List.set_cons_succ, List.getElem_toArray, List.getElem_cons_succ, List.getElem_cons_zero]
                refine wpAnyH_ready (rs := [8]) (by kernel_rfl) (by simp) ?_
                refine AllReadyH.cons rfl (fun K hK => ?_) AllReadyH.nil
                · refine stepA_eq rfl _ _ _ _ rfl rfl rfl HRUN.out ?_
                  refine hK.out _ _ (by exact HS6.out) (fun hHeld => ?_)
                  clear hK K
                  try simp only [Act.put, List.setIfInBounds_toArray, List.set_cons_zero, List.set_cons_succ, List.getElem_toArray, List.getElem_cons_succ, List.getElem_cons_zero]
                  refine wpAnyH_take (i := 9) (v := ?_) rfl (by kernel_rfl) (by kernel_rfl) (by kernel_rfl) (fun _ _ _ h => h) (Or.inl ⟨by rfl, ?_⟩) (by assumption) ?_
                  rotate_left
                  · intro w' hSw
                    obtain ⟨k1, k2⟩ := hSw
                    go_simp <;> with_reducible rfl
                  try simp only [Act.put, List.setIfInBounds_toArray, List.set_cons_zero, List.set_cons_succ, List.getElem_toArray, List.getElem_cons_succ, List.getElem_cons_zero]
                  refine wpAnyH_done (by kernel_rfl) ?_ _
                  clear HS0 HKS HKS2
                  go_wp2_with fail
                  go_roundw
                  case rel => exact ⟨k + 1, _, by omega, by go_num, HROW6.out, HNM6.out, HALL6.out, HB6.out⟩
                  case measure => simp [intOf]; omega
      · have HSX : Hid (Sxyz (cs.map (·.1))) := by
          refine ⟨?_, fun d hd => ?_⟩
          · have h := HNM.out
            rw [List.take_of_length_le (by simp; omega)] at h
            rw [List.map_map]
            exact h
          · obtain ⟨x, hx, rfl⟩ := List.mem_map.1 hd
            exact HALL.out x hx
        have HSV := hide HROW.out.bv
        have HWR := hide HB.out
        clear HROW HNM HALL
        have hkk : pickN (y1.tdiv 3) 3 < 3 := pickN_lt _ _ (by decide)
        generalize hsd : cs.map (·.1) = sB at *
        have hsl : sB.length = 3 := by
          have h := congrArg List.length HSX.out.names
          simpa using h
        have hsv := HSV.out
        obtain ⟨a7, c7, rfl, ⟨hl7, hc7⟩, hcell7⟩ := hsv
        clear hcell7
        rw [hsl] at HSV
        rw [hsl]
        go_wp2_with fail
        go_loopw [11, 12] (fun l i w9 => RlInv w wr.heap.size sB (.slice a7 3 c7) (pickN (y1.tdiv 3) 3) l i w9) (fun l i w9 => 4 - (intOf i).toNat)
        case atStart => exact ⟨0, [], by omega, rfl, rfl, Nat.le_refl _, QRow.start _ _ _, HSV.out.mono (fun b _ h => h), by simp, HB.out⟩
        case round =>
          obtain ⟨i9, cs9, hi9, rfl, hlen9, hN9, hrow9, hsv9, hall9, hb9⟩ := hrel
          have HROW9 := hide hrow9
          have HSV9 := hide hsv9
          have HALL9 := hide hall9
          have HB9 := hide hb9
          clear hrow9 hsv9 hall9 hb9 HSV HB
          have hw1 : IntKind.i64.wrap (20 * (i9 : Int)) = 20 * (i9 : Int) := by rw [IntKind.wrap_i64]; omega
          have hw2 : IntKind.i64.wrap (40 + 20 * (i9 : Int)) = 40 + 20 * (i9 : Int) := by rw [IntKind.wrap_i64]; omega
          have hkm : pickN y1 3 < 3 := pickN_lt _ _ (by decide)
          have hw3 : IntKind.i64.wrap (1 + (pickN y1 3 : Int)) = 1 + (pickN y1 3 : Int) := by rw [IntKind.wrap_i64]; omega
          go_wp2_with fail
          refine (pick_eq y1 3 (by decide) (by decide) hy1 _).mono ?_
          rintro e w10 ⟨rfl, rfl⟩
          by_cases hlt9 : i9 < 1 + pickN y1 3
          · have hlt9' : (i9 : Int) < 1 + (pickN y1 3 : Int) := by omega
            go_wp2_with fail
            refine (pick_any y2 9 (by decide) (by decide) hy2 _).mono ?_
            rintro e w11 ⟨k9, rfl, hk9, rfl⟩
            have hw4 : IntKind.i64.wrap (1 + (k9 : Int)) = 1 + (k9 : Int) := by rw [IntKind.wrap_i64]; omega
            have htop : top (1 + k9) ≤ 17 := by unfold top; split <;> omega
            have TO := termOfV_any 3 (by omega) (by omega) zs hr (by omega) (1 + k9) (40 + 20 * i9) (.slice a zs.length c) w11 X (HU.out.later HB9.out) (by omega) (by omega)
            have e1 : ((40 + 20 * i9 : Nat) : Int) = 40 + 20 * (i9 : Int) := by omega
            have e2 : ((1 + k9 : Nat) : Int) = 1 + (k9 : Int) := by omega
            rw [e1, e2] at TO
            have TOH := hide TO
            clear TO e1 e2
            go_wp2_with fail
            refine TOH.out.mono ?_
            rintro e w12 ⟨t12, a12, c12, rfl, hs12, hz12, hb12, hok12⟩
            have hbA : Below w12.heap.size w12 (w12.alloc (.cells #[.string t12.name, .slice a12 t12.args.length c12] 25)) := (Below.refl _ _).alloc (Nat.le_refl _) _
            have hb13 := hb12.trans (hbA.mono hb12.size)
            have D13 := hide hb13
            have HB13 := hide (HB9.out.trans (hb13.mono HB9.out.size))
            have HT13 := hide (Blk.new w12 #[.string t12.name, .slice a12 t12.args.length c12] 25)
            have HS13 := hide (hs12.later hbA)
            have HV13 := hide (HSV9.out.later hb13)
            have hzt : sizeL [t12] ≤ 17 := by omega
            have t0 := HT13.out.cell 0
            have t1 := HT13.out.cell 1
            have hrg := tdiv3 y1 hy1
            have hwq : IntKind.i64.wrap (y1.tdiv 3) = y1.tdiv 3 := by rw [IntKind.wrap_i64]; omega
            clear hb12 hbA hb13 hs12 TOH
            have HS0 := hide (And.intro t0 t1)
            have PK := hide (fun w' : World => pick_eq (y1.tdiv 3) 3 (by decide) (by decide) hrg w')
            have hkI0 : (0 : Int) ≤ (pickN (y1.tdiv 3) 3 : Int) := by omega
            have hkI3 : (pickN (y1.tdiv 3) 3 : Int) ≤ (sB.length : Int) := by omega
            have hkI4 : (pickN (y1.tdiv 3) 3 : Int) ≤ 3 := by omega
            have hkI5 : (pickN (y1.tdiv 3) 3 : Int) ≤ (c7 : Int) := by omega
            have hkI6 : ¬ (3 : Int) < (pickN (y1.tdiv 3) 3 : Int) := by omega
            have hkN : pickN (y1.tdiv 3) 3 ≤ 3 := by omega
            have hsl3 : ∀ w', (Instr.slice 30 (.slice a7 3 c7) (some (.int .i64 (pickN (y1.tdiv 3) 3 : Int))) none none).run Try.prog w' = .ok (.slice (Option.map (fun x : Addr => x.add (pickN (y1.tdiv 3) 3 * 3)) a7) (3 - pickN (y1.tdiv 3) 3) (c7 - pickN (y1.tdiv 3) 3)) w' := fun w' => by
              rw [run_slice_l (P := Try.prog) (ht := Try.underlying30) (h0 := hkI0) (h1 := by simpa using hkI4)]
              have hne : ¬ c7 - pickN (y1.tdiv 3) 3 = 0 := by omega
              simp [go_sem, sliced, hne]
              intro h
              omega
            have ONH : Hid (∀ W, Below (w12.alloc (.cells #[.string t12.name, .slice a12 t12.args.length c12] 25)).heap.size (w12.alloc (.cells #[.string t12.name, .slice a12 t12.args.length c12] 25)) W → Calls Try.prog 10 #[.slice (Option.map (fun x : Addr => x.add (pickN (y1.tdiv 3) 3 * 3)) a7) (3 - pickN (y1.tdiv 3) 3) (c7 - pickN (y1.tdiv 3) 3), .agg #[.string t12.name, .slice a12 t12.args.length c12]] W fun e w' => ∃ (t' : Tm) (a : Option Addr) (c : Nat) (ok : Bool), e = .returned (.tuple #[.agg #[.string t'.name, .slice a t'.args.length c], .bool ok]) ∧ Below W.heap.size W w' ∧ (ok = true → t' = onT (sB.drop (pickN (y1.tdiv 3) 3)) t12) ∧ (sizeL [onT (sB.drop (pickN (y1.tdiv 3) 3)) t12] ≤ 2000 → ok = true) ∧ Sl w' (fun b => ((b < wr.heap.size ∨ w11.heap.size ≤ b) ∧ b < w12.heap.size + 1) ∨ W.heap.size ≤ b) a t'.args) := fun W hD => by
              have h0 := (HV13.out.mono (Y := fun b => (b < wr.heap.size ∨ w11.heap.size ≤ b) ∧ b < w12.heap.size + 1) fun b h1 h2 => ⟨Or.inl h1, by simpa using h2⟩).later hD
              rw [← hsl] at h0
              have h1 := bv_drop h0 (pickN (y1.tdiv 3) 3) (by omega)
              rw [hsl] at h1
              refine (onAll_one _ t12 _ _ _ (fun b => (b < wr.heap.size ∨ w11.heap.size ≤ b) ∧ b < w12.heap.size + 1) h1 ⟨_, _, rfl, ((HS13.out.mono (Y := fun b => w11.heap.size ≤ b ∧ b < w12.heap.size + 1) fun b h1 h2 => ⟨h1, by simpa using h2⟩).later hD).mono fun b hb _ => ⟨Or.inr hb.1, hb.2⟩⟩ (by omega)).mono ?_
              rintro e w' ⟨t', a', c', ok, rfl, h2, h3, h4, h5⟩
              exact ⟨t', a', c', ok, rfl, h2, h3, h4, h5.mono fun b hb _ => hb.imp (fun h => h.1) id⟩
            have D0 : Below (w12.alloc (.cells #[.string t12.name, .slice a12 t12.args.length c12] 25)).heap.size (w12.alloc (.cells #[.string t12.name, .slice a12 t12.args.length c12] 25)) (w12.alloc (.cells #[.string t12.name, .slice a12 t12.args.length c12] 25)).drew := (Below.refl _ _).drew
            have D1 : ∀ o, Below (w12.alloc (.cells #[.string t12.name, .slice a12 t12.args.length c12] 25)).heap.size (w12.alloc (.cells #[.string t12.name, .slice a12 t12.args.length c12] 25)) ((w12.alloc (.cells #[.string t12.name, .slice a12 t12.args.length c12] 25)).alloc o).drew := fun o => ((Below.refl _ _).alloc (Nat.le_refl _) _).drew
            have HD0 := hide D0
            have HD1 := hide D1
            have ONK : Hid (∀ w', Below (w12.alloc (.cells #[.string t12.name, .slice a12 t12.args.length c12] 25)).heap.size (w12.alloc (.cells #[.string t12.name, .slice a12 t12.args.length c12] 25)) w' → w'.cell? ⟨w12.heap.size, 0, none⟩ = some (.string t12.name) ∧ w'.cell? ⟨w12.heap.size, 1, none⟩ = some (.slice a12 t12.args.length c12)) := fun w' h => by
              have h2 : Blk w' w12.heap.size #[.string t12.name, .slice a12 t12.args.length c12] 25 := HT13.out.below h (by simp)
              exact ⟨h2.cell 0, h2.cell 1⟩
            have ZB : Hid (∀ w', Below ((w12.alloc (.cells #[.string t12.name, .slice a12 t12.args.length c12] 25)).alloc (.cells #[.string ⟨#[]⟩, .slice none 0 0] 25)).drew.heap.size ((w12.alloc (.cells #[.string t12.name, .slice a12 t12.args.length c12] 25)).alloc (.cells #[.string ⟨#[]⟩, .slice none 0 0] 25)).drew w' → Blk w' (w12.heap.size + 1) #[.string ⟨#[]⟩, .slice none 0 0] 25) := fun w' h => by
              have h2 := Blk.new (w12.alloc (.cells #[.string t12.name, .slice a12 t12.args.length c12] 25)) #[.string ⟨#[]⟩, .slice none 0 0] 25
              rw [World.size_alloc] at h2
              exact (h2.drewN 1).below h (by simp)
            clear D0 D1
            go_wp2_with fail
            go_region_held3 (fun w' => w'.cell? ⟨w12.heap.size, 0, none⟩ = some (.string t12.name) ∧ w'.cell? ⟨w12.heap.size, 1, none⟩ = some (.slice a12 t12.args.length c12)) (first | exact HS0.out | exact hS15 | exact ONK.out _ (HD1.out _) | go_keep)
              (first
                | (go_at_call 9; refine (PK.out _).mono ?_; rintro e w14 ⟨rfl, rfl⟩)
                | (go_at_call 10; (first | refine (ONH.out _ HD0.out).mono ?_ | refine (ONH.out _ (HD1.out _)).mono ?_); rintro e w15 ⟨t15, a15, c15, ok15, rfl, hb15, hok15, hkk15, hs15⟩; have hb16 : Below (w12.alloc (.cells #[.string t12.name, .slice a12 t12.args.length c12] 25)).heap.size (w12.alloc (.cells #[.string t12.name, .slice a12 t12.args.length c12] 25)) w15 := (by first | exact HD0.out.trans (hb15.mono HD0.out.size) | exact (HD1.out _).trans (hb15.mono (HD1.out _).size)); have hS15 : w15.cell? ⟨w12.heap.size, 0, none⟩ = some (.string t12.name) ∧ w15.cell? ⟨w12.heap.size, 1, none⟩ = some (.slice a12 t12.args.length c12) := ONK.out w15 hb16; (try (have zB : Blk w15 (w12.heap.size + 1) #[.string ⟨#[]⟩, .slice none 0 0] 25 := ZB.out w15 hb15; have z0 := zB.cell 0; have z1 := zB.cell 1; have zf := zB.frozen))))
            all_goals
              have HFI : Hid (∀ W16, Below (w12.alloc (.cells #[.string t12.name, .slice a12 t12.args.length c12] 25)).heap.size (w12.alloc (.cells #[.string t12.name, .slice a12 t12.args.length c12] 25)) W16 → Sl W16 (fun b => ((b < wr.heap.size ∨ w11.heap.size ≤ b) ∧ b < w12.heap.size + 1) ∨ w12.heap.size + 1 ≤ b) a15 t15.args → Below w.heap.size w W16 ∧ Below w11.heap.size w11 W16 ∧ BV W16 (fun b => b < wr.heap.size) (.slice a7 3 c7) sB ∧ Sl W16 (fun b => w11.heap.size ≤ b) a12 t12.args ∧ Sl W16 (fun b => b < wr.heap.size ∨ w11.heap.size ≤ b) a15 t15.args ∧ Blk W16 w12.heap.size #[.string t12.name, .slice a12 t12.args.length c12] 25) := fun W16 h16 hs => by
                have hz := D13.out.size
                simp only [World.size_alloc] at hz
                refine ⟨HB13.out.trans (h16.mono HB13.out.size), D13.out.trans (h16.mono D13.out.size), HV13.out.later h16, HS13.out.later h16, hs.mono fun b hb _ => ?_, HT13.out.below h16 (by simp)⟩
                rcases hb with h | h
                · exact h.1
                · exact Or.inr (by omega)
              first
                | (have HA : Hid (Below (w12.alloc (.cells #[.string t12.name, .slice a12 t12.args.length c12] 25)).heap.size (w12.alloc (.cells #[.string t12.name, .slice a12 t12.args.length c12] 25)) (w15.alloc (.cells #[.string t15.name, .slice a15 t15.args.length c15] 25)) ∧ Blk (w15.alloc (.cells #[.string t15.name, .slice a15 t15.args.length c15] 25)) w15.heap.size #[.string t15.name, .slice a15 t15.args.length c15] 25 ∧ Sl (w15.alloc (.cells #[.string t15.name, .slice a15 t15.args.length c15] 25)) (fun b => ((b < wr.heap.size ∨ w11.heap.size ≤ b) ∧ b < w12.heap.size + 1) ∨ w12.heap.size + 1 ≤ b) a15 t15.args) := by
                    have hbA : Below w15.heap.size w15 (w15.alloc (.cells #[.string t15.name, .slice a15 t15.args.length c15] 25)) := (Below.refl _ _).alloc (Nat.le_refl _) _
                    exact ⟨hb16.trans (hbA.mono hb16.size), Blk.new w15 _ _, (hs15.mono fun b hb _ => hb.imp id fun h => by simpa using h).later hbA⟩
                   generalize (w15.alloc (.cells #[.string t15.name, .slice a15 t15.args.length c15] 25)) = W16 at *
                   generalize w15.heap.size = B16 at *
                   have HBK : Hid (Blk W16 B16 #[.string t15.name, .slice a15 t15.args.length c15] 25) := HA.out.2.1)
                | (have HA : Hid (Below (w12.alloc (.cells #[.string t12.name, .slice a12 t12.args.length c12] 25)).heap.size (w12.alloc (.cells #[.string t12.name, .slice a12 t12.args.length c12] 25)) ((w15.setCell ⟨w12.heap.size + 1, 0, none⟩ (.string t15.name)).setCell ⟨w12.heap.size + 1, 1, none⟩ (.slice a15 t15.args.length c15)) ∧ Blk ((w15.setCell ⟨w12.heap.size + 1, 0, none⟩ (.string t15.name)).setCell ⟨w12.heap.size + 1, 1, none⟩ (.slice a15 t15.args.length c15)) (w12.heap.size + 1) #[.string t15.name, .slice a15 t15.args.length c15] 25 ∧ Sl ((w15.setCell ⟨w12.heap.size + 1, 0, none⟩ (.string t15.name)).setCell ⟨w12.heap.size + 1, 1, none⟩ (.slice a15 t15.args.length c15)) (fun b => ((b < wr.heap.size ∨ w11.heap.size ≤ b) ∧ b < w12.heap.size + 1) ∨ w12.heap.size + 1 ≤ b) a15 t15.args) := by
                    have h3 := (zB.set 0 (.string t15.name)).set 1 (.slice a15 t15.args.length c15)
                    refine ⟨(hb16.setCell (by simp) _).setCell (by simp) _, by simpa using h3, (((hs15.mono (Y := fun b => b ≠ w12.heap.size + 1 ∧ (((b < wr.heap.size ∨ w11.heap.size ≤ b) ∧ b < w12.heap.size + 1) ∨ w12.heap.size + 1 ≤ b)) fun b hb _ => ?_).kept fun b hb => ?_)).mono fun b hb _ => hb.2⟩
                    · rcases hb with h | h
                      · exact ⟨by omega, Or.inl h⟩
                      · simp at h
                        exact ⟨by omega, Or.inr (by omega)⟩
                    · rw [Below.heap_setCell _ _ _ _ (by simpa using hb.1), Below.heap_setCell _ _ _ _ (by simpa using hb.1)]
                   generalize ((w15.setCell ⟨w12.heap.size + 1, 0, none⟩ (.string t15.name)).setCell ⟨w12.heap.size + 1, 1, none⟩ (.slice a15 t15.args.length c15)) = W16 at *
                   obtain ⟨B16, hB16⟩ : ∃ B16, w12.heap.size + 1 = B16 := ⟨_, rfl⟩
                   rw [hB16]
                   have HBK : Hid (Blk W16 B16 #[.string t15.name, .slice a15 t15.args.length c15] 25) := by
                     unfold Hid
                     rw [← hB16]
                     exact HA.out.2.1
                   clear hB16)
              have HF := hide (HFI.out W16 HA.out.1 HA.out.2.2)
              clear HA HFI hb15 hb16 hS15 hs15
              have b0 := HBK.out.cell 0
              have b1 := HBK.out.cell 1
              have t0' : W16.cell? ⟨w12.heap.size, 0, none⟩ = some (.string t12.name) := HF.out.2.2.2.2.2.cell 0
              have t1' : W16.cell? ⟨w12.heap.size, 1, none⟩ = some (.slice a12 t12.args.length c12) := HF.out.2.2.2.2.2.cell 1
              clear t0 t1
              cases ok15 with
              | false =>
                go_wp2_with fail
                go_ret
                exact ⟨rfl, HF.out.1⟩
              | true =>
                have HT15 := hide (hok15 rfl)
                clear hok15 hkk15
                go_wp2_with fail
                refine (size_any t15 _ 200 W16 (fun b => b < wr.heap.size ∨ w11.heap.size ≤ b) ⟨_, _, rfl, HF.out.2.2.2.2.1⟩ (by omega) (by omega)).mono ?_
                rintro e w17 ⟨rfl, hb17⟩
                have HB17 := hide (HF.out.1.trans (hb17.mono HF.out.1.size))
                by_cases h200 : 200 < sizeL [t15]
                · have hmin : (200 : Int) < min (sizeL [t15] : Int) (200 + 1) := by omega
                  go_wp2_with fail
                  go_ret
                  exact ⟨rfl, HB17.out⟩
                · have hmin : ¬ (200 : Int) < min (sizeL [t15] : Int) (200 + 1) := by omega
                  have HPR : Hid (RbPair sB (pickN (y1.tdiv 3) 3) ⟨t12, t15⟩) := ⟨hok12, hzt, HT15.out, by show sizeL [t15] ≤ 200; omega⟩
                  have P0 := hide (HF.out.2.2.2.2.2.below hb17 HF.out.2.2.2.2.2.lt)
                  have P1 := hide (HBK.out.below hb17 HBK.out.lt)
                  have r0 := P0.out.cell 0
                  have r1 := P0.out.cell 1
                  have r2 := P1.out.cell 0
                  have r3 := P1.out.cell 1
                  have hlenc : cs9.length ≤ 1000000 := by omega
                  have hNN : wr.heap.size ≤ w11.heap.size := hN9
                  obtain ⟨v18, w18, hrun, hrow18, hg18, hown18⟩ := pairs_append HROW9.out hNN (fun _ h => h) (HF.out.2.1.trans (hb17.mono HF.out.2.1.size)) (⟨t12, t15⟩, (a12, c12), (a15, c15)) ⟨(HF.out.2.2.2.1.later hb17).mono fun b hb _ => Or.inr hb, HF.out.2.2.2.2.1.later hb17⟩ hlenc w17.heap.size rfl
                  have HRUN := hide hrun
                  have HROW18 := hide hrow18
                  have hltr := HROW9.out.own.lt
                  have hz17 := hb17.size
                  have hzw : w.heap.size ≤ wr.heap.size := HWR.out.size
                  have HB18 : Hid (Below w.heap.size w w18) := (HB17.out.alloc HB17.out.size _).grown hg18 (by have := HB17.out.size; simp; omega) (fun j hj => by have := (hltr j hj).1; omega)
                  have HV18 : Hid (BV w18 (fun b => b < wr.heap.size) (.slice a7 3 c7) sB) := by
                    have hs17 := HF.out.2.1.size
                    refine ((HF.out.2.2.1.later hb17).alloc _).kept fun b hb => hg18.block b (by simp; omega) (fun e => by have := (hltr b e.symm).1; omega)
                  have hN18 : wr.heap.size ≤ w18.heap.size := by
                    have h1 := hg18.size
                    have h2 := HF.out.2.1.size
                    simp at h1
                    omega
                  have HALL18 : Hid (∀ x ∈ cs9 ++ [((⟨t12, t15⟩, (a12, c12), (a15, c15)) : Pc)], RbPair sB (pickN (y1.tdiv 3) 3) x.1) := fun x hx => by
                    rcases List.mem_append.1 hx with hx | hx
                    · exact HALL9.out x hx
                    · have e : x = (⟨t12, t15⟩, (a12, c12), (a15, c15)) := by simpa using hx
                      subst e
                      exact HPR.out
                  clear hrun hrow18 hg18 hown18 hltr hb17 b0 b1 t0' t1'
                  go_wp2_with (at_builtin; refine wpList_append_eq rfl _ _ _ _ rfl rfl rfl HRUN.out ?_)
                  go_roundw
                  case rel => exact ⟨i9 + 1, _, by omega, by go_num, by simp; omega, hN18, HROW18.out, HV18.out, HALL18.out, HB18.out⟩
                  case measure => simp [intOf]; omega
          · have HQ := hide HROW9.out.qv
            have HLP : Hid (∀ p ∈ cs9.map (·.1), RbPair sB (pickN (y1.tdiv 3) 3) p) := fun p hp => by
              obtain ⟨x, hx, rfl⟩ := List.mem_map.1 hp
              exact HALL9.out x hx
            have hlenP : (cs9.map (·.1)).length ≤ 3 := by simp; omega
            generalize cs9.map (·.1) = lsP at *
            have hmayP : ∀ p ∈ lsP, mayE p.l = 0 ∧ mayE p.r = 0 := fun p hp => by
              have h1 := rb_err HSX.out (HLP.out p hp)
              have h2 := HLP.out p hp
              exact ⟨mayE_mk h1.1 (by have := h2.2.1; omega), mayE_mk h1.2 h2.2.2.2⟩
            have HMP := hide hmayP
            have hp := pairsE_mk (by omega) hmayP
            obtain ⟨he, hl40, hUI, hVV⟩ := pairs_start hp
            obtain ⟨g, R, hR⟩ := u_ends0 lsP he
            obtain ⟨r1, r2, r3, r4, r5, r6⟩ := rb_all HSX.out HLP.out (by omega) hUI hR
            have HR3 := hide r3
            have HR5 := hide r5
            have HR6 := hide r6
            have HE : Hid (bindsE R.2 = 0) := r3.E (by omega) (by omega)
            have hk1 : (decide (bindsE R.2 = 0) && stB R.2 R.2) = true := by rw [HE.out, r4]; rfl
            have HK1 := hide hk1
            have HUN := hide (unify_some lsP hp R g hR r2 r1 u11 w10 _ HQ.out)
            clear he hl40 hUI hVV hR r1 r2 r3 r4 r5 r6 hmayP hp hk1 HLP HALL9 HROW9
            have hqs := HQ.out
            obtain ⟨a11, c11, rfl, ⟨hq1, hq2⟩, hq3⟩ := hqs
            clear hq3
            go_wp2_with fail
            refine HUN.out.mono ?_
            rintro e w20 ⟨v20, rfl, hv20, hb20⟩
            have HV20 := hide (hv20.mono (Y := fun _ => True) fun _ _ _ => trivial)
            have HB20 := hide (HB9.out.trans (hb20.mono HB9.out.size))
            have HQ20 := hide (HQ.out.later hb20)
            have HS20 := hide (HSV9.out.later hb20)
            obtain ⟨a20, c20, rfl, _, _⟩ := hv20
            clear hb20 HUN
            go_wp2_with fail
            refine (kind_any R.2 _ w20 _ HV20.out).mono ?_
            rintro e w21 ⟨rfl, hb21⟩
            rw [HK1.out, HE.out]
            have HV21 := hide (HV20.out.later hb21)
            have HB21 := hide (HB20.out.trans (hb21.mono HB20.out.size))
            have HQ21 := hide (HQ20.out.later hb21)
            have HS21 := hide (HS20.out.later hb21)
            clear hb21 HV20 HQ20 HS20
            go_wp2_with fail
            refine (FA.out w21).mono ?_
            rintro e w22 ⟨rfl, hb22⟩
            have HV22 := hide (HV21.out.later hb22)
            have HB22 := hide (HB21.out.trans (hb22.mono HB21.out.size))
            have HQ22 := hide (HQ21.out.later hb22)
            have HS22 := hide (HS21.out.later hb22)
            clear hb22 HV21 HQ21 HS21
            go_wp2_with fail
            go_loopw [21] (fun i w9 => R3Inv w lsP R.2 sB (.slice a11 lsP.length c11) (.slice a20 R.2.length c20) (.slice a7 3 c7) i w9) (fun i w9 => lsP.length - (intOf i).toNat)
            case atStart => exact ⟨0, Nat.zero_le _, rfl, HQ22.out.mono fun _ _ _ => trivial, HV22.out, HS22.out.mono fun _ _ _ => trivial, HB22.out⟩
            case round =>
              obtain ⟨j, hj, rfl, hq3, hv3, hs3, hb3⟩ := hrel
              have HQ3 := hide hq3
              have HV3 := hide hv3
              have HS3 := hide hs3
              have HB3 := hide hb3
              clear hq3 hv3 hs3 hb3 HQ22 HV22 HS22 HB22
              by_cases hlj : j < lsP.length
              · have hlj2 : (j : Int) < (lsP.length : Int) := by omega
                obtain ⟨hPeq, hPsz⟩ := HR5.out lsP[j] (List.getElem_mem hlj)
                obtain ⟨hPm1, hPm2⟩ := HMP.out lsP[j] (List.getElem_mem hlj)
                obtain ⟨b4, o4, x1, d1, x2, d2, e4, k0, k1, k2, k3, hl4, hr4⟩ := HQ3.out.get j hlj
                subst e4
                have AL := hide (fun w' (h1 : BV w' (fun _ => True) (.slice a20 R.2.length c20) R.2) (h2 : Sl w' (fun _ => True) x1 lsP[j].l.args) => apply_small HE.out hPm1 hPsz (.slice a20 R.2.length c20) (.agg #[.string lsP[j].l.name, .slice x1 lsP[j].l.args.length d1]) w' (fun _ => True) h1 ⟨_, _, rfl, h2⟩)
                have AR := hide (fun w' (h1 : BV w' (fun _ => True) (.slice a20 R.2.length c20) R.2) (h2 : Sl w' (fun _ => True) x2 lsP[j].r.args) => apply_small HE.out hPm2 (by rw [← hPeq]; exact hPsz) (.slice a20 R.2.length c20) (.agg #[.string lsP[j].r.name, .slice x2 lsP[j].r.args.length d2]) w' (fun _ => True) h1 ⟨_, _, rfl, h2⟩)
                rw [← hPeq] at AR
                have HL4 := hide hl4
                have HR4 := hide hr4
                have HC2 := hide k2
                have HC3 := hide k3
                have hbl4 : b4 < wr.heap.size := cell_lt k0
                clear hl4 hr4 hPeq hPsz hPm1 hPm2 k2 k3
                generalize hA1 : onT R.2 lsP[j].l = A1 at *
                generalize lsP[j].l = pl at *
                generalize lsP[j].r = pr at *
                clear hA1
                go_wp2_with fail
                refine (AL.out wr HV3.out HL4.out).mono ?_
                rintro e w31 ⟨a31, c31, rfl, hs31, hb31⟩
                have hbA : Below w31.heap.size w31 (w31.alloc (.cells #[.string A1.name, .slice a31 A1.args.length c31] 25)) := (Below.refl _ _).alloc (Nat.le_refl _) _
                have hb32 := hb31.trans (hbA.mono hb31.size)
                have A32 := hide (Blk.new w31 #[.string A1.name, .slice a31 A1.args.length c31] 25)
                have S32 := hide (hs31.later hbA)
                have D32 := hide hb32
                have q2 := (hb32.cell (p := ⟨b4, o4 + j * 4 + 2, none⟩) hbl4).trans HC2.out
                have q3 := (hb32.cell (p := ⟨b4, o4 + j * 4 + 3, none⟩) hbl4).trans HC3.out
                clear hbA hb31 hs31 hb32 AL
                go_wp2_with fail
                generalize w31.alloc (.cells #[.string A1.name, .slice a31 A1.args.length c31] 25) = w32 at *
                generalize w31.heap.size = P32 at *
                refine (AR.out w32 (HV3.out.later D32.out) (HR4.out.later D32.out)).mono ?_
                rintro e w33 ⟨a33, c33, rfl, hs33, hb33⟩
                have hbA : Below w33.heap.size w33 (w33.alloc (.cells #[.string A1.name, .slice a33 A1.args.length c33] 25)) := (Below.refl _ _).alloc (Nat.le_refl _) _
                have hb34 := hb33.trans (hbA.mono hb33.size)
                have B34 := hide (Blk.new w33 #[.string A1.name, .slice a33 A1.args.length c33] 25)
                have A34 := hide (A32.out.below hb34 A32.out.lt)
                have S34 := hide (S32.out.later hb34)
                have T34 := hide (hs33.later hbA)
                have D34 := hide (D32.out.trans (hb34.mono D32.out.size))
                have g0 := A34.out.cell 0
                have g1 := A34.out.cell 1
                have g2 := B34.out.cell 0
                have g3 := B34.out.cell 1
                clear hbA hb33 hs33 hb34 AR q2 q3
                go_wp2_with fail
                generalize w33.alloc (.cells #[.string A1.name, .slice a33 A1.args.length c33] 25) = w34 at *
                generalize w33.heap.size = P34 at *
                refine (sameR_all A1 A1 _ _ w34 (fun _ => True) (fun _ => True) ⟨_, _, rfl, S34.out⟩ ⟨_, _, rfl, T34.out⟩).mono ?_
                rintro e w35 ⟨rfl, hb35⟩
                rw [sameB_refl]
                have D35 := hide (D34.out.trans (hb35.mono D34.out.size))
                clear hb35 g0 g1 g2 g3
                go_wp2_with fail
                go_roundw
                case rel => exact ⟨j + 1, by omega, by go_num, HQ3.out.later D35.out, HV3.out.later D35.out, HS3.out.later D35.out, HB3.out.trans (D35.out.mono HB3.out.size)⟩
                case measure => simp [intOf]; omega
              · go_wp2_with fail
                have hbN : Below wr.heap.size wr (wr.alloc (.cells #[.string ⟨#[88]⟩, .string ⟨#[89]⟩, .string ⟨#[90]⟩, .string ⟨#[85]⟩] 9)) := (Below.refl _ _).alloc (Nat.le_refl _) _
                have N4 := hide (Blk.new wr #[.string ⟨#[88]⟩, .string ⟨#[89]⟩, .string ⟨#[90]⟩, .string ⟨#[85]⟩] 9)
                have HV4 := hide (HV3.out.later hbN)
                have HS4 := hide (HS3.out.later hbN)
                have HB4 := hide (HB3.out.trans (hbN.mono HB3.out.size))
                clear hbN HV3 HS3 HB3 HQ3
                generalize wr.alloc (.cells #[.string ⟨#[88]⟩, .string ⟨#[89]⟩, .string ⟨#[90]⟩, .string ⟨#[85]⟩] 9) = w40 at *
                generalize wr.heap.size = NB at *
                go_loopw [27] (fun i w9 => R4Inv w NB R.2 sB (.slice a20 R.2.length c20) (.slice a7 3 c7) i w9) (fun i w9 => 4 - (intOf i).toNat)
                case atStart => exact ⟨0, by omega, rfl, N4.out, HV4.out, HS4.out, HB4.out⟩
                case round =>
                  obtain ⟨i4, hi4, rfl, hn4, hv4, hs4, hb4⟩ := hrel
                  have HN5 := hide hn4
                  have HV5 := hide hv4
                  have HS5 := hide hs4
                  have HB5 := hide hb4
                  clear hn4 hv4 hs4 hb4 N4 HV4 HS4 HB4
                  by_cases hl4 : i4 < 4
                  · have hl42 : (i4 : Int) < 4 := by omega
                    obtain ⟨nm, hnm, hnk⟩ := name_at i4 hl4
                    obtain ⟨hz6, hg6⟩ := HR6.out nm hnm
                    have hmayN : mayE (⟨nm, []⟩ : Tm) = 0 := mayE_mk (err_leaf ((show ∀ n ∈ [xN, yN, zN, uN], nameB n = true by decide) _ hnm)) (by simp [sizeL])
                    have c4 : wr.cell? ⟨NB, i4, none⟩ = some (.string nm) := (HN5.out.cell i4).trans hnk
                    have HNK := hide hnk
                    clear hnk
                    have hzl : sizeL [onT sB ⟨nm, []⟩] ≤ 2000 := by
                      have := HSX.out.size (t := ⟨nm, []⟩) (by simp [sizeL])
                      omega
                    have HLF := hide (fun (w' : World) (hw' : BV w' (fun _ => True) (.slice a7 3 c7) sB) => on_small sB ⟨nm, []⟩ (.slice a7 3 c7) (.agg #[.string nm, .slice none 0 0]) w' (fun _ => True) hw' ⟨none, 0, rfl, by simp, Or.inl rfl⟩ (by simp [sizeL]) hzl)
                    have HAP := hide (fun (w' : World) (hw' : BV w' (fun _ => True) (.slice a20 R.2.length c20) R.2) => apply_small HE.out hmayN (by omega) (.slice a20 R.2.length c20) (.agg #[.string nm, .slice none 0 0]) w' (fun _ => True) hw' ⟨none, 0, rfl, by simp, Or.inl rfl⟩)
                    have HON := hide (fun (w' : World) (a' : Option Addr) (c' : Nat) (hw' : BV w' (fun _ => True) (.slice a7 3 c7) sB) (hs' : Sl w' (fun _ => True) a' (onT R.2 ⟨nm, []⟩).args) => on_small sB (onT R.2 ⟨nm, []⟩) (.slice a7 3 c7) (.agg #[.string (onT R.2 ⟨nm, []⟩).name, .slice a' (onT R.2 ⟨nm, []⟩).args.length c']) w' (fun _ => True) hw' ⟨_, _, rfl, hs'⟩ (by omega) (by rw [hg6]; exact hzl))
                    rw [hg6] at HON
                    clear hzl hg6 hz6 hmayN hnm
                    generalize onT R.2 ⟨nm, []⟩ = A2 at *
                    generalize onT sB ⟨nm, []⟩ = A3 at *
                    go_wp2_with fail
                    refine (leaf_any _ _).mono ?_
                    rintro e w41 ⟨rfl, hb41⟩
                    have D41 := hide hb41
                    clear hb41
                    go_wp2_with fail
                    refine (HAP.out w41 (HV5.out.later D41.out)).mono ?_
                    rintro e w42 ⟨a42, c42, rfl, hs42, hb42⟩
                    have hbA : Below w42.heap.size w42 (w42.alloc (.cells #[.string A2.name, .slice a42 A2.args.length c42] 25)) := (Below.refl _ _).alloc (Nat.le_refl _) _
                    have hb43 := hb42.trans (hbA.mono hb42.size)
                    have A43 := hide (Blk.new w42 #[.string A2.name, .slice a42 A2.args.length c42] 25)
                    have S43 := hide (hs42.later hbA)
                    have D43 := hide (D41.out.trans (hb43.mono D41.out.size))
                    have g0 := A43.out.cell 0
                    have g1 := A43.out.cell 1
                    clear hbA hb42 hs42 hb43 HAP
                    go_wp2_with fail
                    generalize w42.alloc (.cells #[.string A2.name, .slice a42 A2.args.length c42] 25) = w43 at *
                    generalize w42.heap.size = P43 at *
                    refine (HON.out w43 a42 c42 (HS5.out.later D43.out) S43.out).mono ?_
                    rintro e w44 ⟨a44, c44, rfl, hs44, hb44⟩
                    have hbA : Below w44.heap.size w44 (w44.alloc (.cells #[.string A3.name, .slice a44 A3.args.length c44] 25)) := (Below.refl _ _).alloc (Nat.le_refl _) _
                    have hb45 := hb44.trans (hbA.mono hb44.size)
                    have B45 := hide (Blk.new w44 #[.string A3.name, .slice a44 A3.args.length c44] 25)
                    have T45 := hide (hs44.later hbA)
                    have D45 := hide (D43.out.trans (hb45.mono D43.out.size))
                    have c45 : (w44.alloc (.cells #[.string A3.name, .slice a44 A3.args.length c44] 25)).cell? ⟨NB, i4, none⟩ = some (.string nm) := ((HN5.out.below D45.out HN5.out.lt).cell i4).trans HNK.out
                    clear hbA hb44 hs44 hb45 HON g0 g1
                    go_wp2_with fail
                    generalize w44.alloc (.cells #[.string A3.name, .slice a44 A3.args.length c44] 25) = w45 at *
                    generalize w44.heap.size = P45 at *
                    refine (leaf_any _ _).mono ?_
                    rintro e w46 ⟨rfl, hb46⟩
                    have D46 := hide (D45.out.trans (hb46.mono D45.out.size))
                    have B46 := hide (B45.out.below hb46 B45.out.lt)
                    have T46 := hide (T45.out.later hb46)
                    clear hb46 c45
                    go_wp2_with fail
                    refine (HLF.out w46 (HS5.out.later D46.out)).mono ?_
                    rintro e w47 ⟨a47, c47, rfl, hs47, hb47⟩
                    have hbA : Below w47.heap.size w47 (w47.alloc (.cells #[.string A3.name, .slice a47 A3.args.length c47] 25)) := (Below.refl _ _).alloc (Nat.le_refl _) _
                    have hb48 := hb47.trans (hbA.mono hb47.size)
                    have C48 := hide (Blk.new w47 #[.string A3.name, .slice a47 A3.args.length c47] 25)
                    have B48 := hide (B46.out.below hb48 B46.out.lt)
                    have T48 := hide (T46.out.later hb48)
                    have U48 := hide (hs47.later hbA)
                    have D48 := hide (D46.out.trans (hb48.mono D46.out.size))
                    have g0 := B48.out.cell 0
                    have g1 := B48.out.cell 1
                    have g2 := C48.out.cell 0
                    have g3 := C48.out.cell 1
                    clear hbA hb47 hs47 hb48 HLF
                    go_wp2_with fail
                    generalize w47.alloc (.cells #[.string A3.name, .slice a47 A3.args.length c47] 25) = w48 at *
                    generalize w47.heap.size = P48 at *
                    refine (sameR_all A3 A3 _ _ w48 (fun _ => True) (fun _ => True) ⟨_, _, rfl, T48.out⟩ ⟨_, _, rfl, U48.out⟩).mono ?_
                    rintro e w49 ⟨rfl, hb49⟩
                    rw [sameB_refl]
                    have D49 := hide (D48.out.trans (hb49.mono D48.out.size))
                    clear hb49 g0 g1 g2 g3
                    go_wp2_with fail
                    go_roundw
                    case rel => exact ⟨i4 + 1, by omega, by go_num, HN5.out.below D49.out HN5.out.lt, HV5.out.later D49.out, HS5.out.later D49.out, HB5.out.trans (D49.out.mono HB5.out.size)⟩
                    case measure => simp [intOf]; omega
                  · go_wp2_with fail
                    go_ret
                    exact ⟨rfl, HB5.out⟩
#print axioms topRobinson_any
end Go.Proofs.Ytpjdkdebjkpmmaj

/- Texts read as terms: what both readers do. -/
namespace Go.Proofs.Ytpjdkdebjkpmmaj
open Go.RowKit
set_option linter.unusedSimpArgs false
set_option linter.unusedVariables false

/-- Where the letters and digits from i on end. -/
def stopF (s : ByteArray) : Nat → Nat → Nat
  | 0, i => i
  | f + 1, i => if i < s.size ∧ alnB (byteAt s i) = true then stopF s f (i + 1) else i
def stopAt (s : ByteArray) (i : Nat) : Nat := stopF s (s.size - i) i

theorem stopF_ge (s : ByteArray) : ∀ f i, i ≤ stopF s f i
  | 0, i => Nat.le_refl _
  | f + 1, i => by
    unfold stopF; split
    · have := stopF_ge s f (i + 1); omega
    · exact Nat.le_refl _
theorem stopF_le (s : ByteArray) : ∀ f i, i ≤ s.size → stopF s f i ≤ s.size
  | 0, i, h => h
  | f + 1, i, h => by
    unfold stopF; split
    · rename_i hc; exact stopF_le s f (i + 1) hc.1
    · exact h
theorem stopAt_ge (s : ByteArray) (i : Nat) : i ≤ stopAt s i := stopF_ge s _ i
theorem stopAt_le (s : ByteArray) {i : Nat} (h : i ≤ s.size) : stopAt s i ≤ s.size := stopF_le s _ i h
theorem stopAt_go {s : ByteArray} {i : Nat} (h : i < s.size) (ha : alnB (byteAt s i) = true) : stopAt s i = stopAt s (i + 1) := by
  have e : s.size - i = (s.size - (i + 1)) + 1 := by omega
  unfold stopAt
  rw [e, stopF, if_pos ⟨h, ha⟩]
theorem stopAt_end {s : ByteArray} {i : Nat} (h : ¬ (i < s.size ∧ alnB (byteAt s i) = true)) : stopAt s i = i := by
  unfold stopAt
  cases hf : s.size - i with
  | zero => rfl
  | succ f => rw [stopF, if_neg h]

/-- What reading gives: an error (0: none), a term, where it ended, how many knots there were. -/
structure Rd where
  err : Int
  t : Tm
  pos : Nat
  k : Nat
def noRd (e : Int) : Rd := ⟨e, ⟨⟨#[]⟩, []⟩, 0, 0⟩

/-- A term from i on; or, behind a name and some terms below it, the next one from behind i on. -/
def rd (s : ByteArray) : Nat → Option (ByteArray × List Tm) → Nat → Nat → Rd
  | 0, _, _, _ => noRd 99
  | f + 1, none, i, k =>
    if stopAt s i = i then noRd (if i = s.size then 13 else 12)
    else if nameB (s.extract i (stopAt s i)) = false then noRd 1
    else if 200 < k + 1 then noRd 3
    else if stopAt s i < s.size ∧ byteAt s (stopAt s i) = 40 then
      if varB (s.extract i (stopAt s i)) = true then noRd 2 else rd s f (some (s.extract i (stopAt s i), [])) (stopAt s i) (k + 1)
    else ⟨0, ⟨s.extract i (stopAt s i), []⟩, stopAt s i, k + 1⟩
  | f + 1, some (nm, acc), i, k =>
    if (rd s f none (i + 1) k).err ≠ 0 then noRd (rd s f none (i + 1) k).err
    else if (rd s f none (i + 1) k).pos = s.size then noRd 13
    else if byteAt s (rd s f none (i + 1) k).pos = 41 then ⟨0, ⟨nm, acc ++ [(rd s f none (i + 1) k).t]⟩, (rd s f none (i + 1) k).pos + 1, (rd s f none (i + 1) k).k⟩
    else if byteAt s (rd s f none (i + 1) k).pos = 44 then rd s f (some (nm, acc ++ [(rd s f none (i + 1) k).t])) (rd s f none (i + 1) k).pos (rd s f none (i + 1) k).k
    else noRd 12

theorem noRd_err (e : Int) (h : e ≠ 0) : (noRd e).err ≠ 0 := h

/-- Where it ends lies behind where it began, and within the text. -/
theorem rd_pos (s : ByteArray) : ∀ f m i k, (rd s f m i k).err = 0 → i ≤ s.size → (m.isSome = true → i < s.size) → i < (rd s f m i k).pos ∧ (rd s f m i k).pos ≤ s.size := by
  intro f
  induction f with
  | zero => intro m i k h; simp [rd, noRd] at h
  | succ f ih =>
    intro m i k h hi hm
    match m with
    | none =>
      have h1 := stopAt_ge s i
      have h2 := stopAt_le s (i := i) (by omega)
      unfold rd at h ⊢
      split at h
      · exfalso; revert h; simp only [noRd]; split <;> omega
      · rename_i hne
        rw [if_neg hne]
        split at h
        · exfalso; revert h; simp [noRd]
        · rename_i h3
          rw [if_neg h3]
          split at h
          · exfalso; revert h; simp [noRd]
          · rename_i h4
            rw [if_neg h4]
            split at h
            · rename_i h5
              rw [if_pos h5]
              split at h
              · exfalso; revert h; simp [noRd]
              · rename_i h6
                rw [if_neg h6]
                have := ih _ _ _ h (by omega) (fun _ => h5.1)
                omega
            · rename_i h5
              rw [if_neg h5]
              exact ⟨by show i < stopAt s i; omega, h2⟩
    | some (nm, acc) =>
      unfold rd at h ⊢
      split at h
      · rename_i h1
        exact absurd h h1
      · rename_i h1
        rw [if_neg h1]
        simp only [ne_eq, Decidable.not_not] at h1
        split at h
        · exfalso; revert h; simp [noRd]
        · rename_i h2
          rw [if_neg h2]
          have hi2 : i < s.size := hm rfl
          · have h3 := ih none (i + 1) k h1 (by omega) (fun h => by cases h)
            split at h
            · rename_i h4
              rw [if_pos h4]
              exact ⟨by show i < (rd s f none (i + 1) k).pos + 1; omega, by show (rd s f none (i + 1) k).pos + 1 ≤ s.size; omega⟩
            · rename_i h4
              rw [if_neg h4]
              split at h
              · rename_i h5
                rw [if_pos h5]
                have := ih _ _ _ h (by omega) (fun _ => by omega)
                omega
              · exfalso; revert h; simp [noRd]
end Go.Proofs.Ytpjdkdebjkpmmaj

/- Walks: the reader's small functions. -/
namespace Go.Proofs.Ytpjdkdebjkpmmaj
open Go.RowKit
set_option linter.unusedSimpArgs false
set_option linter.unusedVariables false
set_option maxRecDepth 8000

theorem isSign_any (n : Int) (w : World) : Calls Try.prog 130 #[.int .u8 n] w fun e w' => e = .returned (.bool (alnB n)) ∧ w' = w := by
  go_enter Try.func130, Try.ntmps130
  go_wp2_with (first | (go_at_call 88; refine (isLetter_any _ _).mono ?_; rintro e w' ⟨rfl, rfl⟩) | (go_at_call 87; refine (isDigit_any _ _).mono ?_; rintro e w' ⟨rfl, rfl⟩))
  all_goals (go_ret; exact ⟨ret_bool (by simp_all [alnB]), rfl⟩)

/-- The reader's box. -/
def Bx (w : World) (B : Nat) (s : ByteArray) (i k : Nat) : Prop := Blk w B #[.string s, .int .i64 (i : Int), .int .i64 (k : Int)] 115
theorem Bx.c0 {w : World} {B i k : Nat} {s : ByteArray} (h : Bx w B s i k) : w.cell? ⟨B, 0, none⟩ = some (.string s) := Blk.cell h 0
theorem Bx.c1 {w : World} {B i k : Nat} {s : ByteArray} (h : Bx w B s i k) : w.cell? ⟨B, 1, none⟩ = some (.int .i64 (i : Int)) := Blk.cell h 1
theorem Bx.c2 {w : World} {B i k : Nat} {s : ByteArray} (h : Bx w B s i k) : w.cell? ⟨B, 2, none⟩ = some (.int .i64 (k : Int)) := Blk.cell h 2
theorem Bx.lt {w : World} {B i k : Nat} {s : ByteArray} (h : Bx w B s i k) : B < w.heap.size := Blk.lt h
theorem Bx.drewN {w : World} {B i k : Nat} {s : ByteArray} (h : Bx w B s i k) (n : Nat) : Bx (w.drewN n) B s i k := h
theorem Bx.next {w : World} {B i k : Nat} {s : ByteArray} (h : Bx w B s i k) : Bx (w.setCell ⟨B, 1, none⟩ (.int .i64 ((i : Int) + 1))) B s (i + 1) k := Blk.set h 1 _
theorem Bx.more {w : World} {B i k : Nat} {s : ByteArray} (h : Bx w B s i k) : Bx (w.setCell ⟨B, 2, none⟩ (.int .i64 ((k : Int) + 1))) B s i (k + 1) := Blk.set h 2 _

theorem atEnd_any (B i k : Nat) (s : ByteArray) (w : World) (h : Bx w B s i k) :
    Calls Try.prog 77 #[.pointer (some ⟨B, 0, none⟩)] w fun e w' => e = .returned (.bool (decide (i = s.size))) ∧ w' = w.drew := by
  have c0 := h.c0
  have c1 := h.c1
  clear h
  go_enter Try.func77, Try.ntmps77
  go_wp2_with fail
  go_region_held3 (fun w' => w'.cell? ⟨B, 0, none⟩ = some (.string s) ∧ w'.cell? ⟨B, 1, none⟩ = some (.int .i64 (i : Int))) (go_keep) (fail)
  go_wp2_with fail
  go_ret
  refine ⟨ret_bool ?_, rfl⟩
  rw [Bool.eq_iff_iff]; simp <;> omega

theorem refusal_any (B i k : Nat) (s : ByteArray) (w : World) (h : Bx w B s i k) :
    Calls Try.prog 104 #[.pointer (some ⟨B, 0, none⟩)] w fun e w' => e = .returned (.int .i64 (if i = s.size then 13 else 12)) ∧ w' = w.drew := by
  by_cases he : i = s.size
  all_goals
    go_enter Try.func104, Try.ntmps104
    go_wp2_with (go_at_call 77; refine (atEnd_any B i k s _ h).mono ?_; rintro e w' ⟨rfl, rfl⟩)
    all_goals (go_ret; simp_all)

theorem atEnd_yes (B i k : Nat) (s : ByteArray) (he : i = s.size) (w : World) (h : Bx w B s i k) :
    Calls Try.prog 77 #[.pointer (some ⟨B, 0, none⟩)] w fun e w' => e = .returned (.bool true) ∧ ∃ m, w' = w.drewN m := by
  have h1 := atEnd_any B i k s w h
  rw [show decide (i = s.size) = true by simpa using he] at h1
  exact h1.mono fun e w' h => ⟨h.1, 1, h.2⟩
theorem atEnd_no (B i k : Nat) (s : ByteArray) (he : ¬ i = s.size) (w : World) (h : Bx w B s i k) :
    Calls Try.prog 77 #[.pointer (some ⟨B, 0, none⟩)] w fun e w' => e = .returned (.bool false) ∧ ∃ m, w' = w.drewN m := by
  have h1 := atEnd_any B i k s w h
  rw [show decide (i = s.size) = false by simpa using he] at h1
  exact h1.mono fun e w' h => ⟨h.1, 1, h.2⟩

/-- What taking a sign does. -/
def TookPost (w : World) (B i k : Nat) (s : ByteArray) (c : Int) (e : Ending) (w' : World) : Prop :=
  if i < s.size ∧ byteAt s i = c then e = .returned (.bool true) ∧ Bx w' B s (i + 1) k ∧ Ex B w w' ∧ w'.heap.size = w.heap.size else e = .returned (.bool false) ∧ ∃ n, w' = w.drewN n

set_option maxHeartbeats 1000000 in
theorem take_any (B i k : Nat) (s : ByteArray) (c : Int) (hi : i ≤ s.size) (hs : s.size ≤ 4000) (w : World) (h : Bx w B s i k) :
    Calls Try.prog 103 #[.pointer (some ⟨B, 0, none⟩), .int .u8 c] w fun e w' => TookPost w B i k s c e w' := by
  have H := hide h
  have c0 := h.c0
  have c1 := h.c1
  have cf := Blk.frozen h
  clear h
  by_cases he : i = s.size
  · have HP : Hid (∀ w', (∃ n, w' = w.drewN n) → TookPost w B i k s c (.returned (.bool false)) w') := fun w' hw => by
      unfold TookPost; rw [if_neg (by omega)]; exact ⟨rfl, hw⟩
    have HE := hide he
    clear he hi
    go_enter Try.func103, Try.ntmps103
    go_wp2_with fail
    go_quiet ((go_at_call 77; refine Calls.quiet_of (atEnd_yes B i k s HE.out _ ?_); exact H.out.drewN _))
    go_wp2_with fail
    go_ret
    exact HP.out _ ⟨_, rfl⟩
  · have hlt : i < s.size := by omega
    have hb := hide (byteAt_of hlt)
    have HE := hide he
    clear he
    by_cases hc : byteAt s i = c
    · have hc2 : ((s[i].toNat : Int) != c) = false := by rw [hb.out, hc]; simp
      have HC := hide hc
      clear hc
      go_enter Try.func103, Try.ntmps103
      go_wp2_with fail
      go_quiet ((go_at_call 77; refine Calls.quiet_of (atEnd_no B i k s HE.out _ ?_); exact H.out.drewN _))
      go_wp2_with fail
      go_ret
      unfold TookPost
      rw [if_pos ⟨hlt, HC.out⟩]
      exact ⟨rfl, (H.out.drewN _).next, ((Ex.refl _ _).drewN _).set _ _, by simp [World.setCell]⟩
    · have hc2 : ((s[i].toNat : Int) != c) = true := by rw [hb.out]; simpa using hc
      have HC := hide hc
      clear hc
      go_enter Try.func103, Try.ntmps103
      go_wp2_with fail
      go_quiet ((go_at_call 77; refine Calls.quiet_of (atEnd_no B i k s HE.out _ ?_); exact H.out.drewN _))
      go_wp2_with fail
      go_ret
      unfold TookPost
      rw [if_neg (fun h => HC.out h.2)]
      exact ⟨rfl, _, rfl⟩
#print axioms take_any
end Go.Proofs.Ytpjdkdebjkpmmaj

/- Walks: the reader's names. -/
namespace Go.Proofs.Ytpjdkdebjkpmmaj
open Go.RowKit
set_option linter.unusedSimpArgs false
set_option linter.unusedVariables false
set_option maxRecDepth 8000

/-- How far the reader is. -/
def rdAt (w : World) (B : Nat) : Nat := match w.cell? ⟨B, 1, none⟩ with
  | some (.int _ n) => n.toNat
  | _ => 0
theorem Bx.at {w : World} {B i k : Nat} {s : ByteArray} (h : Bx w B s i k) : rdAt w B = i := by unfold rdAt; rw [h.c1]; simp

/-- What reading a name does: the name, or what is thrown. -/
def NamePost (w : World) (B i k : Nat) (s : ByteArray) (e : Ending) (w' : World) : Prop :=
  if stopAt s i = i then e = .panicked [{ v := .iface 33 (.int .i64 (if i = s.size then 13 else 12)), recovered := false }] ∧ Ex B w w'
  else if nameB (s.extract i (stopAt s i)) = false then e = .panicked [{ v := .iface 33 (.int .i64 1), recovered := false }] ∧ Ex B w w'
  else e = .returned (.string (s.extract i (stopAt s i))) ∧ Bx w' B s (stopAt s i) k ∧ Ex B w w' ∧ w'.heap.size = w.heap.size

theorem ext_size (s : ByteArray) {i j : Nat} (hj : j ≤ s.size) : (s.extract i j).size = j - i := by
  rw [ByteArray.size_extract]; omega
theorem ext_empty {s : ByteArray} {i j : Nat} (hj : j ≤ s.size) (h : j ≤ i) : (s.extract i j).toList.isEmpty = true := isEmpty_zero (by rw [ext_size s hj]; omega)
theorem ext_some {s : ByteArray} {i j : Nat} (hj : j ≤ s.size) (h : i < j) : (s.extract i j).toList.isEmpty = false := isEmpty_pos (by rw [ext_size s hj]; omega)

theorem name_ok {w wr : World} {B i j k n : Nat} {s : ByteArray} (hst : stopAt s i = j) (hji : ¬ j = i) (hn : nameB (s.extract i j) = true) (hx : Bx wr B s j k) (he : Ex B w wr) (hz : wr.heap.size = w.heap.size) : NamePost w B i k s (.returned (.string (s.extract i j))) (wr.drewN n) := by
  unfold NamePost
  rw [hst, if_neg hji, if_neg (by rw [hn]; simp)]
  exact ⟨rfl, hx, he.drewN n, hz⟩

theorem name_bad {w wr : World} {B i j k n : Nat} {s : ByteArray} (hst : stopAt s i = j) (hji : ¬ j = i) (hn : nameB (s.extract i j) = false) (he : Ex B w wr) : NamePost w B i k s (.panicked [{ v := .iface 33 (.int .i64 1), recovered := false }]) (wr.drewN n) := by
  unfold NamePost
  rw [hst, if_neg hji, if_pos hn]
  exact ⟨rfl, he.drewN n⟩
theorem name_none {w wr : World} {B i j k n : Nat} {s : ByteArray} {r : Int} (hst : stopAt s i = j) (hji : j = i) (hr : (if j = s.size then (13 : Int) else 12) = r) (he : Ex B w wr) : NamePost w B i k s (.panicked [{ v := .iface 33 (.int .i64 r), recovered := false }]) (wr.drewN n) := by
  unfold NamePost
  rw [hst, if_pos hji, ← hji, hr]
  exact ⟨rfl, he.drewN n⟩

def NmInv (w : World) (B i k : Nat) (s : ByteArray) (wr : World) : Prop := ∃ j, i ≤ j ∧ j ≤ s.size ∧ stopAt s i = stopAt s j ∧ Bx wr B s j k ∧ Ex B w wr ∧ wr.heap.size = w.heap.size

set_option maxHeartbeats 1000000 in
theorem name_any (B i k : Nat) (s : ByteArray) (hi : i ≤ s.size) (hs : s.size ≤ 4000) (w : World) (h : Bx w B s i k) :
    Calls Try.prog 102 #[.pointer (some ⟨B, 0, none⟩)] w fun e w' => NamePost w B i k s e w' := by
  have H := hide h
  have c0 := h.c0
  have c1 := h.c1
  clear h
  go_enter Try.func102, Try.ntmps102
  go_wp2_with fail
  go_loopw [] (fun wr => NmInv w B i k s wr) (fun wr => (s.size - rdAt wr B))
  case atStart => exact ⟨i, Nat.le_refl _, hi, rfl, H.out, Ex.refl _ _, rfl⟩
  case round =>
    obtain ⟨j, hij, hj, hst, hbx, hex, hsz⟩ := hrel
    have HX := hide hbx
    have HE := hide hex
    have HS := hide hst
    have HZ := hide hsz
    have c0 := hbx.c0
    have c1 := hbx.c1
    have cf := Blk.frozen hbx
    clear hbx hex hst hsz
    by_cases he : j = s.size
    · have HEQ := hide he
      have HST : Hid (stopAt s i = j) := HS.out.trans (stopAt_end (fun h => by omega))
      clear he
      go_wp2_with fail
      go_quiet (first | (go_at_call 77; refine Calls.quiet_of (atEnd_yes B j k s HEQ.out _ ?_); exact HX.out.drewN _))
      go_wp2_with fail
      have hij2 : (i : Int) ≤ (j : Int) := by omega
      have hj2 : (j : Int) ≤ (s.size : Int) := by omega
      go_quiet (fail)
      by_cases hji : j = i
      · have hem := ext_empty (s := s) hj (Nat.le_of_eq hji)
        have HJI := hide hji
        clear hji
        go_wp2_with fail
        refine (refusal_any B j k s _ (by exact HX.out)).mono ?_
        rintro e w' ⟨rfl, rfl⟩
        generalize hr : (if j = s.size then (13 : Int) else 12) = r
        have HR := hide hr
        clear hr
        go_wp2_with fail
        exact ⟨rfl, name_none HST.out HJI.out HR.out HE.out⟩
      · have hem := ext_some (s := s) hj (show i < j by omega)
        have HJI := hide hji
        clear hji
        cases hn : nameB (s.extract i j) with
        | true =>
          have HN := hide hn
          clear hn
          go_wp2_with fail
          refine (isName_any _ _).mono ?_
          rintro e w' ⟨rfl, rfl⟩
          rw [HN.out]
          go_wp2_with fail
          go_ret
          exact name_ok HST.out HJI.out HN.out HX.out HE.out HZ.out
        | false =>
          have HN := hide hn
          clear hn
          go_wp2_with fail
          refine (isName_any _ _).mono ?_
          rintro e w' ⟨rfl, rfl⟩
          rw [HN.out]
          go_wp2_with fail
          exact ⟨rfl, name_bad HST.out HJI.out HN.out HE.out⟩
    · have hlt : j < s.size := by omega
      have HEQ := hide he
      clear he
      have hb := hide (byteAt_of hlt)
      cases ha : alnB (byteAt s j) with
      | true =>
        have HA := hide ha
        have HAW : Hid (∀ w, Calls Try.prog 130 #[.int .u8 (s[j].toNat : Int)] w fun e w' => e = .returned (.bool true) ∧ w' = w) := fun w => by
          have := isSign_any (s[j].toNat : Int) w
          rw [hb.out, HA.out] at this
          rw [hb.out]
          exact this
        clear ha
        go_wp2_with fail
        go_quiet (first | (go_at_call 77; refine Calls.quiet_of (atEnd_no B j k s HEQ.out _ ?_); exact HX.out.drewN _) | (go_at_call 130; refine Calls.quiet_of_same (HAW.out _)))
        go_wp2_with fail
        go_roundw
        case rel => exact ⟨j + 1, by omega, by omega, by rw [HS.out, stopAt_go hlt HA.out], (HX.out.drewN _).next, (HE.out.drewN _).set _ _, by have := HZ.out; simpa [World.setCell] using this⟩
        case measure =>
          have e1 := HX.out.at
          have e2 := ((HX.out.drewN nq).next).at
          rw [e1, e2]; omega
      | false =>
        have HA := hide ha
        have HAW : Hid (∀ w, Calls Try.prog 130 #[.int .u8 (s[j].toNat : Int)] w fun e w' => e = .returned (.bool false) ∧ w' = w) := fun w => by
          have := isSign_any (s[j].toNat : Int) w
          rw [hb.out, HA.out] at this
          rw [hb.out]
          exact this
        have HST : Hid (stopAt s i = j) := HS.out.trans (stopAt_end (fun h => by have h1 := h.2; rw [HA.out] at h1; cases h1))
        clear ha
        go_wp2_with fail
        go_quiet (first | (go_at_call 77; refine Calls.quiet_of (atEnd_no B j k s HEQ.out _ ?_); exact HX.out.drewN _) | (go_at_call 130; refine Calls.quiet_of_same (HAW.out _)))
        go_wp2_with fail
        have hij2 : (i : Int) ≤ (j : Int) := by omega
        have hj2 : (j : Int) ≤ (s.size : Int) := by omega
        go_quiet (fail)
        by_cases hji : j = i
        · have hem := ext_empty (s := s) hj (Nat.le_of_eq hji)
          have HJI := hide hji
          clear hji
          go_wp2_with fail
          refine (refusal_any B j k s _ (by exact HX.out)).mono ?_
          rintro e w' ⟨rfl, rfl⟩
          generalize hr : (if j = s.size then (13 : Int) else 12) = r
          have HR := hide hr
          clear hr
          go_wp2_with fail
          exact ⟨rfl, name_none HST.out HJI.out HR.out HE.out⟩
        · have hem := ext_some (s := s) hj (show i < j by omega)
          have HJI := hide hji
          clear hji
          cases hn : nameB (s.extract i j) with
          | true =>
            have HN := hide hn
            clear hn
            go_wp2_with fail
            refine (isName_any _ _).mono ?_
            rintro e w' ⟨rfl, rfl⟩
            rw [HN.out]
            go_wp2_with fail
            go_ret
            exact name_ok HST.out HJI.out HN.out HX.out HE.out HZ.out
          | false =>
            have HN := hide hn
            clear hn
            go_wp2_with fail
            refine (isName_any _ _).mono ?_
            rintro e w' ⟨rfl, rfl⟩
            rw [HN.out]
            go_wp2_with fail
            exact ⟨rfl, name_bad HST.out HJI.out HN.out HE.out⟩
#print axioms name_any
end Go.Proofs.Ytpjdkdebjkpmmaj
